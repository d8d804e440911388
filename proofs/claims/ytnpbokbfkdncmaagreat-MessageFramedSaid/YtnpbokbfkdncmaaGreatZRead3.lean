/-
  What the program's read answers of data of kind 3.
-/
import Derived.Test.YtnpbokbfkdncmaaGreatZReadL
namespace Go.Proofs.YtnpbokbfkdncmaaGreat
set_option linter.unusedSimpArgs false
set_option linter.unusedVariables false
open Go.RowKit Ru

set_option maxRecDepth 100000 in
set_option maxHeartbeats 40000000 in
theorem read3_any (A : Option Addr) (n c : Nat) (d : List UInt8) (w : World) (hs : Sl w A n c d) (hdl : d.length ≤ 100000) (hk : hd d = 3) : Calls Tryz.prog 24 #[.slice A n c] w (ReadPost w (readF d)) := by
  have HD := hid_ (fun (d0 : List UInt8) (h0 : d.drop 1 = d0) => show readF d = ⟨3, 0, 0, 0, 0, 0, 0, false, [], (memK (d0.drop 1) (hd d0)).1, []⟩ by unfold readF; rw [hk, h0, show partsF ((3 : Nat) : Int) = ⟨false, false, false, false, false, true, false⟩ from parts_3]; first | rfl | simp [List.drop_drop, okeq])
  have Hoc := hid_ (octet_any (w.heap.size + 1) (fun q => q = w.heap.size) d)
  rw [hk] at Hoc
  have Hpo := hid_ (fun W => partsof_any 3 W)
  rw [parts_3] at Hpo
  unfold PartsPost at Hpo
  have R0 := hid_ (rd_start hs (.cells (packCells zeroP ⟨none, 0, none, 0, none, 0⟩) 30) w.heap.size rfl)
  have W0 := hid_ ((whole_new w 30 (packCells zeroP ⟨none, 0, none, 0, none, 0⟩)).alloc (.cells #[.slice A n c] 91))
  have Hb0 := hid_ ((((Below.refl w.heap.size w).alloc (Nat.le_refl _) (.cells (packCells zeroP ⟨none, 0, none, 0, none, 0⟩) 30))).alloc (by simp) (.cells #[.slice A n c] 91))
  have Hlen := hid_ (show ((d.drop 1).drop 1).length ≤ 100000 by simp only [List.length_drop]; omega)
  clear hs hk hdl
  generalize hd0 : d.drop 1 = d0 at *
  have HD := hid_ (HD.out d0 rfl)
  try rw [hd0] at Hlen
  clear hd0
  go_enter Tryz.func24, Tryz.ntmps24
  go_wp2_with fail
  refine Calls.mono (Hoc.out _ R0.out) ?_
  rintro e w1 ⟨rfl, hr1, hg1⟩
  have W1 := hid_ (W0.out.grown hg1 (by intro e; injection e with e; omega))
  have Hb1 := hid_ (below_grown_ Hb0.out hg1 (by omega) (by simp <;> omega))
  have hz1 : w.heap.size + 1 < w1.heap.size := hr1.lt
  have R1 := hid_ (hr1.bar (.cells (packCells ⟨3, 0, 0, 0, 0, 0, 0, false, [], [], []⟩ ⟨none, 0, none, 0, none, 0⟩) 30) w1.heap.size rfl)
  have W2 := hid_ (W1.out.alloc (.cells (packCells ⟨3, 0, 0, 0, 0, 0, 0, false, [], [], []⟩ ⟨none, 0, none, 0, none, 0⟩) 30))
  have K2 := hid_ (whole_new w1 30 (packCells ⟨3, 0, 0, 0, 0, 0, 0, false, [], [], []⟩ ⟨none, 0, none, 0, none, 0⟩))
  have Hb2 := hid_ (Hb1.out.alloc Hb1.out.size (.cells (packCells ⟨3, 0, 0, 0, 0, 0, 0, false, [], [], []⟩ ⟨none, 0, none, 0, none, 0⟩) 30))
  clear hr1 hg1
  go_wp2_with fail
  refine Calls.mono (Hpo.out _) ?_
  rintro e w2 ⟨rfl, hb2⟩
  have hz2 : w1.heap.size < w2.heap.size := by have := hb2.size; simp at this; omega
  have S0 := hid_ (show St w (w.heap.size + 1) w1.heap.size w2.heap.size ⟨false, false, false, false, false, true, false⟩ (w2.alloc (.cells (partsCells ⟨false, false, false, false, false, true, false⟩) 75)) d0 ⟨3, 0, 0, 0, 0, 0, 0, false, [], [], []⟩ ⟨none, 0, none, 0, none, 0⟩ from
    ⟨(R1.out.below hb2).bar _ _ rfl, (W2.out.below hb2 W2.out.lt).alloc _, (K2.out.below hb2 K2.out.lt).alloc _, whole_new _ _ _, (Hb2.out.trans (hb2.mono Hb2.out.size)).alloc (by have := Hb2.out.size; have := hb2.size; omega) _, by omega, hz1, hz2⟩)
  clear hb2
  have hq1 : w.heap.size ≠ w1.heap.size := by omega
  have hq2 : w.heap.size ≠ w2.heap.size := by omega
  have hq3 : w1.heap.size ≠ w2.heap.size := by omega
  skip
  go_wp2_with fail
  refine Calls.mono (octet_any (w.heap.size + 1) _ d0 _ S0.out.rd) ?_
  rintro e w3 ⟨rfl, hr, hg⟩
  have T3 := hid_ (S0.out.call hg hr)
  clear hr hg
  have hlt3 := hd_lt d0
  generalize hx3 : hd d0 = N at *
  have HX3 := hid_ hx3
  clear hx3
  have S3 := hid_ (T3.out)
  obtain ⟨z0, z1, z2, z3, z4, z5, z6⟩ := part_facts T3.out.pt
  have f3 : ∀ o, w3.frozen? ⟨w1.heap.size, o, none⟩ = false := fun o => T3.out.pk.free o
  obtain ⟨p0, p1, p2, p3, p4, p5, p6, p7, p8, p9, p10⟩ := pack_facts T3.out.pk
  have r3 : ∀ o, w3.frozen? ⟨w.heap.size, o, none⟩ = false := fun o => T3.out.res.free o
  obtain ⟨t0, t1, t2, t3, t4, t5, t6, t7, t8, t9, t10⟩ := pack_facts T3.out.res
  dsimp only [zeroP] at p0 p1 p2 p3 p4 p5 p6 p7 p8 p9 p10 t0 t1 t2 t3 t4 t5 t6 t7 t8 t9 t10
  generalize hdl : (d0.drop 1) = dl at *
  have Hdl := hid_ hdl
  clear hdl
  have L0 := hid_ (Ls.start T3.out)
  have hgB : w2.heap.size < w3.heap.size := T3.out.pt.lt
  have hN : N ≤ 255 := by omega
  clear z0 z1 z2 z3 z4 z5 z6 p0 p1 p2 p3 p4 p5 p6 p7 p8 p9 p10 t0 t1 t2 t3 t4 t5 t6 t7 t8 t9 t10 f3 r3
  go_wp2_with fail
  go_loopw [59] (fun vi wr => ∃ (k : Nat) (Ak : Option Addr) (ck : Nat), k ≤ N ∧ vi = .int .u8 (k : Nat) ∧ Hid (Ls w (w.heap.size + 1) w1.heap.size w2.heap.size w3.heap.size ⟨false, false, false, false, false, true, false⟩ wr (memK dl k).2 ⟨3, 0, 0, 0, 0, 0, 0, false, [], (memK dl k).1, []⟩ ⟨none, 0, Ak, ck, none, 0⟩ Ak) ∧ Hid (wr.ownsRow w3.heap.size 64 3 (.slice Ak k ck) k (memsAll (memK dl k).1))) (fun vi _ => N - (intOf vi).toNat)
  case atStart => exact ⟨0, none, 0, by omega, rfl, L0, hid_ (World.ownsRow_nil _ _ _ _)⟩
  case round =>
    obtain ⟨k, A, c, hk, rfl, HL, HO⟩ := hrel
    by_cases hlt : k < N
    · have hlt2 : decide (k < N) = true := decide_eq_true hlt
      have h255 : (k : Int) + 1 ≤ 255 := by omega
      have hc8 : wr.cell? ⟨w1.heap.size, 9, none⟩ = some (.slice A k c) := by
        have := HL.out.st.pk.cell 9 (.slice A (memK dl k).1.length c) rfl
        rwa [memK_len] at this
      have hS : CellIn w1.heap.size 9 (.slice A k c) wr := ⟨hc8, HL.out.st.pk.lt⟩
      have hS' : CellIn w1.heap.size 9 (.slice A k c) wr.drew := ⟨hc8, HL.out.st.pk.lt⟩
      have hfr : wr.frozen? ⟨w1.heap.size, 9, none⟩ = false := HL.out.st.pk.free _
      obtain ⟨s, rest, Hk1, Hrs⟩ : ∃ s rest, Hid (memK dl (k + 1) = ((memK dl k).1 ++ [s], rest)) ∧ Hid (∀ (W : World), Rd W (w.heap.size + 1) (fun q => ((q = w.heap.size ∨ q = w1.heap.size) ∨ q = w2.heap.size) ∨ ∃ a, A = some a ∧ q = a.block) (memK dl k).2 → (∀ q, (((q = w.heap.size ∨ q = w1.heap.size) ∨ q = w2.heap.size) ∨ ∃ a, A = some a ∧ q = a.block) → q < W.heap.size) → Calls Tryz.prog 60 #[.pointer (some ⟨w.heap.size + 1, 0, none⟩)] W (RdPost W (w.heap.size + 1) (fun q => ((q = w.heap.size ∨ q = w1.heap.size) ∨ q = w2.heap.size) ∨ ∃ a, A = some a ∧ q = a.block) (memVal s) rest)) := ⟨_, _, hid_ rfl, hid_ (fun W h _ => rmember_any _ _ _ W h)⟩
      obtain ⟨i0, hi0, hz0, hz1, hz2⟩ := info_parts info_member
      have Hi0 := hid_ hi0
      have Hz0 := hid_ hz0
      have Hz1 := hid_ hz1
      have Hz2 := hid_ hz2
      clear hi0 hz0 hz1 hz2
      have HLd := hid_ HL.out.drew
      have HOd : Hid (wr.drew.ownsRow w3.heap.size 64 3 (.slice A k c) k (memsAll (memK dl k).1)) := HO
      have Hsz := hid_ HL.out.size
      go_wp2_with fail
      have hc8d : wr.drew.cell? ⟨w1.heap.size, 9, none⟩ = some (.slice A k c) := hc8
      have hgp : w1.heap.size < wr.heap.size := hS.2
      clear hS hS'
      first | (go_region_law (first
          | (go_simp; go_at_call 60; (with_reducible refine Calls.mono (Hrs.out _ HLd.out.rd HLd.out.q_lt) ?_); rintro e wq ⟨rfl, hr5, hg5⟩; have Lq := hid_ (HLd.out.call hg5 hr5); have Oq := hid_ (HLd.out.kept HOd.out hg5 (show w.heap.size + 1 < w3.heap.size by omega)); have hc5 := (cellIn_of Lq.out.st 9 (.slice A (memK dl k).1.length c) (v' := .slice A k c) rfl (by rw [memK_len])).1; have hg5' : w1.heap.size < wq.heap.size := Lq.out.st.pk.lt)
          | (refine step_app (by rfl) (.tmp 62) (.tmp 65) 27 64 (by rfl) i0 _ 3 24 Tryz.underlying27 Hi0.out Hz0.out Hz1.out Hz2.out rfl (by omega) w3.heap.size A k c (memsAll (memK dl k).1) (by rfl) (World.ownsRow.alloc Oq.out _) (some ⟨wq.heap.size, 0, none⟩) 1 1 (mcells s) (by rfl) (by rfl) (holds_new wq #[.int .u64 (s.id : Nat), .int .u64 (s.inc : Nat), .int .i64 s.state] 64 wq.heap.size rfl) (fun e => by cases e) (mcells_one s) (k + 1) (memsAll ((memK dl k).1 ++ [s])) rfl (by rw [memsAll_append]; simp [memsAll, mcells]) (by omega) (by omega) (by have := Lq.out.size; simp; omega) ?_; intro A' c' wv ho7 hg7 hw7; have Ov := hid_ ho7; have Lv := hid_ ((Lq.out.alloc _).app hg7 hw7 (own_lt ho7)); have hc7 := (cellIn_of Lv.out.st 9 (.slice A (memK dl k).1.length c) (v' := .slice A k c) rfl (by rw [memK_len])).1; have hf7 : wv.frozen? ⟨w1.heap.size, 9, none⟩ = false := Lv.out.st.pk.free _; clear ho7 hg7 hw7)
          | fail)) | fail
      all_goals
        go_wp2_with fail
      all_goals
        go_roundw
        case rel => exact ⟨k + 1, A', c', by omega, by go_num, hid_ ((Lv.out.set ⟨3, 0, 0, 0, 0, 0, 0, false, [], (memK dl (k + 1)).1, []⟩ ⟨none, 0, A', c', none, 0⟩ 9 (.slice A' (k + 1) c') (by simp [packCells, memK_len]) |>.to (by rw [Hk1.out]))), hid_ (by rw [Hk1.out]; exact Lv.out.kept Ov.out (grown_set _ _ _ _) (show w1.heap.size < w3.heap.size by omega))⟩
        case measure => simp [intOf] <;> omega
    · obtain rfl : k = N := by omega
      have hltf : decide (k < k) = false := decide_eq_false (by omega)
      have HLs := hid_ HL.out.st
      obtain ⟨z0, z1, z2, z3, z4, z5, z6⟩ := part_facts HLs.out.pt
      obtain ⟨p0, p1, p2, p3, p4, p5, p6, p7, p8, p9, p10⟩ := pack_facts HLs.out.pk
      have rr : ∀ o, wr.frozen? ⟨w.heap.size, o, none⟩ = false := fun o => HLs.out.res.free o
      obtain ⟨t0, t1, t2, t3, t4, t5, t6, t7, t8, t9, t10⟩ := pack_facts HLs.out.res
      dsimp only [zeroP] at p0 p1 p2 p3 p4 p5 p6 p7 p8 p9 p10 t0 t1 t2 t3 t4 t5 t6 t7 t8 t9 t10
      have Hln := hid_ (memK_len dl k)
      have HP : Hid (∀ W, wr.grownBy W (some w.heap.size) → PackIn W ⟨3, 0, 0, 0, 0, 0, 0, false, [], (memK dl k).1, []⟩ ⟨none, 0, A, c, none, 0⟩) := hid_ (fun W hg => ⟨⟨fun h => absurd rfl h, rfl, Nat.le_refl _, (show (0 : Nat) ≤ 9223372036854775807 by omega), fun _ => rfl⟩, (by have := own_mem (HL.out.kept HO.out hg (show w.heap.size < w3.heap.size by omega)); dsimp only; rw [Hln.out]; exact this), Row.none W⟩)
      have HF : Hid (Fresh w.heap.size ⟨3, 0, 0, 0, 0, 0, 0, false, [], (memK dl k).1, []⟩ ⟨none, 0, A, c, none, 0⟩) := hid_ (⟨fun a e => (by cases e), fun a e _ => Nat.le_trans (by omega) (HL.out.row a e).1, fun a e => (by cases e)⟩)
      go_wp2_with fail
      have Hy2 : Whole ((((((((((((wr.setCell ⟨w.heap.size, 0, none⟩ (.int .i64 3)).setCell ⟨w.heap.size, 1, none⟩ (.int .u64 0)).setCell ⟨w.heap.size, 2, none⟩ (.int .u64 0)).setCell ⟨w.heap.size, 3, none⟩ (.int .u64 0)).setCell ⟨w.heap.size, 4, none⟩ (.int .u64 0)).setCell ⟨w.heap.size, 5, none⟩ (.int .u64 0)).setCell ⟨w.heap.size, 6, none⟩ (.int .i64 0)).setCell ⟨w.heap.size, 7, none⟩ (.bool false)).setCell ⟨w.heap.size, 8, none⟩ (.slice none 0 0)).setCell ⟨w.heap.size, 9, none⟩ (.slice A (memK dl k).1.length c)).setCell ⟨w.heap.size, 10, none⟩ (.slice none 0 0))) w.heap.size 30 (packCells ⟨3, 0, 0, 0, 0, 0, 0, false, [], (memK dl k).1, []⟩ ⟨none, 0, A, c, none, 0⟩) ∧ Below w.heap.size w ((((((((((((wr.setCell ⟨w.heap.size, 0, none⟩ (.int .i64 3)).setCell ⟨w.heap.size, 1, none⟩ (.int .u64 0)).setCell ⟨w.heap.size, 2, none⟩ (.int .u64 0)).setCell ⟨w.heap.size, 3, none⟩ (.int .u64 0)).setCell ⟨w.heap.size, 4, none⟩ (.int .u64 0)).setCell ⟨w.heap.size, 5, none⟩ (.int .u64 0)).setCell ⟨w.heap.size, 6, none⟩ (.int .i64 0)).setCell ⟨w.heap.size, 7, none⟩ (.bool false)).setCell ⟨w.heap.size, 8, none⟩ (.slice none 0 0)).setCell ⟨w.heap.size, 9, none⟩ (.slice A (memK dl k).1.length c)).setCell ⟨w.heap.size, 10, none⟩ (.slice none 0 0))) ∧ PackIn ((((((((((((wr.setCell ⟨w.heap.size, 0, none⟩ (.int .i64 3)).setCell ⟨w.heap.size, 1, none⟩ (.int .u64 0)).setCell ⟨w.heap.size, 2, none⟩ (.int .u64 0)).setCell ⟨w.heap.size, 3, none⟩ (.int .u64 0)).setCell ⟨w.heap.size, 4, none⟩ (.int .u64 0)).setCell ⟨w.heap.size, 5, none⟩ (.int .u64 0)).setCell ⟨w.heap.size, 6, none⟩ (.int .i64 0)).setCell ⟨w.heap.size, 7, none⟩ (.bool false)).setCell ⟨w.heap.size, 8, none⟩ (.slice none 0 0)).setCell ⟨w.heap.size, 9, none⟩ (.slice A (memK dl k).1.length c)).setCell ⟨w.heap.size, 10, none⟩ (.slice none 0 0))) ⟨3, 0, 0, 0, 0, 0, 0, false, [], (memK dl k).1, []⟩ ⟨none, 0, A, c, none, 0⟩ := ⟨HLs.out.res.pack ⟨3, 0, 0, 0, 0, 0, 0, false, [], (memK dl k).1, []⟩ ⟨none, 0, A, c, none, 0⟩, below_pack HLs.out.below (Nat.le_refl _) ⟨3, 0, 0, 0, 0, 0, 0, false, [], (memK dl k).1, []⟩ ⟨none, 0, A, c, none, 0⟩, HP.out _ (grown_pack wr w.heap.size ⟨3, 0, 0, 0, 0, 0, 0, false, [], (memK dl k).1, []⟩ ⟨none, 0, A, c, none, 0⟩)⟩
      clear z0 z1 z2 z3 z4 z5 z6 p0 p1 p2 p3 p4 p5 p6 p7 p8 p9 p10 rr t0 t1 t2 t3 t4 t5 t6 t7 t8 t9 t10
      generalize (((((((((((wr.setCell ⟨w.heap.size, 0, none⟩ (.int .i64 3)).setCell ⟨w.heap.size, 1, none⟩ (.int .u64 0)).setCell ⟨w.heap.size, 2, none⟩ (.int .u64 0)).setCell ⟨w.heap.size, 3, none⟩ (.int .u64 0)).setCell ⟨w.heap.size, 4, none⟩ (.int .u64 0)).setCell ⟨w.heap.size, 5, none⟩ (.int .u64 0)).setCell ⟨w.heap.size, 6, none⟩ (.int .i64 0)).setCell ⟨w.heap.size, 7, none⟩ (.bool false)).setCell ⟨w.heap.size, 8, none⟩ (.slice none 0 0)).setCell ⟨w.heap.size, 9, none⟩ (.slice A (memK dl k).1.length c)).setCell ⟨w.heap.size, 10, none⟩ (.slice none 0 0)) = W9 at Hy2 ⊢
      obtain ⟨Hy, Hby, Hin⟩ := Hy2
      obtain ⟨y0, y1, y2, y3, y4, y5, y6, y7, y8, y9, y10⟩ := pack_facts Hy
      dsimp only at y0 y1 y2 y3 y4 y5 y6 y7 y8 y9 y10
      refine bodyPost_ret (v := packVal ⟨3, 0, 0, 0, 0, 0, 0, false, [], (memK dl k).1, []⟩ ⟨none, 0, A, c, none, 0⟩) (by simp [results, Tryz.results24, go_sem, y0, y1, y2, y3, y4, y5, y6, y7, y8, y9, y10]) rfl ?_
      exact readPost_mk HD.out.symm Hin HF.out Hby
end Go.Proofs.YtnpbokbfkdncmaaGreat
