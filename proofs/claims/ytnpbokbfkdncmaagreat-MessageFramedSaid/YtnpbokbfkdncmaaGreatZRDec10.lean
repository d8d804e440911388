/-
  The reference's Decode of data of kind 10.
-/
import Derived.Test.YtnpbokbfkdncmaaGreatZGRD1
namespace Go.Proofs.YtnpbokbfkdncmaaGreat
set_option linter.unusedSimpArgs false
set_option linter.unusedVariables false
open Go.RowKit Ru Fm
set_option maxRecDepth 100000 in
set_option maxHeartbeats 16000000 in
theorem rdec10_any (A : Option Addr) (n c : Nat) (b d r : List UInt8) (w : World) (hs : Sl w A n c b) (hc : cutF b = (0, d, r)) (hk : hd d = 10) : Calls Tryz.prog 12 #[.slice A n c] w (RDPost w d r) := by
  have HD := hid_ (fun (s1 : List UInt8 × Bool) (h1 : takeS 1 (d, false) = s1) => show sreadF d = (⟨10, (numB s1.1 8), 0, 0, 0, 0, 0, false, [], [], (idS (hd (takeS 8 s1).1) (takeS 1 (takeS 8 s1))).1⟩, (idS (hd (takeS 8 s1).1) (takeS 1 (takeS 8 s1))).2) by unfold sreadF; dsimp only; rw [h1, hk, show partsF ((10 : Nat) : Int) = ⟨true, false, false, false, false, false, true⟩ from parts_10]; simp [stT, stB, stA, stV, spL, meL, idL])
  have Hwf := hid_ (sreadF_wf d)
  have Hbn := hid_ (b_ne hc)
  have Hs := hid_ hs
  have Hcut := hid_ (Fr.refcut_any A n c b (w.alloc (.cells #[.int .i64 0, .int .u64 0, .int .u64 0, .int .u64 0, .int .u64 0, .int .u64 0, .int .i64 0, .bool false, .slice none 0 0, .slice none 0 0, .slice none 0 0] 30)) (hs.below ((Below.refl _ _).alloc (Nat.le_refl _) _)))
  unfold Fr.RefCut at Hcut
  rw [hc] at Hcut
  have Hby := hid_ (fun W g Q h => show Calls Tryz.prog 27 #[.pointer (some ⟨g, 0, none⟩)] W (RrPost W g Q (.int .u8 (10 : Nat)) (takeS 1 (d, false))) from by have hh := rbyte_any g Q (d, false) W h; rw [show hd (d, false).1 = 10 from hk] at hh; exact hh)
  have HD := hid_ (HD.out _ rfl)
  generalize takeS 1 (d, false) = s1 at *
  have W0 := hid_ (whole_new w 30 #[.int .i64 0, .int .u64 0, .int .u64 0, .int .u64 0, .int .u64 0, .int .u64 0, .int .i64 0, .bool false, .slice none 0 0, .slice none 0 0, .slice none 0 0])
  have Hb0 := hid_ (((Below.refl w.heap.size w).alloc (Nat.le_refl _) (.cells #[.int .i64 0, .int .u64 0, .int .u64 0, .int .u64 0, .int .u64 0, .int .u64 0, .int .i64 0, .bool false, .slice none 0 0, .slice none 0 0, .slice none 0 0] 30)))
  have hsz0 : (w.alloc (.cells #[.int .i64 0, .int .u64 0, .int .u64 0, .int .u64 0, .int .u64 0, .int .u64 0, .int .i64 0, .bool false, .slice none 0 0, .slice none 0 0, .slice none 0 0] 30)).heap.size = w.heap.size + 1 := by simp
  clear hs hc hk
  go_enter Tryz.func12, Tryz.ntmps12
  go_wp2_with fail
  refine Calls.mono Hcut.out ?_
  rintro e w1 ⟨A1, n1, c1, A2, n2, c2, rfl, h1, h2, i1, -, hb1⟩
  try dsimp only at h1 h2
  have hn2 := h2.len
  have hlt1 : w.heap.size < w1.heap.size := by have := hb1.size; omega
  have R1 := hid_ (rr_start Hs.out Hbn.out h1 i1 hlt1)
  have W1 := hid_ ((W0.out.below hb1 W0.out.lt).alloc (.cells #[.slice A1 n1 c1, .bool false] 57))
  have Hb1 := hid_ ((Hb0.out.trans (hb1.mono Hb0.out.size)).alloc (Hb0.out.trans (hb1.mono Hb0.out.size)).size (.cells #[.slice A1 n1 c1, .bool false] 57))
  clear h1 h2 i1 hb1
  go_wp2_with fail
  refine Calls.mono (Hby.out _ _ _ R1.out) ?_
  rintro e w2 ⟨rfl, hr2, hg2⟩
  have hlt2 : w1.heap.size < w2.heap.size := hr2.lt
  have S2 := hid_ (show Rs w w1.heap.size w2.heap.size (w2.alloc (.cells (packCells ⟨10, 0, 0, 0, 0, 0, 0, false, [], [], []⟩ ⟨none, 0, none, 0, none, 0⟩) 30)) s1 ⟨10, 0, 0, 0, 0, 0, 0, false, [], [], []⟩ ⟨none, 0, none, 0, none, 0⟩ from
    ⟨hr2.bar _ _ rfl, (W1.out.grown hg2 (by intro e; injection e with e; omega)).alloc _, whole_new _ _ _, (below_grown_ Hb1.out hg2 (by omega) (by simp <;> omega)).alloc (by omega) _, hlt1, hlt2⟩)
  clear hr2 hg2
  have hq1 : w.heap.size ≠ w1.heap.size := by omega
  have hq2 : w.heap.size ≠ w2.heap.size := by omega
  have hq3 : w1.heap.size ≠ w2.heap.size := by omega
  go_wp2_with fail
  refine Calls.mono (rrnumber_any _ _ s1 _ S2.out.rd) ?_
  rintro e w3 ⟨rfl, hr, hg⟩
  have T3 := hid_ (S2.out.call hg hr)
  clear hr hg
  generalize numB s1.1 8 = x3 at *
  generalize takeS 8 s1 = s3 at *
  have S3 := hid_ (T3.out.set ⟨10, x3, 0, 0, 0, 0, 0, false, [], [], []⟩ ⟨none, 0, none, 0, none, 0⟩ 1 (.int .u64 (x3 : Nat)) rfl)
  have f3 : ∀ o, w3.frozen? ⟨w2.heap.size, o, none⟩ = false := fun o => T3.out.pk.free o
  obtain ⟨p0, p1, p2, p3, p4, p5, p6, p7, p8, p9, p10⟩ := pack_facts T3.out.pk
  have r3 : ∀ o, w3.frozen? ⟨w.heap.size, o, none⟩ = false := fun o => T3.out.res.free o
  obtain ⟨t0, t1, t2, t3, t4, t5, t6, t7, t8, t9, t10⟩ := pack_facts T3.out.res
  dsimp only [zeroP] at p0 p1 p2 p3 p4 p5 p6 p7 p8 p9 p10 t0 t1 t2 t3 t4 t5 t6 t7 t8 t9 t10
  go_wp2_with fail
  refine Calls.mono (rbyte_any _ _ s3 _ S3.out.rd) ?_
  rintro e w4 ⟨rfl, hr, hg⟩
  have T4 := hid_ (S3.out.call hg hr)
  clear hr hg
  have hlt4 := hd_lt s3.1
  generalize hd s3.1 = N at *
  generalize takeS 1 s3 = s4 at *
  clear f3 r3 p0 t0 p1 t1 p2 t2 p3 t3 p4 t4 p5 t5 p6 t6 p7 t7 p8 t8 p9 t9 p10 t10
  have S4 := hid_ (T4.out)
  have f4 : ∀ o, w4.frozen? ⟨w2.heap.size, o, none⟩ = false := fun o => T4.out.pk.free o
  obtain ⟨p0, p1, p2, p3, p4, p5, p6, p7, p8, p9, p10⟩ := pack_facts T4.out.pk
  have r4 : ∀ o, w4.frozen? ⟨w.heap.size, o, none⟩ = false := fun o => T4.out.res.free o
  obtain ⟨t0, t1, t2, t3, t4, t5, t6, t7, t8, t9, t10⟩ := pack_facts T4.out.res
  dsimp only [zeroP] at p0 p1 p2 p3 p4 p5 p6 p7 p8 p9 p10 t0 t1 t2 t3 t4 t5 t6 t7 t8 t9 t10
  have L0 := hid_ (Lr.start S4.out)
  have hgB : w2.heap.size < w4.heap.size := S4.out.pk.lt
  have hN : N ≤ 255 := by omega
  clear p0 t0 p1 t1 p2 t2 p3 t3 p4 t4 p5 t5 p6 t6 p7 t7 p8 t8 p9 t9 p10 t10 f4 r4
  go_wp2_with fail
  go_loopw [18] (fun vi wr => ∃ (k : Nat) (A : Option Addr) (c : Nat) (acc : List Nat) (s' : List UInt8 × Bool), k ≤ N ∧ vi = .int .i64 (k : Nat) ∧ Hid (Lr w w1.heap.size w2.heap.size w4.heap.size wr s' ⟨10, x3, 0, 0, 0, 0, 0, false, [], [], acc⟩ ⟨none, 0, none, 0, A, c⟩ A) ∧ Hid (wr.ownsRow w4.heap.size 22 1 (.slice A k c) k (idVals acc)) ∧ Hid (acc.length = k) ∧ Hid (idS N s4 = (acc ++ (idS (N - k) s').1, (idS (N - k) s').2))) (fun vi _ => N - (intOf vi).toNat)
  case atStart => exact ⟨0, none, 0, [], s4, by omega, rfl, L0, hid_ (World.ownsRow_nil _ _ _ _), hid_ rfl, hid_ (by simp)⟩
  case round =>
    obtain ⟨k, A, c, acc, ⟨lf, bad⟩, hk, rfl, HL, HO, HA, HE⟩ := hrel
    have b1 := Rr.bad_cell HL.out.rd
    dsimp only at b1
    by_cases hlt : k < N
    · have hlt2 : decide (k < N) = true := decide_eq_true hlt
      cases bad
      · have hc8 : wr.cell? ⟨w2.heap.size, 10, none⟩ = some (.slice A k c) := by
          have := HL.out.st.pk.cell 10 (.slice A acc.length c) rfl
          rwa [HA.out] at this
        have hgp : w2.heap.size < wr.heap.size := HL.out.st.pk.lt
        have hfr : wr.frozen? ⟨w2.heap.size, 10, none⟩ = false := HL.out.st.pk.free _
        obtain ⟨m, hm⟩ : ∃ m, N - k = m + 1 := ⟨N - k - 1, by omega⟩
        have HX := hid_ (show idS (m + 1) (lf, false) = (numB lf 8 :: (idS m (takeS 8 (lf, false))).1, (idS m (takeS 8 (lf, false))).2) by rw [idS, if_neg (by simp)])
        have Hrs := hid_ (fun (W : World) (h : Rr W w1.heap.size (fun q => (q = w.heap.size ∨ q = w2.heap.size) ∨ ∃ a, A = some a ∧ q = a.block) (lf, false)) => rrnumber_any w1.heap.size (fun q => (q = w.heap.size ∨ q = w2.heap.size) ∨ ∃ a, A = some a ∧ q = a.block) (lf, false) W h)
        rw [show (lf, false).1 = lf from rfl] at Hrs
        generalize numB lf 8 = x at *
        generalize hs2 : takeS 8 (lf, false) = s2 at *
        have Hs2 := hid_ hs2
        clear hs2
        have Hm := hid_ hm
        clear hm
        obtain ⟨i0, hi0, hz0, hz1, hz2⟩ := info_parts info_id
        have Hi0 := hid_ hi0
        have Hz0 := hid_ hz0
        have Hz1 := hid_ hz1
        have Hz2 := hid_ hz2
        clear hi0 hz0 hz1 hz2
        have HLd := hid_ HL.out.drew
        have HOd : Hid (wr.drew.ownsRow w4.heap.size 22 1 (.slice A k c) k (idVals acc)) := HO
        have Hsz := hid_ HL.out.size
        have HAp := hid_ (show idVals acc ++ idOne x = idVals (acc ++ [x]) by rw [idVals_append]; simp [idVals, idOne])
        have HAl := hid_ (show (acc ++ [x]).length = k + 1 by rw [List.length_append, HA.out]; rfl)
        go_wp2_with fail
        have hc8d : wr.drew.cell? ⟨w2.heap.size, 10, none⟩ = some (.slice A k c) := hc8
        first | (go_region_law (first
            | (go_simp; go_at_call 28; (with_reducible refine Calls.mono (Hrs.out _ HLd.out.rd) ?_); rintro e wq ⟨rfl, hr5, hg5⟩; have Lq := hid_ (HLd.out.call hg5 hr5); have Oq := hid_ (HLd.out.kept HOd.out hg5 (show w1.heap.size < w4.heap.size by omega)); have hc5 := (cellRr_of Lq.out.st 10 (.slice A acc.length c) (v' := .slice A k c) rfl (by rw [HA.out])).1; have hg5' : w2.heap.size < wq.heap.size := Lq.out.st.pk.lt)
            | (refine step_app (by rfl) (.tmp 211) (.tmp 214) 28 22 (by rfl) i0 _ 1 8 Tryz.underlying28 Hi0.out Hz0.out Hz1.out Hz2.out rfl (by omega) w4.heap.size A k c (idVals acc) (by rfl) (World.ownsRow.alloc Oq.out _) (some ⟨wq.heap.size, 0, none⟩) 1 1 (idOne x) (by rfl) (by rfl) (holds_new wq #[.int .u64 (x : Nat)] 22 wq.heap.size rfl) (fun e => by cases e) (idOne_one x) (k + 1) (idVals (acc ++ [x])) rfl HAp.out (by omega) (by omega) (by have := Lq.out.size; simp; omega) ?_; intro A' c' wv ho7 hg7 hw7; have Ov := hid_ ho7; have Lv := hid_ ((Lq.out.alloc _).app hg7 hw7 (own_lt ho7)); have hc7 := (cellRr_of Lv.out.st 10 (.slice A acc.length c) (v' := .slice A k c) rfl (by rw [HA.out])).1; have hf7 : wv.frozen? ⟨w2.heap.size, 10, none⟩ = false := Lv.out.st.pk.free _; clear ho7 hg7 hw7)
            | fail)) | fail
        all_goals
          go_wp2_with fail
        all_goals
          go_roundw
          case rel => exact ⟨k + 1, A', c', acc ++ [x], s2, by omega, by go_num, hid_ (Lv.out.set ⟨10, x3, 0, 0, 0, 0, 0, false, [], [], (acc ++ [x])⟩ ⟨none, 0, none, 0, A', c'⟩ 10 (.slice A' (k + 1) c') (by simp [packCells, HA.out])), hid_ (Lv.out.kept Ov.out (grown_set _ _ _ _) (show w2.heap.size < w4.heap.size by omega)), HAl, hid_ (by rw [HE.out, Hm.out, HX.out, show N - (k + 1) = m by have := Hm.out; omega]; simp)⟩
          case measure => simp [intOf] <;> omega
      · have HD2 := hid_ (show sreadF d = (⟨10, x3, 0, 0, 0, 0, 0, false, [], [], acc⟩, (lf, true)) by
          rw [HD.out, HE.out]
          have e : idS (N - k) (lf, true) = ([], (lf, true)) := by cases N - k <;> simp [idS]
          rw [e, List.append_nil])
        have HD := HD2
        have r4 : ∀ o, wr.frozen? ⟨w.heap.size, o, none⟩ = false := fun o => HL.out.st.res.free o
        obtain ⟨t0, t1, t2, t3, t4, t5, t6, t7, t8, t9, t10⟩ := pack_facts HL.out.st.res
        dsimp only [zeroP] at t0 t1 t2 t3 t4 t5 t6 t7 t8 t9 t10
        have p0 := (pack_facts HL.out.st.pk).1
        dsimp only at p0
        go_wp2_with fail
        have Hy2 : Whole ((((((((((((wr.setCell ⟨w.heap.size, 0, none⟩ (.int .i64 0)).setCell ⟨w.heap.size, 1, none⟩ (.int .u64 0)).setCell ⟨w.heap.size, 2, none⟩ (.int .u64 0)).setCell ⟨w.heap.size, 3, none⟩ (.int .u64 0)).setCell ⟨w.heap.size, 4, none⟩ (.int .u64 0)).setCell ⟨w.heap.size, 5, none⟩ (.int .u64 0)).setCell ⟨w.heap.size, 6, none⟩ (.int .i64 0)).setCell ⟨w.heap.size, 7, none⟩ (.bool false)).setCell ⟨w.heap.size, 8, none⟩ (.slice none 0 0)).setCell ⟨w.heap.size, 9, none⟩ (.slice none 0 0)).setCell ⟨w.heap.size, 10, none⟩ (.slice none 0 0))) w.heap.size 30 (packCells ⟨0, 0, 0, 0, 0, 0, 0, false, [], [], []⟩ ⟨none, 0, none, 0, none, 0⟩) ∧ Below w.heap.size w ((((((((((((wr.setCell ⟨w.heap.size, 0, none⟩ (.int .i64 0)).setCell ⟨w.heap.size, 1, none⟩ (.int .u64 0)).setCell ⟨w.heap.size, 2, none⟩ (.int .u64 0)).setCell ⟨w.heap.size, 3, none⟩ (.int .u64 0)).setCell ⟨w.heap.size, 4, none⟩ (.int .u64 0)).setCell ⟨w.heap.size, 5, none⟩ (.int .u64 0)).setCell ⟨w.heap.size, 6, none⟩ (.int .i64 0)).setCell ⟨w.heap.size, 7, none⟩ (.bool false)).setCell ⟨w.heap.size, 8, none⟩ (.slice none 0 0)).setCell ⟨w.heap.size, 9, none⟩ (.slice none 0 0)).setCell ⟨w.heap.size, 10, none⟩ (.slice none 0 0))) := ⟨HL.out.st.res.pack ⟨0, 0, 0, 0, 0, 0, 0, false, [], [], []⟩ ⟨none, 0, none, 0, none, 0⟩, below_pack HL.out.st.below (Nat.le_refl _) ⟨0, 0, 0, 0, 0, 0, 0, false, [], [], []⟩ ⟨none, 0, none, 0, none, 0⟩⟩
        clear r4 b1 p0 t0 t1 t2 t3 t4 t5 t6 t7 t8 t9 t10
        generalize (((((((((((wr.setCell ⟨w.heap.size, 0, none⟩ (.int .i64 0)).setCell ⟨w.heap.size, 1, none⟩ (.int .u64 0)).setCell ⟨w.heap.size, 2, none⟩ (.int .u64 0)).setCell ⟨w.heap.size, 3, none⟩ (.int .u64 0)).setCell ⟨w.heap.size, 4, none⟩ (.int .u64 0)).setCell ⟨w.heap.size, 5, none⟩ (.int .u64 0)).setCell ⟨w.heap.size, 6, none⟩ (.int .i64 0)).setCell ⟨w.heap.size, 7, none⟩ (.bool false)).setCell ⟨w.heap.size, 8, none⟩ (.slice none 0 0)).setCell ⟨w.heap.size, 9, none⟩ (.slice none 0 0)).setCell ⟨w.heap.size, 10, none⟩ (.slice none 0 0)) = W9 at Hy2 ⊢
        obtain ⟨Hy, Hby⟩ := Hy2
        obtain ⟨y0, y1, y2, y3, y4, y5, y6, y7, y8, y9, y10⟩ := pack_facts Hy
        dsimp only at y0 y1 y2 y3 y4 y5 y6 y7 y8 y9 y10
        refine bodyPost_ret (v := .tuple #[packVal ⟨0, 0, 0, 0, 0, 0, 0, false, [], [], []⟩ ⟨none, 0, none, 0, none, 0⟩, .int .i64 6]) (by simp [results, Tryz.results12, go_sem, y0, y1, y2, y3, y4, y5, y6, y7, y8, y9, y10]) rfl ?_
        exact rd_bad HD.out (fun h => by have := h.1; injection this with _ h; cases h) Hby
    · have hlt2 : decide (k < N) = false := decide_eq_false hlt
      obtain rfl : k = N := by omega
      have HD2 := hid_ (show sreadF d = (⟨10, x3, 0, 0, 0, 0, 0, false, [], [], acc⟩, (lf, bad)) by
        rw [HD.out, HE.out, Nat.sub_self]
        simp [idS])
      have HD := HD2
      have PI : Hid (PackIn wr ⟨10, x3, 0, 0, 0, 0, 0, false, [], [], acc⟩ ⟨none, 0, none, 0, A, c⟩) := hid_ (⟨⟨fun h => absurd rfl h, rfl, Nat.le_refl _, (show (0 : Nat) ≤ 9223372036854775807 by omega), fun _ => rfl⟩, MemRow.none _, (by have := OwnV.row (show OwnV 22 _ _ A k c _ from HO.out); dsimp only; rw [HA.out]; exact this)⟩)
      have EL : Elsewhere ⟨10, x3, 0, 0, 0, 0, 0, false, [], [], acc⟩ ⟨none, 0, none, 0, A, c⟩ w.heap.size := ⟨(fun a e => by cases e), (fun a e => by cases e), (fun a e _ => by have := (HL.out.row a e).1; have := HL.out.st.o1; omega)⟩
      have f4 : ∀ o, wr.frozen? ⟨w2.heap.size, o, none⟩ = false := fun o => HL.out.st.pk.free o
      obtain ⟨p0, p1, p2, p3, p4, p5, p6, p7, p8, p9, p10⟩ := pack_facts HL.out.st.pk
      have r4 : ∀ o, wr.frozen? ⟨w.heap.size, o, none⟩ = false := fun o => HL.out.st.res.free o
      obtain ⟨t0, t1, t2, t3, t4, t5, t6, t7, t8, t9, t10⟩ := pack_facts HL.out.st.res
      dsimp only [zeroP] at p0 p1 p2 p3 p4 p5 p6 p7 p8 p9 p10 t0 t1 t2 t3 t4 t5 t6 t7 t8 t9 t10
      have Hri := hid_ (show Calls Tryz.prog 21 #[.agg #[.int .i64 10, .int .u64 (x3 : Nat), .int .u64 0, .int .u64 0, .int .u64 0, .int .u64 0, .int .i64 0, .bool false, .slice none 0 0, .slice none 0 0, .slice A acc.length c]] wr (KindIs wr (kindP (rightP ⟨10, x3, 0, 0, 0, 0, 0, false, [], [], acc⟩))) from refpack_any ⟨10, x3, 0, 0, 0, 0, 0, false, [], [], acc⟩ ⟨none, 0, none, 0, A, c⟩ _ PI.out (by have h := Hwf.out; rw [HD.out] at h; exact h))
      skip
      obtain ⟨A3, n3, c3, hw3, hs3, -⟩ := HL.out.st.rd
      try dsimp only at hw3 hs3
      have g0 := hw3.cell 0 (.slice A3 n3 c3) rfl
      have g1 := hw3.cell 1 (.bool bad) rfl
      have hn3 := hs3.len
      clear hw3 hs3
      cases bad
      rotate_left
      · skip
        go_wp2_with fail
        have Hy2 : Whole ((((((((((((wr.setCell ⟨w.heap.size, 0, none⟩ (.int .i64 0)).setCell ⟨w.heap.size, 1, none⟩ (.int .u64 0)).setCell ⟨w.heap.size, 2, none⟩ (.int .u64 0)).setCell ⟨w.heap.size, 3, none⟩ (.int .u64 0)).setCell ⟨w.heap.size, 4, none⟩ (.int .u64 0)).setCell ⟨w.heap.size, 5, none⟩ (.int .u64 0)).setCell ⟨w.heap.size, 6, none⟩ (.int .i64 0)).setCell ⟨w.heap.size, 7, none⟩ (.bool false)).setCell ⟨w.heap.size, 8, none⟩ (.slice none 0 0)).setCell ⟨w.heap.size, 9, none⟩ (.slice none 0 0)).setCell ⟨w.heap.size, 10, none⟩ (.slice none 0 0))) w.heap.size 30 (packCells ⟨0, 0, 0, 0, 0, 0, 0, false, [], [], []⟩ ⟨none, 0, none, 0, none, 0⟩) ∧ Below w.heap.size w ((((((((((((wr.setCell ⟨w.heap.size, 0, none⟩ (.int .i64 0)).setCell ⟨w.heap.size, 1, none⟩ (.int .u64 0)).setCell ⟨w.heap.size, 2, none⟩ (.int .u64 0)).setCell ⟨w.heap.size, 3, none⟩ (.int .u64 0)).setCell ⟨w.heap.size, 4, none⟩ (.int .u64 0)).setCell ⟨w.heap.size, 5, none⟩ (.int .u64 0)).setCell ⟨w.heap.size, 6, none⟩ (.int .i64 0)).setCell ⟨w.heap.size, 7, none⟩ (.bool false)).setCell ⟨w.heap.size, 8, none⟩ (.slice none 0 0)).setCell ⟨w.heap.size, 9, none⟩ (.slice none 0 0)).setCell ⟨w.heap.size, 10, none⟩ (.slice none 0 0))) := ⟨HL.out.st.res.pack ⟨0, 0, 0, 0, 0, 0, 0, false, [], [], []⟩ ⟨none, 0, none, 0, none, 0⟩, below_pack HL.out.st.below (Nat.le_refl _) ⟨0, 0, 0, 0, 0, 0, 0, false, [], [], []⟩ ⟨none, 0, none, 0, none, 0⟩⟩
        clear f4 r4 b1 p0 t0 p1 t1 p2 t2 p3 t3 p4 t4 p5 t5 p6 t6 p7 t7 p8 t8 p9 t9 p10 t10 g0 g1
        generalize (((((((((((wr.setCell ⟨w.heap.size, 0, none⟩ (.int .i64 0)).setCell ⟨w.heap.size, 1, none⟩ (.int .u64 0)).setCell ⟨w.heap.size, 2, none⟩ (.int .u64 0)).setCell ⟨w.heap.size, 3, none⟩ (.int .u64 0)).setCell ⟨w.heap.size, 4, none⟩ (.int .u64 0)).setCell ⟨w.heap.size, 5, none⟩ (.int .u64 0)).setCell ⟨w.heap.size, 6, none⟩ (.int .i64 0)).setCell ⟨w.heap.size, 7, none⟩ (.bool false)).setCell ⟨w.heap.size, 8, none⟩ (.slice none 0 0)).setCell ⟨w.heap.size, 9, none⟩ (.slice none 0 0)).setCell ⟨w.heap.size, 10, none⟩ (.slice none 0 0)) = W9 at Hy2 ⊢
        obtain ⟨Hy, Hby⟩ := Hy2
        obtain ⟨y0, y1, y2, y3, y4, y5, y6, y7, y8, y9, y10⟩ := pack_facts Hy
        dsimp only at y0 y1 y2 y3 y4 y5 y6 y7 y8 y9 y10
        refine bodyPost_ret (v := .tuple #[packVal ⟨0, 0, 0, 0, 0, 0, 0, false, [], [], []⟩ ⟨none, 0, none, 0, none, 0⟩, .int .i64 6]) (by simp [results, Tryz.results12, go_sem, y0, y1, y2, y3, y4, y5, y6, y7, y8, y9, y10]) rfl ?_
        exact rd_bad HD.out (fun h => by have := h.1; injection this with _ h; cases h) Hby
      by_cases hl : 0 < n3
      · have e3 : decide ((0 : Int) < (n3 : Int)) = true := decide_eq_true (by omega)
        go_wp2_with fail
        have Hy2 : Whole ((((((((((((wr.setCell ⟨w.heap.size, 0, none⟩ (.int .i64 0)).setCell ⟨w.heap.size, 1, none⟩ (.int .u64 0)).setCell ⟨w.heap.size, 2, none⟩ (.int .u64 0)).setCell ⟨w.heap.size, 3, none⟩ (.int .u64 0)).setCell ⟨w.heap.size, 4, none⟩ (.int .u64 0)).setCell ⟨w.heap.size, 5, none⟩ (.int .u64 0)).setCell ⟨w.heap.size, 6, none⟩ (.int .i64 0)).setCell ⟨w.heap.size, 7, none⟩ (.bool false)).setCell ⟨w.heap.size, 8, none⟩ (.slice none 0 0)).setCell ⟨w.heap.size, 9, none⟩ (.slice none 0 0)).setCell ⟨w.heap.size, 10, none⟩ (.slice none 0 0))) w.heap.size 30 (packCells ⟨0, 0, 0, 0, 0, 0, 0, false, [], [], []⟩ ⟨none, 0, none, 0, none, 0⟩) ∧ Below w.heap.size w ((((((((((((wr.setCell ⟨w.heap.size, 0, none⟩ (.int .i64 0)).setCell ⟨w.heap.size, 1, none⟩ (.int .u64 0)).setCell ⟨w.heap.size, 2, none⟩ (.int .u64 0)).setCell ⟨w.heap.size, 3, none⟩ (.int .u64 0)).setCell ⟨w.heap.size, 4, none⟩ (.int .u64 0)).setCell ⟨w.heap.size, 5, none⟩ (.int .u64 0)).setCell ⟨w.heap.size, 6, none⟩ (.int .i64 0)).setCell ⟨w.heap.size, 7, none⟩ (.bool false)).setCell ⟨w.heap.size, 8, none⟩ (.slice none 0 0)).setCell ⟨w.heap.size, 9, none⟩ (.slice none 0 0)).setCell ⟨w.heap.size, 10, none⟩ (.slice none 0 0))) := ⟨HL.out.st.res.pack ⟨0, 0, 0, 0, 0, 0, 0, false, [], [], []⟩ ⟨none, 0, none, 0, none, 0⟩, below_pack HL.out.st.below (Nat.le_refl _) ⟨0, 0, 0, 0, 0, 0, 0, false, [], [], []⟩ ⟨none, 0, none, 0, none, 0⟩⟩
        clear f4 r4 b1 p0 t0 p1 t1 p2 t2 p3 t3 p4 t4 p5 t5 p6 t6 p7 t7 p8 t8 p9 t9 p10 t10 g0 g1
        generalize (((((((((((wr.setCell ⟨w.heap.size, 0, none⟩ (.int .i64 0)).setCell ⟨w.heap.size, 1, none⟩ (.int .u64 0)).setCell ⟨w.heap.size, 2, none⟩ (.int .u64 0)).setCell ⟨w.heap.size, 3, none⟩ (.int .u64 0)).setCell ⟨w.heap.size, 4, none⟩ (.int .u64 0)).setCell ⟨w.heap.size, 5, none⟩ (.int .u64 0)).setCell ⟨w.heap.size, 6, none⟩ (.int .i64 0)).setCell ⟨w.heap.size, 7, none⟩ (.bool false)).setCell ⟨w.heap.size, 8, none⟩ (.slice none 0 0)).setCell ⟨w.heap.size, 9, none⟩ (.slice none 0 0)).setCell ⟨w.heap.size, 10, none⟩ (.slice none 0 0)) = W9 at Hy2 ⊢
        obtain ⟨Hy, Hby⟩ := Hy2
        obtain ⟨y0, y1, y2, y3, y4, y5, y6, y7, y8, y9, y10⟩ := pack_facts Hy
        dsimp only at y0 y1 y2 y3 y4 y5 y6 y7 y8 y9 y10
        refine bodyPost_ret (v := .tuple #[packVal ⟨0, 0, 0, 0, 0, 0, 0, false, [], [], []⟩ ⟨none, 0, none, 0, none, 0⟩, .int .i64 6]) (by simp [results, Tryz.results12, go_sem, y0, y1, y2, y3, y4, y5, y6, y7, y8, y9, y10]) rfl ?_
        exact rd_bad HD.out (fun h => by have := h.1; injection this with h _; rw [h] at hn3; simp at hn3; omega) Hby
      have e3 : decide ((0 : Int) < (n3 : Int)) = false := decide_eq_false (by omega)
      by_cases hl2 : 0 < n2
      · have e4 : decide ((0 : Int) < (n2 : Int)) = true := decide_eq_true (by omega)
        go_wp2_with fail
        have Hy2 : Whole ((((((((((((wr.setCell ⟨w.heap.size, 0, none⟩ (.int .i64 0)).setCell ⟨w.heap.size, 1, none⟩ (.int .u64 0)).setCell ⟨w.heap.size, 2, none⟩ (.int .u64 0)).setCell ⟨w.heap.size, 3, none⟩ (.int .u64 0)).setCell ⟨w.heap.size, 4, none⟩ (.int .u64 0)).setCell ⟨w.heap.size, 5, none⟩ (.int .u64 0)).setCell ⟨w.heap.size, 6, none⟩ (.int .i64 0)).setCell ⟨w.heap.size, 7, none⟩ (.bool false)).setCell ⟨w.heap.size, 8, none⟩ (.slice none 0 0)).setCell ⟨w.heap.size, 9, none⟩ (.slice none 0 0)).setCell ⟨w.heap.size, 10, none⟩ (.slice none 0 0))) w.heap.size 30 (packCells ⟨0, 0, 0, 0, 0, 0, 0, false, [], [], []⟩ ⟨none, 0, none, 0, none, 0⟩) ∧ Below w.heap.size w ((((((((((((wr.setCell ⟨w.heap.size, 0, none⟩ (.int .i64 0)).setCell ⟨w.heap.size, 1, none⟩ (.int .u64 0)).setCell ⟨w.heap.size, 2, none⟩ (.int .u64 0)).setCell ⟨w.heap.size, 3, none⟩ (.int .u64 0)).setCell ⟨w.heap.size, 4, none⟩ (.int .u64 0)).setCell ⟨w.heap.size, 5, none⟩ (.int .u64 0)).setCell ⟨w.heap.size, 6, none⟩ (.int .i64 0)).setCell ⟨w.heap.size, 7, none⟩ (.bool false)).setCell ⟨w.heap.size, 8, none⟩ (.slice none 0 0)).setCell ⟨w.heap.size, 9, none⟩ (.slice none 0 0)).setCell ⟨w.heap.size, 10, none⟩ (.slice none 0 0))) := ⟨HL.out.st.res.pack ⟨0, 0, 0, 0, 0, 0, 0, false, [], [], []⟩ ⟨none, 0, none, 0, none, 0⟩, below_pack HL.out.st.below (Nat.le_refl _) ⟨0, 0, 0, 0, 0, 0, 0, false, [], [], []⟩ ⟨none, 0, none, 0, none, 0⟩⟩
        clear f4 r4 b1 p0 t0 p1 t1 p2 t2 p3 t3 p4 t4 p5 t5 p6 t6 p7 t7 p8 t8 p9 t9 p10 t10 g0 g1
        generalize (((((((((((wr.setCell ⟨w.heap.size, 0, none⟩ (.int .i64 0)).setCell ⟨w.heap.size, 1, none⟩ (.int .u64 0)).setCell ⟨w.heap.size, 2, none⟩ (.int .u64 0)).setCell ⟨w.heap.size, 3, none⟩ (.int .u64 0)).setCell ⟨w.heap.size, 4, none⟩ (.int .u64 0)).setCell ⟨w.heap.size, 5, none⟩ (.int .u64 0)).setCell ⟨w.heap.size, 6, none⟩ (.int .i64 0)).setCell ⟨w.heap.size, 7, none⟩ (.bool false)).setCell ⟨w.heap.size, 8, none⟩ (.slice none 0 0)).setCell ⟨w.heap.size, 9, none⟩ (.slice none 0 0)).setCell ⟨w.heap.size, 10, none⟩ (.slice none 0 0)) = W9 at Hy2 ⊢
        obtain ⟨Hy, Hby⟩ := Hy2
        obtain ⟨y0, y1, y2, y3, y4, y5, y6, y7, y8, y9, y10⟩ := pack_facts Hy
        dsimp only at y0 y1 y2 y3 y4 y5 y6 y7 y8 y9 y10
        refine bodyPost_ret (v := .tuple #[packVal ⟨0, 0, 0, 0, 0, 0, 0, false, [], [], []⟩ ⟨none, 0, none, 0, none, 0⟩, .int .i64 6]) (by simp [results, Tryz.results12, go_sem, y0, y1, y2, y3, y4, y5, y6, y7, y8, y9, y10]) rfl ?_
        exact rd_bad HD.out (fun h => by rw [h.2.1] at hn2; simp at hn2; omega) Hby
      have e4 : decide ((0 : Int) < (n2 : Int)) = false := decide_eq_false (by omega)
      obtain rfl : lf = [] := List.eq_nil_of_length_eq_zero (by omega)
      have hr0 : r = [] := List.eq_nil_of_length_eq_zero (by omega)
      have Hr0 := hid_ hr0
      have hpl := HL.out.st.pk.lt
      have hrl := HL.out.st.res.lt
      clear hr0
      cases hrp : rightP ⟨10, x3, 0, 0, 0, 0, 0, false, [], [], acc⟩
      · have Hrp := hid_ hrp
        rw [hrp, show kindP false = 6 from rfl] at Hri
        have e6 : ((6 : Int) != 0) = true := by decide
        clear hrp
        go_wp2_with fail
        refine Calls.mono Hri.out ?_
        rintro e w9 ⟨rfl, hb9⟩
        have Q9 := hid_ (HL.out.st.res.below hb9 hrl)
        have B9 := hid_ (HL.out.st.below.trans (hb9.mono HL.out.st.below.size))
        clear f4 r4 b1 p0 t0 p1 t1 p2 t2 p3 t3 p4 t4 p5 t5 p6 t6 p7 t7 p8 t8 p9 t9 p10 t10 g0 g1
        have r9 : ∀ o, w9.frozen? ⟨w.heap.size, o, none⟩ = false := fun o => Q9.out.free o
        obtain ⟨t0, t1, t2, t3, t4, t5, t6, t7, t8, t9, t10⟩ := pack_facts Q9.out
        dsimp only [zeroP] at t0 t1 t2 t3 t4 t5 t6 t7 t8 t9 t10
        go_wp2_with fail
        have Hy2 : Whole ((((((((((((w9.setCell ⟨w.heap.size, 0, none⟩ (.int .i64 0)).setCell ⟨w.heap.size, 1, none⟩ (.int .u64 0)).setCell ⟨w.heap.size, 2, none⟩ (.int .u64 0)).setCell ⟨w.heap.size, 3, none⟩ (.int .u64 0)).setCell ⟨w.heap.size, 4, none⟩ (.int .u64 0)).setCell ⟨w.heap.size, 5, none⟩ (.int .u64 0)).setCell ⟨w.heap.size, 6, none⟩ (.int .i64 0)).setCell ⟨w.heap.size, 7, none⟩ (.bool false)).setCell ⟨w.heap.size, 8, none⟩ (.slice none 0 0)).setCell ⟨w.heap.size, 9, none⟩ (.slice none 0 0)).setCell ⟨w.heap.size, 10, none⟩ (.slice none 0 0))) w.heap.size 30 (packCells ⟨0, 0, 0, 0, 0, 0, 0, false, [], [], []⟩ ⟨none, 0, none, 0, none, 0⟩) ∧ Below w.heap.size w ((((((((((((w9.setCell ⟨w.heap.size, 0, none⟩ (.int .i64 0)).setCell ⟨w.heap.size, 1, none⟩ (.int .u64 0)).setCell ⟨w.heap.size, 2, none⟩ (.int .u64 0)).setCell ⟨w.heap.size, 3, none⟩ (.int .u64 0)).setCell ⟨w.heap.size, 4, none⟩ (.int .u64 0)).setCell ⟨w.heap.size, 5, none⟩ (.int .u64 0)).setCell ⟨w.heap.size, 6, none⟩ (.int .i64 0)).setCell ⟨w.heap.size, 7, none⟩ (.bool false)).setCell ⟨w.heap.size, 8, none⟩ (.slice none 0 0)).setCell ⟨w.heap.size, 9, none⟩ (.slice none 0 0)).setCell ⟨w.heap.size, 10, none⟩ (.slice none 0 0))) := ⟨Q9.out.pack ⟨0, 0, 0, 0, 0, 0, 0, false, [], [], []⟩ ⟨none, 0, none, 0, none, 0⟩, below_pack B9.out (Nat.le_refl _) ⟨0, 0, 0, 0, 0, 0, 0, false, [], [], []⟩ ⟨none, 0, none, 0, none, 0⟩⟩
        generalize (((((((((((w9.setCell ⟨w.heap.size, 0, none⟩ (.int .i64 0)).setCell ⟨w.heap.size, 1, none⟩ (.int .u64 0)).setCell ⟨w.heap.size, 2, none⟩ (.int .u64 0)).setCell ⟨w.heap.size, 3, none⟩ (.int .u64 0)).setCell ⟨w.heap.size, 4, none⟩ (.int .u64 0)).setCell ⟨w.heap.size, 5, none⟩ (.int .u64 0)).setCell ⟨w.heap.size, 6, none⟩ (.int .i64 0)).setCell ⟨w.heap.size, 7, none⟩ (.bool false)).setCell ⟨w.heap.size, 8, none⟩ (.slice none 0 0)).setCell ⟨w.heap.size, 9, none⟩ (.slice none 0 0)).setCell ⟨w.heap.size, 10, none⟩ (.slice none 0 0)) = W9 at Hy2 ⊢
        obtain ⟨Hy, Hby⟩ := Hy2
        obtain ⟨y0, y1, y2, y3, y4, y5, y6, y7, y8, y9, y10⟩ := pack_facts Hy
        dsimp only at y0 y1 y2 y3 y4 y5 y6 y7 y8 y9 y10
        refine bodyPost_ret (v := .tuple #[packVal ⟨0, 0, 0, 0, 0, 0, 0, false, [], [], []⟩ ⟨none, 0, none, 0, none, 0⟩, .int .i64 6]) (by simp [results, Tryz.results12, go_sem, y0, y1, y2, y3, y4, y5, y6, y7, y8, y9, y10]) rfl ?_
        exact rd_bad HD.out (fun h => by have := h.2.2; rw [Hrp.out] at this; cases this) Hby
      · have Hrp := hid_ hrp
        rw [hrp, show kindP true = 0 from rfl] at Hri
        have e6 : ((0 : Int) != 0) = false := by decide
        clear hrp
        go_wp2_with fail
        refine Calls.mono Hri.out ?_
        rintro e w9 ⟨rfl, hb9⟩
        have Q9 := hid_ (HL.out.st.res.below hb9 hrl)
        have K9 := hid_ (HL.out.st.pk.below hb9 hpl)
        have B9 := hid_ (HL.out.st.below.trans (hb9.mono HL.out.st.below.size))
        clear f4 r4 b1 p0 t0 p1 t1 p2 t2 p3 t3 p4 t4 p5 t5 p6 t6 p7 t7 p8 t8 p9 t9 p10 t10 g0 g1
        have r9 : ∀ o, w9.frozen? ⟨w.heap.size, o, none⟩ = false := fun o => Q9.out.free o
        obtain ⟨t0, t1, t2, t3, t4, t5, t6, t7, t8, t9, t10⟩ := pack_facts Q9.out
        obtain ⟨p0, p1, p2, p3, p4, p5, p6, p7, p8, p9, p10⟩ := pack_facts K9.out
        dsimp only [zeroP] at p0 p1 p2 p3 p4 p5 p6 p7 p8 p9 p10 t0 t1 t2 t3 t4 t5 t6 t7 t8 t9 t10
        go_wp2_with fail
        have Hy2 : Whole ((((((((((((w9.setCell ⟨w.heap.size, 0, none⟩ (.int .i64 10)).setCell ⟨w.heap.size, 1, none⟩ (.int .u64 (x3 : Nat))).setCell ⟨w.heap.size, 2, none⟩ (.int .u64 0)).setCell ⟨w.heap.size, 3, none⟩ (.int .u64 0)).setCell ⟨w.heap.size, 4, none⟩ (.int .u64 0)).setCell ⟨w.heap.size, 5, none⟩ (.int .u64 0)).setCell ⟨w.heap.size, 6, none⟩ (.int .i64 0)).setCell ⟨w.heap.size, 7, none⟩ (.bool false)).setCell ⟨w.heap.size, 8, none⟩ (.slice none 0 0)).setCell ⟨w.heap.size, 9, none⟩ (.slice none 0 0)).setCell ⟨w.heap.size, 10, none⟩ (.slice A acc.length c))) w.heap.size 30 (packCells ⟨10, x3, 0, 0, 0, 0, 0, false, [], [], acc⟩ ⟨none, 0, none, 0, A, c⟩) ∧ Below w.heap.size w ((((((((((((w9.setCell ⟨w.heap.size, 0, none⟩ (.int .i64 10)).setCell ⟨w.heap.size, 1, none⟩ (.int .u64 (x3 : Nat))).setCell ⟨w.heap.size, 2, none⟩ (.int .u64 0)).setCell ⟨w.heap.size, 3, none⟩ (.int .u64 0)).setCell ⟨w.heap.size, 4, none⟩ (.int .u64 0)).setCell ⟨w.heap.size, 5, none⟩ (.int .u64 0)).setCell ⟨w.heap.size, 6, none⟩ (.int .i64 0)).setCell ⟨w.heap.size, 7, none⟩ (.bool false)).setCell ⟨w.heap.size, 8, none⟩ (.slice none 0 0)).setCell ⟨w.heap.size, 9, none⟩ (.slice none 0 0)).setCell ⟨w.heap.size, 10, none⟩ (.slice A acc.length c))) ∧ PackIn ((((((((((((w9.setCell ⟨w.heap.size, 0, none⟩ (.int .i64 10)).setCell ⟨w.heap.size, 1, none⟩ (.int .u64 (x3 : Nat))).setCell ⟨w.heap.size, 2, none⟩ (.int .u64 0)).setCell ⟨w.heap.size, 3, none⟩ (.int .u64 0)).setCell ⟨w.heap.size, 4, none⟩ (.int .u64 0)).setCell ⟨w.heap.size, 5, none⟩ (.int .u64 0)).setCell ⟨w.heap.size, 6, none⟩ (.int .i64 0)).setCell ⟨w.heap.size, 7, none⟩ (.bool false)).setCell ⟨w.heap.size, 8, none⟩ (.slice none 0 0)).setCell ⟨w.heap.size, 9, none⟩ (.slice none 0 0)).setCell ⟨w.heap.size, 10, none⟩ (.slice A acc.length c))) ⟨10, x3, 0, 0, 0, 0, 0, false, [], [], acc⟩ ⟨none, 0, none, 0, A, c⟩ := ⟨Q9.out.pack ⟨10, x3, 0, 0, 0, 0, 0, false, [], [], acc⟩ ⟨none, 0, none, 0, A, c⟩, below_pack B9.out (Nat.le_refl _) ⟨10, x3, 0, 0, 0, 0, 0, false, [], [], acc⟩ ⟨none, 0, none, 0, A, c⟩, packIn_set (p := ⟨10, x3, 0, 0, 0, 0, 0, false, [], [], acc⟩) (s := ⟨none, 0, none, 0, A, c⟩) (PI.out.below hb9) EL⟩
        clear r9 p0 t0 p1 t1 p2 t2 p3 t3 p4 t4 p5 t5 p6 t6 p7 t7 p8 t8 p9 t9 p10 t10
        generalize (((((((((((w9.setCell ⟨w.heap.size, 0, none⟩ (.int .i64 10)).setCell ⟨w.heap.size, 1, none⟩ (.int .u64 (x3 : Nat))).setCell ⟨w.heap.size, 2, none⟩ (.int .u64 0)).setCell ⟨w.heap.size, 3, none⟩ (.int .u64 0)).setCell ⟨w.heap.size, 4, none⟩ (.int .u64 0)).setCell ⟨w.heap.size, 5, none⟩ (.int .u64 0)).setCell ⟨w.heap.size, 6, none⟩ (.int .i64 0)).setCell ⟨w.heap.size, 7, none⟩ (.bool false)).setCell ⟨w.heap.size, 8, none⟩ (.slice none 0 0)).setCell ⟨w.heap.size, 9, none⟩ (.slice none 0 0)).setCell ⟨w.heap.size, 10, none⟩ (.slice A acc.length c)) = W9 at Hy2 ⊢
        obtain ⟨Hy, Hby, Hin⟩ := Hy2
        obtain ⟨y0, y1, y2, y3, y4, y5, y6, y7, y8, y9, y10⟩ := pack_facts Hy
        dsimp only at y0 y1 y2 y3 y4 y5 y6 y7 y8 y9 y10
        refine bodyPost_ret (v := .tuple #[packVal ⟨10, x3, 0, 0, 0, 0, 0, false, [], [], acc⟩ ⟨none, 0, none, 0, A, c⟩, .int .i64 0]) (by simp [results, Tryz.results12, go_sem, y0, y1, y2, y3, y4, y5, y6, y7, y8, y9, y10]) rfl ?_
        exact rd_good HD.out Hr0.out Hrp.out Hin Hby
end Go.Proofs.YtnpbokbfkdncmaaGreat
