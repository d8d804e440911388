/-
  The reference's Decode of data of kind 3.
-/
import Derived.Test.YtnpbokbfkdncmaaGreatZGRD1
namespace Go.Proofs.YtnpbokbfkdncmaaGreat
set_option linter.unusedSimpArgs false
set_option linter.unusedVariables false
open Go.RowKit Ru Fm
set_option maxRecDepth 100000 in
set_option maxHeartbeats 16000000 in
theorem rdec3_any (A : Option Addr) (n c : Nat) (b d r : List UInt8) (w : World) (hs : Sl w A n c b) (hc : cutF b = (0, d, r)) (hk : hd d = 3) : Calls Tryz.prog 12 #[.slice A n c] w (RDPost w d r) := by
  have HD := hid_ (fun (s1 : List UInt8 × Bool) (h1 : takeS 1 (d, false) = s1) => show sreadF d = (⟨3, 0, 0, 0, 0, 0, 0, false, [], (memS (hd s1.1) (takeS 1 s1)).1, []⟩, (memS (hd s1.1) (takeS 1 s1)).2) by unfold sreadF; dsimp only; rw [h1, hk, show partsF ((3 : Nat) : Int) = ⟨false, false, false, false, false, true, false⟩ from parts_3]; simp [stT, stB, stA, stV, spL, meL, idL])
  have Hwf := hid_ (sreadF_wf d)
  have Hbn := hid_ (b_ne hc)
  have Hs := hid_ hs
  have Hcut := hid_ (Fr.refcut_any A n c b (w.alloc (.cells #[.int .i64 0, .int .u64 0, .int .u64 0, .int .u64 0, .int .u64 0, .int .u64 0, .int .i64 0, .bool false, .slice none 0 0, .slice none 0 0, .slice none 0 0] 30)) (hs.below ((Below.refl _ _).alloc (Nat.le_refl _) _)))
  unfold Fr.RefCut at Hcut
  rw [hc] at Hcut
  have Hby := hid_ (fun W g Q h => show Calls Tryz.prog 27 #[.pointer (some ⟨g, 0, none⟩)] W (RrPost W g Q (.int .u8 (3 : Nat)) (takeS 1 (d, false))) from by have hh := rbyte_any g Q (d, false) W h; rw [show hd (d, false).1 = 3 from hk] at hh; exact hh)
  have HD := hid_ (HD.out _ rfl)
  generalize takeS 1 (d, false) = s1 at *
  have W0 := hid_ (whole_new w 30 #[.int .i64 0, .int .u64 0, .int .u64 0, .int .u64 0, .int .u64 0, .int .u64 0, .int .i64 0, .bool false, .slice none 0 0, .slice none 0 0, .slice none 0 0])
  have Hb0 := hid_ (((Below.refl w.heap.size w).alloc (Nat.le_refl _) (.cells #[.int .i64 0, .int .u64 0, .int .u64 0, .int .u64 0, .int .u64 0, .int .u64 0, .int .i64 0, .bool false, .slice none 0 0, .slice none 0 0, .slice none 0 0] 30)))
  have hsz0 : (w.alloc (.cells #[.int .i64 0, .int .u64 0, .int .u64 0, .int .u64 0, .int .u64 0, .int .u64 0, .int .i64 0, .bool false, .slice none 0 0, .slice none 0 0, .slice none 0 0] 30)).heap.size = w.heap.size + 1 := by simp
  clear hs hc hk
  go_enter Tryz.func12, Tryz.ntmps12
  go_wp2_with fail
  refine Calls.mono Hcut.out ?_
  rintro e w1 ⟨A1, n1, c1, A2, n2, c2, rfl, h1, h2, i1, -, hb1⟩
  try dsimp only at h1 h2
  have hn2 := h2.len
  have hlt1 : w.heap.size < w1.heap.size := by have := hb1.size; omega
  have R1 := hid_ (rr_start Hs.out Hbn.out h1 i1 hlt1)
  have W1 := hid_ ((W0.out.below hb1 W0.out.lt).alloc (.cells #[.slice A1 n1 c1, .bool false] 57))
  have Hb1 := hid_ ((Hb0.out.trans (hb1.mono Hb0.out.size)).alloc (Hb0.out.trans (hb1.mono Hb0.out.size)).size (.cells #[.slice A1 n1 c1, .bool false] 57))
  clear h1 h2 i1 hb1
  go_wp2_with fail
  refine Calls.mono (Hby.out _ _ _ R1.out) ?_
  rintro e w2 ⟨rfl, hr2, hg2⟩
  have hlt2 : w1.heap.size < w2.heap.size := hr2.lt
  have S2 := hid_ (show Rs w w1.heap.size w2.heap.size (w2.alloc (.cells (packCells ⟨3, 0, 0, 0, 0, 0, 0, false, [], [], []⟩ ⟨none, 0, none, 0, none, 0⟩) 30)) s1 ⟨3, 0, 0, 0, 0, 0, 0, false, [], [], []⟩ ⟨none, 0, none, 0, none, 0⟩ from
    ⟨hr2.bar _ _ rfl, (W1.out.grown hg2 (by intro e; injection e with e; omega)).alloc _, whole_new _ _ _, (below_grown_ Hb1.out hg2 (by omega) (by simp <;> omega)).alloc (by omega) _, hlt1, hlt2⟩)
  clear hr2 hg2
  have hq1 : w.heap.size ≠ w1.heap.size := by omega
  have hq2 : w.heap.size ≠ w2.heap.size := by omega
  have hq3 : w1.heap.size ≠ w2.heap.size := by omega
  go_wp2_with fail
  refine Calls.mono (rbyte_any _ _ s1 _ S2.out.rd) ?_
  rintro e w3 ⟨rfl, hr, hg⟩
  have T3 := hid_ (S2.out.call hg hr)
  clear hr hg
  have hlt3 := hd_lt s1.1
  generalize hd s1.1 = N at *
  generalize takeS 1 s1 = s3 at *
  have S3 := hid_ (T3.out)
  have f3 : ∀ o, w3.frozen? ⟨w2.heap.size, o, none⟩ = false := fun o => T3.out.pk.free o
  obtain ⟨p0, p1, p2, p3, p4, p5, p6, p7, p8, p9, p10⟩ := pack_facts T3.out.pk
  have r3 : ∀ o, w3.frozen? ⟨w.heap.size, o, none⟩ = false := fun o => T3.out.res.free o
  obtain ⟨t0, t1, t2, t3, t4, t5, t6, t7, t8, t9, t10⟩ := pack_facts T3.out.res
  dsimp only [zeroP] at p0 p1 p2 p3 p4 p5 p6 p7 p8 p9 p10 t0 t1 t2 t3 t4 t5 t6 t7 t8 t9 t10
  have L0 := hid_ (Lr.start S3.out)
  have hgB : w2.heap.size < w3.heap.size := S3.out.pk.lt
  have hN : N ≤ 255 := by omega
  clear p0 t0 p1 t1 p2 t2 p3 t3 p4 t4 p5 t5 p6 t6 p7 t7 p8 t8 p9 t9 p10 t10 f3 r3
  go_wp2_with fail
  go_loopw [15] (fun vi wr => ∃ (k : Nat) (A : Option Addr) (c : Nat) (acc : List MemberD) (s' : List UInt8 × Bool), k ≤ N ∧ vi = .int .i64 (k : Nat) ∧ Hid (Lr w w1.heap.size w2.heap.size w3.heap.size wr s' ⟨3, 0, 0, 0, 0, 0, 0, false, [], acc, []⟩ ⟨none, 0, A, c, none, 0⟩ A) ∧ Hid (wr.ownsRow w3.heap.size 64 3 (.slice A k c) k (memsAll acc)) ∧ Hid (acc.length = k) ∧ Hid (memS N s3 = (acc ++ (memS (N - k) s').1, (memS (N - k) s').2))) (fun vi _ => N - (intOf vi).toNat)
  case atStart => exact ⟨0, none, 0, [], s3, by omega, rfl, L0, hid_ (World.ownsRow_nil _ _ _ _), hid_ rfl, hid_ (by simp)⟩
  case round =>
    obtain ⟨k, A, c, acc, ⟨lf, bad⟩, hk, rfl, HL, HO, HA, HE⟩ := hrel
    have b1 := Rr.bad_cell HL.out.rd
    dsimp only at b1
    by_cases hlt : k < N
    · have hlt2 : decide (k < N) = true := decide_eq_true hlt
      cases bad
      · have hc8 : wr.cell? ⟨w2.heap.size, 9, none⟩ = some (.slice A k c) := by
          have := HL.out.st.pk.cell 9 (.slice A acc.length c) rfl
          rwa [HA.out] at this
        have hgp : w2.heap.size < wr.heap.size := HL.out.st.pk.lt
        have hrp : w1.heap.size < wr.heap.size := HL.out.rd.lt
        have hq4 : w2.heap.size ≠ wr.heap.size := by omega
        have hq5 : w1.heap.size ≠ wr.heap.size := by omega
        obtain ⟨m, hm⟩ : ∃ m, N - k = m + 1 := ⟨N - k - 1, by omega⟩
        have HX := hid_ (show memS (m + 1) (lf, false) = (⟨numB lf 8, numB (takeS 8 (lf, false)).1 8, ((hd (takeS 8 (takeS 8 (lf, false))).1 : Nat) : Int)⟩ :: (memS m (takeS 1 (takeS 8 (takeS 8 (lf, false))))).1, (memS m (takeS 1 (takeS 8 (takeS 8 (lf, false))))).2) by
          rw [takeS_add, takeS_add, memS, if_neg (by simp)]
          simp [memAt, takeS, List.drop_drop])
        have M0 := hid_ (Mr.start HL.out HO.out #[.int .u64 0, .int .u64 0, .int .i64 0])
        have Ha1 := hid_ (fun W h => rrnumber_any w1.heap.size (fun q => ((q = w.heap.size ∨ q = w2.heap.size) ∨ ∃ a, A = some a ∧ q = a.block) ∨ q = wr.heap.size) (lf, false) W h)
        rw [show (lf, false).1 = lf from rfl] at Ha1
        generalize takeS 8 (lf, false) = s1' at *
        have Ha2 := hid_ (fun W h => rrnumber_any w1.heap.size (fun q => ((q = w.heap.size ∨ q = w2.heap.size) ∨ ∃ a, A = some a ∧ q = a.block) ∨ q = wr.heap.size) s1' W h)
        generalize takeS 8 s1' = s2' at *
        have Ha3 := hid_ (fun W h => rbyte_any w1.heap.size (fun q => ((q = w.heap.size ∨ q = w2.heap.size) ∨ ∃ a, A = some a ∧ q = a.block) ∨ q = wr.heap.size) s2' W h)
        generalize takeS 1 s2' = s3' at *
        generalize numB lf 8 = x1 at *
        generalize numB s1'.1 8 = x2 at *
        have h255 := hd_lt s2'.1
        generalize hd s2'.1 = x3 at *
        have Hm := hid_ hm
        clear hm
        obtain ⟨i0, hi0, hz0, hz1, hz2⟩ := info_parts info_member
        have Hi0 := hid_ hi0
        have Hz0 := hid_ hz0
        have Hz1 := hid_ hz1
        have Hz2 := hid_ hz2
        clear hi0 hz0 hz1 hz2
        have HAp := hid_ (show memsAll acc ++ mcells ⟨x1, x2, (x3 : Int)⟩ = memsAll (acc ++ [⟨x1, x2, (x3 : Int)⟩]) by rw [memsAll_append]; simp [memsAll, mcells])
        have HAl := hid_ (show (acc ++ [(⟨x1, x2, (x3 : Int)⟩ : MemberD)]).length = k + 1 by rw [List.length_append, HA.out]; rfl)
        clear hc8
        go_wp2_with fail
        refine Calls.mono (Ha1.out _ M0.out.rd) ?_
        rintro e wa ⟨rfl, hr, hg⟩
        have Ma := hid_ (M0.out.call hg hr)
        clear hr hg
        have fa := Ma.out.box.free 0
        have a0 := Ma.out.box.cell 0 _ rfl
        go_wp2_with fail
        have Mb := hid_ (Ma.out.set 0 (.int .u64 (x1 : Nat)) #[.int .u64 (x1 : Nat), .int .u64 0, .int .i64 0] rfl)
        refine Calls.mono (Ha2.out _ Mb.out.rd) ?_
        rintro e wb ⟨rfl, hr, hg⟩
        have Mc := hid_ (Mb.out.call hg hr)
        clear hr hg fa a0
        have fb := Mc.out.box.free 1
        have bb := Mc.out.box.cell 1 _ rfl
        go_wp2_with fail
        have Md := hid_ (Mc.out.set 1 (.int .u64 (x2 : Nat)) #[.int .u64 (x1 : Nat), .int .u64 (x2 : Nat), .int .i64 0] rfl)
        refine Calls.mono (Ha3.out _ Md.out.rd) ?_
        rintro e wc ⟨rfl, hr, hg⟩
        have Me := hid_ (Md.out.call hg hr)
        clear hr hg fb bb
        have fc := Me.out.box.free 2
        have d0 := Me.out.box.cell 0 _ rfl
        have d1 := Me.out.box.cell 1 _ rfl
        have d2 := Me.out.box.cell 2 _ rfl
        have hc9 : wc.cell? ⟨w2.heap.size, 9, none⟩ = some (.slice A k c) := by
          have := Me.out.lr.st.pk.cell 9 (.slice A acc.length c) rfl
          rwa [HA.out] at this
        have Mf := hid_ (Me.out.set 2 (.int .i64 (x3 : Int)) #[.int .u64 (x1 : Nat), .int .u64 (x2 : Nat), .int .i64 (x3 : Int)] rfl)
        have hsB := Mf.out.lr.size
        have hgp3 : w2.heap.size < wc.heap.size := Me.out.lr.st.pk.lt
        go_wp2_with (at_builtin; refine wpList_app _ rfl (.tmp 187) (.tmp 189) 27 rfl w3.heap.size 64 i0 _ 3 24 Tryz.underlying27 Hi0.out Hz0.out Hz1.out Hz2.out rfl (by omega) (.slice A k c) k (memsAll acc) rfl (World.ownsRow.alloc Mf.out.own _) (some ⟨wc.heap.size, 0, none⟩) 1 1 (mcells ⟨x1, x2, (x3 : Int)⟩) rfl rfl (holds_new _ #[.int .u64 (x1 : Nat), .int .u64 (x2 : Nat), .int .i64 (x3 : Int)] 64 wc.heap.size (by simp)) (fun e => by cases e) (mcells_one _) (k + 1) (memsAll (acc ++ [⟨x1, x2, (x3 : Int)⟩])) (by omega) HAp.out (by unfold maxLen; omega) (by omega) (by simp at hsB ⊢; omega) ?_; intro A' c' wv ho7 hg7 hw7; have Ov := hid_ ho7; have Lv := hid_ ((Mf.out.lr.alloc _).app hg7 hw7 (own_lt ho7)); have hc7 := (cellRr_of Lv.out.st 9 (.slice A acc.length c) (v' := .slice A k c) rfl (by rw [HA.out])).1; have hf7 : wv.frozen? ⟨w2.heap.size, 9, none⟩ = false := Lv.out.st.pk.free _; clear ho7 hg7 hw7)
        go_roundw
        case rel => exact ⟨k + 1, A', c', acc ++ [⟨x1, x2, (x3 : Int)⟩], s3', by omega, by go_num, hid_ (Lv.out.set ⟨3, 0, 0, 0, 0, 0, 0, false, [], (acc ++ [(⟨x1, x2, (x3 : Int)⟩ : MemberD)]), []⟩ ⟨none, 0, A', c', none, 0⟩ 9 (.slice A' (k + 1) c') (by simp [packCells, HA.out])), hid_ (Lv.out.kept Ov.out (grown_set _ _ _ _) (show w2.heap.size < w3.heap.size by omega)), HAl, hid_ (by rw [HE.out, Hm.out, HX.out, show N - (k + 1) = m by have := Hm.out; omega]; simp)⟩
        case measure => simp [intOf] <;> omega
      · have HD2 := hid_ (show sreadF d = (⟨3, 0, 0, 0, 0, 0, 0, false, [], acc, []⟩, (lf, true)) by
          rw [HD.out, HE.out]
          have e : memS (N - k) (lf, true) = ([], (lf, true)) := by cases N - k <;> simp [memS]
          rw [e, List.append_nil])
        have HD := HD2
        have r3 : ∀ o, wr.frozen? ⟨w.heap.size, o, none⟩ = false := fun o => HL.out.st.res.free o
        obtain ⟨t0, t1, t2, t3, t4, t5, t6, t7, t8, t9, t10⟩ := pack_facts HL.out.st.res
        dsimp only [zeroP] at t0 t1 t2 t3 t4 t5 t6 t7 t8 t9 t10
        have p0 := (pack_facts HL.out.st.pk).1
        dsimp only at p0
        go_wp2_with fail
        have Hy2 : Whole ((((((((((((wr.setCell ⟨w.heap.size, 0, none⟩ (.int .i64 0)).setCell ⟨w.heap.size, 1, none⟩ (.int .u64 0)).setCell ⟨w.heap.size, 2, none⟩ (.int .u64 0)).setCell ⟨w.heap.size, 3, none⟩ (.int .u64 0)).setCell ⟨w.heap.size, 4, none⟩ (.int .u64 0)).setCell ⟨w.heap.size, 5, none⟩ (.int .u64 0)).setCell ⟨w.heap.size, 6, none⟩ (.int .i64 0)).setCell ⟨w.heap.size, 7, none⟩ (.bool false)).setCell ⟨w.heap.size, 8, none⟩ (.slice none 0 0)).setCell ⟨w.heap.size, 9, none⟩ (.slice none 0 0)).setCell ⟨w.heap.size, 10, none⟩ (.slice none 0 0))) w.heap.size 30 (packCells ⟨0, 0, 0, 0, 0, 0, 0, false, [], [], []⟩ ⟨none, 0, none, 0, none, 0⟩) ∧ Below w.heap.size w ((((((((((((wr.setCell ⟨w.heap.size, 0, none⟩ (.int .i64 0)).setCell ⟨w.heap.size, 1, none⟩ (.int .u64 0)).setCell ⟨w.heap.size, 2, none⟩ (.int .u64 0)).setCell ⟨w.heap.size, 3, none⟩ (.int .u64 0)).setCell ⟨w.heap.size, 4, none⟩ (.int .u64 0)).setCell ⟨w.heap.size, 5, none⟩ (.int .u64 0)).setCell ⟨w.heap.size, 6, none⟩ (.int .i64 0)).setCell ⟨w.heap.size, 7, none⟩ (.bool false)).setCell ⟨w.heap.size, 8, none⟩ (.slice none 0 0)).setCell ⟨w.heap.size, 9, none⟩ (.slice none 0 0)).setCell ⟨w.heap.size, 10, none⟩ (.slice none 0 0))) := ⟨HL.out.st.res.pack ⟨0, 0, 0, 0, 0, 0, 0, false, [], [], []⟩ ⟨none, 0, none, 0, none, 0⟩, below_pack HL.out.st.below (Nat.le_refl _) ⟨0, 0, 0, 0, 0, 0, 0, false, [], [], []⟩ ⟨none, 0, none, 0, none, 0⟩⟩
        clear r3 b1 p0 t0 t1 t2 t3 t4 t5 t6 t7 t8 t9 t10
        generalize (((((((((((wr.setCell ⟨w.heap.size, 0, none⟩ (.int .i64 0)).setCell ⟨w.heap.size, 1, none⟩ (.int .u64 0)).setCell ⟨w.heap.size, 2, none⟩ (.int .u64 0)).setCell ⟨w.heap.size, 3, none⟩ (.int .u64 0)).setCell ⟨w.heap.size, 4, none⟩ (.int .u64 0)).setCell ⟨w.heap.size, 5, none⟩ (.int .u64 0)).setCell ⟨w.heap.size, 6, none⟩ (.int .i64 0)).setCell ⟨w.heap.size, 7, none⟩ (.bool false)).setCell ⟨w.heap.size, 8, none⟩ (.slice none 0 0)).setCell ⟨w.heap.size, 9, none⟩ (.slice none 0 0)).setCell ⟨w.heap.size, 10, none⟩ (.slice none 0 0)) = W9 at Hy2 ⊢
        obtain ⟨Hy, Hby⟩ := Hy2
        obtain ⟨y0, y1, y2, y3, y4, y5, y6, y7, y8, y9, y10⟩ := pack_facts Hy
        dsimp only at y0 y1 y2 y3 y4 y5 y6 y7 y8 y9 y10
        refine bodyPost_ret (v := .tuple #[packVal ⟨0, 0, 0, 0, 0, 0, 0, false, [], [], []⟩ ⟨none, 0, none, 0, none, 0⟩, .int .i64 6]) (by simp [results, Tryz.results12, go_sem, y0, y1, y2, y3, y4, y5, y6, y7, y8, y9, y10]) rfl ?_
        exact rd_bad HD.out (fun h => by have := h.1; injection this with _ h; cases h) Hby
    · have hlt2 : decide (k < N) = false := decide_eq_false hlt
      obtain rfl : k = N := by omega
      have HD2 := hid_ (show sreadF d = (⟨3, 0, 0, 0, 0, 0, 0, false, [], acc, []⟩, (lf, bad)) by
        rw [HD.out, HE.out, Nat.sub_self]
        simp [memS])
      have HD := HD2
      have PI : Hid (PackIn wr ⟨3, 0, 0, 0, 0, 0, 0, false, [], acc, []⟩ ⟨none, 0, A, c, none, 0⟩) := hid_ (⟨⟨fun h => absurd rfl h, rfl, Nat.le_refl _, (show (0 : Nat) ≤ 9223372036854775807 by omega), fun _ => rfl⟩, (by have := own_mem HO.out; dsimp only; rw [HA.out]; exact this), Row.none _⟩)
      have EL : Elsewhere ⟨3, 0, 0, 0, 0, 0, 0, false, [], acc, []⟩ ⟨none, 0, A, c, none, 0⟩ w.heap.size := ⟨(fun a e => by cases e), (fun a e _ => by have := (HL.out.row a e).1; have := HL.out.st.o1; omega), (fun a e => by cases e)⟩
      have f3 : ∀ o, wr.frozen? ⟨w2.heap.size, o, none⟩ = false := fun o => HL.out.st.pk.free o
      obtain ⟨p0, p1, p2, p3, p4, p5, p6, p7, p8, p9, p10⟩ := pack_facts HL.out.st.pk
      have r3 : ∀ o, wr.frozen? ⟨w.heap.size, o, none⟩ = false := fun o => HL.out.st.res.free o
      obtain ⟨t0, t1, t2, t3, t4, t5, t6, t7, t8, t9, t10⟩ := pack_facts HL.out.st.res
      dsimp only [zeroP] at p0 p1 p2 p3 p4 p5 p6 p7 p8 p9 p10 t0 t1 t2 t3 t4 t5 t6 t7 t8 t9 t10
      have Hri := hid_ (show Calls Tryz.prog 21 #[.agg #[.int .i64 3, .int .u64 0, .int .u64 0, .int .u64 0, .int .u64 0, .int .u64 0, .int .i64 0, .bool false, .slice none 0 0, .slice A acc.length c, .slice none 0 0]] wr (KindIs wr (kindP (rightP ⟨3, 0, 0, 0, 0, 0, 0, false, [], acc, []⟩))) from refpack_any ⟨3, 0, 0, 0, 0, 0, 0, false, [], acc, []⟩ ⟨none, 0, A, c, none, 0⟩ _ PI.out (by have h := Hwf.out; rw [HD.out] at h; exact h))
      skip
      obtain ⟨A3, n3, c3, hw3, hs3, -⟩ := HL.out.st.rd
      try dsimp only at hw3 hs3
      have g0 := hw3.cell 0 (.slice A3 n3 c3) rfl
      have g1 := hw3.cell 1 (.bool bad) rfl
      have hn3 := hs3.len
      clear hw3 hs3
      cases bad
      rotate_left
      · skip
        go_wp2_with fail
        have Hy2 : Whole ((((((((((((wr.setCell ⟨w.heap.size, 0, none⟩ (.int .i64 0)).setCell ⟨w.heap.size, 1, none⟩ (.int .u64 0)).setCell ⟨w.heap.size, 2, none⟩ (.int .u64 0)).setCell ⟨w.heap.size, 3, none⟩ (.int .u64 0)).setCell ⟨w.heap.size, 4, none⟩ (.int .u64 0)).setCell ⟨w.heap.size, 5, none⟩ (.int .u64 0)).setCell ⟨w.heap.size, 6, none⟩ (.int .i64 0)).setCell ⟨w.heap.size, 7, none⟩ (.bool false)).setCell ⟨w.heap.size, 8, none⟩ (.slice none 0 0)).setCell ⟨w.heap.size, 9, none⟩ (.slice none 0 0)).setCell ⟨w.heap.size, 10, none⟩ (.slice none 0 0))) w.heap.size 30 (packCells ⟨0, 0, 0, 0, 0, 0, 0, false, [], [], []⟩ ⟨none, 0, none, 0, none, 0⟩) ∧ Below w.heap.size w ((((((((((((wr.setCell ⟨w.heap.size, 0, none⟩ (.int .i64 0)).setCell ⟨w.heap.size, 1, none⟩ (.int .u64 0)).setCell ⟨w.heap.size, 2, none⟩ (.int .u64 0)).setCell ⟨w.heap.size, 3, none⟩ (.int .u64 0)).setCell ⟨w.heap.size, 4, none⟩ (.int .u64 0)).setCell ⟨w.heap.size, 5, none⟩ (.int .u64 0)).setCell ⟨w.heap.size, 6, none⟩ (.int .i64 0)).setCell ⟨w.heap.size, 7, none⟩ (.bool false)).setCell ⟨w.heap.size, 8, none⟩ (.slice none 0 0)).setCell ⟨w.heap.size, 9, none⟩ (.slice none 0 0)).setCell ⟨w.heap.size, 10, none⟩ (.slice none 0 0))) := ⟨HL.out.st.res.pack ⟨0, 0, 0, 0, 0, 0, 0, false, [], [], []⟩ ⟨none, 0, none, 0, none, 0⟩, below_pack HL.out.st.below (Nat.le_refl _) ⟨0, 0, 0, 0, 0, 0, 0, false, [], [], []⟩ ⟨none, 0, none, 0, none, 0⟩⟩
        clear f3 r3 b1 p0 t0 p1 t1 p2 t2 p3 t3 p4 t4 p5 t5 p6 t6 p7 t7 p8 t8 p9 t9 p10 t10 g0 g1
        generalize (((((((((((wr.setCell ⟨w.heap.size, 0, none⟩ (.int .i64 0)).setCell ⟨w.heap.size, 1, none⟩ (.int .u64 0)).setCell ⟨w.heap.size, 2, none⟩ (.int .u64 0)).setCell ⟨w.heap.size, 3, none⟩ (.int .u64 0)).setCell ⟨w.heap.size, 4, none⟩ (.int .u64 0)).setCell ⟨w.heap.size, 5, none⟩ (.int .u64 0)).setCell ⟨w.heap.size, 6, none⟩ (.int .i64 0)).setCell ⟨w.heap.size, 7, none⟩ (.bool false)).setCell ⟨w.heap.size, 8, none⟩ (.slice none 0 0)).setCell ⟨w.heap.size, 9, none⟩ (.slice none 0 0)).setCell ⟨w.heap.size, 10, none⟩ (.slice none 0 0)) = W9 at Hy2 ⊢
        obtain ⟨Hy, Hby⟩ := Hy2
        obtain ⟨y0, y1, y2, y3, y4, y5, y6, y7, y8, y9, y10⟩ := pack_facts Hy
        dsimp only at y0 y1 y2 y3 y4 y5 y6 y7 y8 y9 y10
        refine bodyPost_ret (v := .tuple #[packVal ⟨0, 0, 0, 0, 0, 0, 0, false, [], [], []⟩ ⟨none, 0, none, 0, none, 0⟩, .int .i64 6]) (by simp [results, Tryz.results12, go_sem, y0, y1, y2, y3, y4, y5, y6, y7, y8, y9, y10]) rfl ?_
        exact rd_bad HD.out (fun h => by have := h.1; injection this with _ h; cases h) Hby
      by_cases hl : 0 < n3
      · have e3 : decide ((0 : Int) < (n3 : Int)) = true := decide_eq_true (by omega)
        go_wp2_with fail
        have Hy2 : Whole ((((((((((((wr.setCell ⟨w.heap.size, 0, none⟩ (.int .i64 0)).setCell ⟨w.heap.size, 1, none⟩ (.int .u64 0)).setCell ⟨w.heap.size, 2, none⟩ (.int .u64 0)).setCell ⟨w.heap.size, 3, none⟩ (.int .u64 0)).setCell ⟨w.heap.size, 4, none⟩ (.int .u64 0)).setCell ⟨w.heap.size, 5, none⟩ (.int .u64 0)).setCell ⟨w.heap.size, 6, none⟩ (.int .i64 0)).setCell ⟨w.heap.size, 7, none⟩ (.bool false)).setCell ⟨w.heap.size, 8, none⟩ (.slice none 0 0)).setCell ⟨w.heap.size, 9, none⟩ (.slice none 0 0)).setCell ⟨w.heap.size, 10, none⟩ (.slice none 0 0))) w.heap.size 30 (packCells ⟨0, 0, 0, 0, 0, 0, 0, false, [], [], []⟩ ⟨none, 0, none, 0, none, 0⟩) ∧ Below w.heap.size w ((((((((((((wr.setCell ⟨w.heap.size, 0, none⟩ (.int .i64 0)).setCell ⟨w.heap.size, 1, none⟩ (.int .u64 0)).setCell ⟨w.heap.size, 2, none⟩ (.int .u64 0)).setCell ⟨w.heap.size, 3, none⟩ (.int .u64 0)).setCell ⟨w.heap.size, 4, none⟩ (.int .u64 0)).setCell ⟨w.heap.size, 5, none⟩ (.int .u64 0)).setCell ⟨w.heap.size, 6, none⟩ (.int .i64 0)).setCell ⟨w.heap.size, 7, none⟩ (.bool false)).setCell ⟨w.heap.size, 8, none⟩ (.slice none 0 0)).setCell ⟨w.heap.size, 9, none⟩ (.slice none 0 0)).setCell ⟨w.heap.size, 10, none⟩ (.slice none 0 0))) := ⟨HL.out.st.res.pack ⟨0, 0, 0, 0, 0, 0, 0, false, [], [], []⟩ ⟨none, 0, none, 0, none, 0⟩, below_pack HL.out.st.below (Nat.le_refl _) ⟨0, 0, 0, 0, 0, 0, 0, false, [], [], []⟩ ⟨none, 0, none, 0, none, 0⟩⟩
        clear f3 r3 b1 p0 t0 p1 t1 p2 t2 p3 t3 p4 t4 p5 t5 p6 t6 p7 t7 p8 t8 p9 t9 p10 t10 g0 g1
        generalize (((((((((((wr.setCell ⟨w.heap.size, 0, none⟩ (.int .i64 0)).setCell ⟨w.heap.size, 1, none⟩ (.int .u64 0)).setCell ⟨w.heap.size, 2, none⟩ (.int .u64 0)).setCell ⟨w.heap.size, 3, none⟩ (.int .u64 0)).setCell ⟨w.heap.size, 4, none⟩ (.int .u64 0)).setCell ⟨w.heap.size, 5, none⟩ (.int .u64 0)).setCell ⟨w.heap.size, 6, none⟩ (.int .i64 0)).setCell ⟨w.heap.size, 7, none⟩ (.bool false)).setCell ⟨w.heap.size, 8, none⟩ (.slice none 0 0)).setCell ⟨w.heap.size, 9, none⟩ (.slice none 0 0)).setCell ⟨w.heap.size, 10, none⟩ (.slice none 0 0)) = W9 at Hy2 ⊢
        obtain ⟨Hy, Hby⟩ := Hy2
        obtain ⟨y0, y1, y2, y3, y4, y5, y6, y7, y8, y9, y10⟩ := pack_facts Hy
        dsimp only at y0 y1 y2 y3 y4 y5 y6 y7 y8 y9 y10
        refine bodyPost_ret (v := .tuple #[packVal ⟨0, 0, 0, 0, 0, 0, 0, false, [], [], []⟩ ⟨none, 0, none, 0, none, 0⟩, .int .i64 6]) (by simp [results, Tryz.results12, go_sem, y0, y1, y2, y3, y4, y5, y6, y7, y8, y9, y10]) rfl ?_
        exact rd_bad HD.out (fun h => by have := h.1; injection this with h _; rw [h] at hn3; simp at hn3; omega) Hby
      have e3 : decide ((0 : Int) < (n3 : Int)) = false := decide_eq_false (by omega)
      by_cases hl2 : 0 < n2
      · have e4 : decide ((0 : Int) < (n2 : Int)) = true := decide_eq_true (by omega)
        go_wp2_with fail
        have Hy2 : Whole ((((((((((((wr.setCell ⟨w.heap.size, 0, none⟩ (.int .i64 0)).setCell ⟨w.heap.size, 1, none⟩ (.int .u64 0)).setCell ⟨w.heap.size, 2, none⟩ (.int .u64 0)).setCell ⟨w.heap.size, 3, none⟩ (.int .u64 0)).setCell ⟨w.heap.size, 4, none⟩ (.int .u64 0)).setCell ⟨w.heap.size, 5, none⟩ (.int .u64 0)).setCell ⟨w.heap.size, 6, none⟩ (.int .i64 0)).setCell ⟨w.heap.size, 7, none⟩ (.bool false)).setCell ⟨w.heap.size, 8, none⟩ (.slice none 0 0)).setCell ⟨w.heap.size, 9, none⟩ (.slice none 0 0)).setCell ⟨w.heap.size, 10, none⟩ (.slice none 0 0))) w.heap.size 30 (packCells ⟨0, 0, 0, 0, 0, 0, 0, false, [], [], []⟩ ⟨none, 0, none, 0, none, 0⟩) ∧ Below w.heap.size w ((((((((((((wr.setCell ⟨w.heap.size, 0, none⟩ (.int .i64 0)).setCell ⟨w.heap.size, 1, none⟩ (.int .u64 0)).setCell ⟨w.heap.size, 2, none⟩ (.int .u64 0)).setCell ⟨w.heap.size, 3, none⟩ (.int .u64 0)).setCell ⟨w.heap.size, 4, none⟩ (.int .u64 0)).setCell ⟨w.heap.size, 5, none⟩ (.int .u64 0)).setCell ⟨w.heap.size, 6, none⟩ (.int .i64 0)).setCell ⟨w.heap.size, 7, none⟩ (.bool false)).setCell ⟨w.heap.size, 8, none⟩ (.slice none 0 0)).setCell ⟨w.heap.size, 9, none⟩ (.slice none 0 0)).setCell ⟨w.heap.size, 10, none⟩ (.slice none 0 0))) := ⟨HL.out.st.res.pack ⟨0, 0, 0, 0, 0, 0, 0, false, [], [], []⟩ ⟨none, 0, none, 0, none, 0⟩, below_pack HL.out.st.below (Nat.le_refl _) ⟨0, 0, 0, 0, 0, 0, 0, false, [], [], []⟩ ⟨none, 0, none, 0, none, 0⟩⟩
        clear f3 r3 b1 p0 t0 p1 t1 p2 t2 p3 t3 p4 t4 p5 t5 p6 t6 p7 t7 p8 t8 p9 t9 p10 t10 g0 g1
        generalize (((((((((((wr.setCell ⟨w.heap.size, 0, none⟩ (.int .i64 0)).setCell ⟨w.heap.size, 1, none⟩ (.int .u64 0)).setCell ⟨w.heap.size, 2, none⟩ (.int .u64 0)).setCell ⟨w.heap.size, 3, none⟩ (.int .u64 0)).setCell ⟨w.heap.size, 4, none⟩ (.int .u64 0)).setCell ⟨w.heap.size, 5, none⟩ (.int .u64 0)).setCell ⟨w.heap.size, 6, none⟩ (.int .i64 0)).setCell ⟨w.heap.size, 7, none⟩ (.bool false)).setCell ⟨w.heap.size, 8, none⟩ (.slice none 0 0)).setCell ⟨w.heap.size, 9, none⟩ (.slice none 0 0)).setCell ⟨w.heap.size, 10, none⟩ (.slice none 0 0)) = W9 at Hy2 ⊢
        obtain ⟨Hy, Hby⟩ := Hy2
        obtain ⟨y0, y1, y2, y3, y4, y5, y6, y7, y8, y9, y10⟩ := pack_facts Hy
        dsimp only at y0 y1 y2 y3 y4 y5 y6 y7 y8 y9 y10
        refine bodyPost_ret (v := .tuple #[packVal ⟨0, 0, 0, 0, 0, 0, 0, false, [], [], []⟩ ⟨none, 0, none, 0, none, 0⟩, .int .i64 6]) (by simp [results, Tryz.results12, go_sem, y0, y1, y2, y3, y4, y5, y6, y7, y8, y9, y10]) rfl ?_
        exact rd_bad HD.out (fun h => by rw [h.2.1] at hn2; simp at hn2; omega) Hby
      have e4 : decide ((0 : Int) < (n2 : Int)) = false := decide_eq_false (by omega)
      obtain rfl : lf = [] := List.eq_nil_of_length_eq_zero (by omega)
      have hr0 : r = [] := List.eq_nil_of_length_eq_zero (by omega)
      have Hr0 := hid_ hr0
      have hpl := HL.out.st.pk.lt
      have hrl := HL.out.st.res.lt
      clear hr0
      cases hrp : rightP ⟨3, 0, 0, 0, 0, 0, 0, false, [], acc, []⟩
      · have Hrp := hid_ hrp
        rw [hrp, show kindP false = 6 from rfl] at Hri
        have e6 : ((6 : Int) != 0) = true := by decide
        clear hrp
        go_wp2_with fail
        refine Calls.mono Hri.out ?_
        rintro e w9 ⟨rfl, hb9⟩
        have Q9 := hid_ (HL.out.st.res.below hb9 hrl)
        have B9 := hid_ (HL.out.st.below.trans (hb9.mono HL.out.st.below.size))
        clear f3 r3 b1 p0 t0 p1 t1 p2 t2 p3 t3 p4 t4 p5 t5 p6 t6 p7 t7 p8 t8 p9 t9 p10 t10 g0 g1
        have r9 : ∀ o, w9.frozen? ⟨w.heap.size, o, none⟩ = false := fun o => Q9.out.free o
        obtain ⟨t0, t1, t2, t3, t4, t5, t6, t7, t8, t9, t10⟩ := pack_facts Q9.out
        dsimp only [zeroP] at t0 t1 t2 t3 t4 t5 t6 t7 t8 t9 t10
        go_wp2_with fail
        have Hy2 : Whole ((((((((((((w9.setCell ⟨w.heap.size, 0, none⟩ (.int .i64 0)).setCell ⟨w.heap.size, 1, none⟩ (.int .u64 0)).setCell ⟨w.heap.size, 2, none⟩ (.int .u64 0)).setCell ⟨w.heap.size, 3, none⟩ (.int .u64 0)).setCell ⟨w.heap.size, 4, none⟩ (.int .u64 0)).setCell ⟨w.heap.size, 5, none⟩ (.int .u64 0)).setCell ⟨w.heap.size, 6, none⟩ (.int .i64 0)).setCell ⟨w.heap.size, 7, none⟩ (.bool false)).setCell ⟨w.heap.size, 8, none⟩ (.slice none 0 0)).setCell ⟨w.heap.size, 9, none⟩ (.slice none 0 0)).setCell ⟨w.heap.size, 10, none⟩ (.slice none 0 0))) w.heap.size 30 (packCells ⟨0, 0, 0, 0, 0, 0, 0, false, [], [], []⟩ ⟨none, 0, none, 0, none, 0⟩) ∧ Below w.heap.size w ((((((((((((w9.setCell ⟨w.heap.size, 0, none⟩ (.int .i64 0)).setCell ⟨w.heap.size, 1, none⟩ (.int .u64 0)).setCell ⟨w.heap.size, 2, none⟩ (.int .u64 0)).setCell ⟨w.heap.size, 3, none⟩ (.int .u64 0)).setCell ⟨w.heap.size, 4, none⟩ (.int .u64 0)).setCell ⟨w.heap.size, 5, none⟩ (.int .u64 0)).setCell ⟨w.heap.size, 6, none⟩ (.int .i64 0)).setCell ⟨w.heap.size, 7, none⟩ (.bool false)).setCell ⟨w.heap.size, 8, none⟩ (.slice none 0 0)).setCell ⟨w.heap.size, 9, none⟩ (.slice none 0 0)).setCell ⟨w.heap.size, 10, none⟩ (.slice none 0 0))) := ⟨Q9.out.pack ⟨0, 0, 0, 0, 0, 0, 0, false, [], [], []⟩ ⟨none, 0, none, 0, none, 0⟩, below_pack B9.out (Nat.le_refl _) ⟨0, 0, 0, 0, 0, 0, 0, false, [], [], []⟩ ⟨none, 0, none, 0, none, 0⟩⟩
        generalize (((((((((((w9.setCell ⟨w.heap.size, 0, none⟩ (.int .i64 0)).setCell ⟨w.heap.size, 1, none⟩ (.int .u64 0)).setCell ⟨w.heap.size, 2, none⟩ (.int .u64 0)).setCell ⟨w.heap.size, 3, none⟩ (.int .u64 0)).setCell ⟨w.heap.size, 4, none⟩ (.int .u64 0)).setCell ⟨w.heap.size, 5, none⟩ (.int .u64 0)).setCell ⟨w.heap.size, 6, none⟩ (.int .i64 0)).setCell ⟨w.heap.size, 7, none⟩ (.bool false)).setCell ⟨w.heap.size, 8, none⟩ (.slice none 0 0)).setCell ⟨w.heap.size, 9, none⟩ (.slice none 0 0)).setCell ⟨w.heap.size, 10, none⟩ (.slice none 0 0)) = W9 at Hy2 ⊢
        obtain ⟨Hy, Hby⟩ := Hy2
        obtain ⟨y0, y1, y2, y3, y4, y5, y6, y7, y8, y9, y10⟩ := pack_facts Hy
        dsimp only at y0 y1 y2 y3 y4 y5 y6 y7 y8 y9 y10
        refine bodyPost_ret (v := .tuple #[packVal ⟨0, 0, 0, 0, 0, 0, 0, false, [], [], []⟩ ⟨none, 0, none, 0, none, 0⟩, .int .i64 6]) (by simp [results, Tryz.results12, go_sem, y0, y1, y2, y3, y4, y5, y6, y7, y8, y9, y10]) rfl ?_
        exact rd_bad HD.out (fun h => by have := h.2.2; rw [Hrp.out] at this; cases this) Hby
      · have Hrp := hid_ hrp
        rw [hrp, show kindP true = 0 from rfl] at Hri
        have e6 : ((0 : Int) != 0) = false := by decide
        clear hrp
        go_wp2_with fail
        refine Calls.mono Hri.out ?_
        rintro e w9 ⟨rfl, hb9⟩
        have Q9 := hid_ (HL.out.st.res.below hb9 hrl)
        have K9 := hid_ (HL.out.st.pk.below hb9 hpl)
        have B9 := hid_ (HL.out.st.below.trans (hb9.mono HL.out.st.below.size))
        clear f3 r3 b1 p0 t0 p1 t1 p2 t2 p3 t3 p4 t4 p5 t5 p6 t6 p7 t7 p8 t8 p9 t9 p10 t10 g0 g1
        have r9 : ∀ o, w9.frozen? ⟨w.heap.size, o, none⟩ = false := fun o => Q9.out.free o
        obtain ⟨t0, t1, t2, t3, t4, t5, t6, t7, t8, t9, t10⟩ := pack_facts Q9.out
        obtain ⟨p0, p1, p2, p3, p4, p5, p6, p7, p8, p9, p10⟩ := pack_facts K9.out
        dsimp only [zeroP] at p0 p1 p2 p3 p4 p5 p6 p7 p8 p9 p10 t0 t1 t2 t3 t4 t5 t6 t7 t8 t9 t10
        go_wp2_with fail
        have Hy2 : Whole ((((((((((((w9.setCell ⟨w.heap.size, 0, none⟩ (.int .i64 3)).setCell ⟨w.heap.size, 1, none⟩ (.int .u64 0)).setCell ⟨w.heap.size, 2, none⟩ (.int .u64 0)).setCell ⟨w.heap.size, 3, none⟩ (.int .u64 0)).setCell ⟨w.heap.size, 4, none⟩ (.int .u64 0)).setCell ⟨w.heap.size, 5, none⟩ (.int .u64 0)).setCell ⟨w.heap.size, 6, none⟩ (.int .i64 0)).setCell ⟨w.heap.size, 7, none⟩ (.bool false)).setCell ⟨w.heap.size, 8, none⟩ (.slice none 0 0)).setCell ⟨w.heap.size, 9, none⟩ (.slice A acc.length c)).setCell ⟨w.heap.size, 10, none⟩ (.slice none 0 0))) w.heap.size 30 (packCells ⟨3, 0, 0, 0, 0, 0, 0, false, [], acc, []⟩ ⟨none, 0, A, c, none, 0⟩) ∧ Below w.heap.size w ((((((((((((w9.setCell ⟨w.heap.size, 0, none⟩ (.int .i64 3)).setCell ⟨w.heap.size, 1, none⟩ (.int .u64 0)).setCell ⟨w.heap.size, 2, none⟩ (.int .u64 0)).setCell ⟨w.heap.size, 3, none⟩ (.int .u64 0)).setCell ⟨w.heap.size, 4, none⟩ (.int .u64 0)).setCell ⟨w.heap.size, 5, none⟩ (.int .u64 0)).setCell ⟨w.heap.size, 6, none⟩ (.int .i64 0)).setCell ⟨w.heap.size, 7, none⟩ (.bool false)).setCell ⟨w.heap.size, 8, none⟩ (.slice none 0 0)).setCell ⟨w.heap.size, 9, none⟩ (.slice A acc.length c)).setCell ⟨w.heap.size, 10, none⟩ (.slice none 0 0))) ∧ PackIn ((((((((((((w9.setCell ⟨w.heap.size, 0, none⟩ (.int .i64 3)).setCell ⟨w.heap.size, 1, none⟩ (.int .u64 0)).setCell ⟨w.heap.size, 2, none⟩ (.int .u64 0)).setCell ⟨w.heap.size, 3, none⟩ (.int .u64 0)).setCell ⟨w.heap.size, 4, none⟩ (.int .u64 0)).setCell ⟨w.heap.size, 5, none⟩ (.int .u64 0)).setCell ⟨w.heap.size, 6, none⟩ (.int .i64 0)).setCell ⟨w.heap.size, 7, none⟩ (.bool false)).setCell ⟨w.heap.size, 8, none⟩ (.slice none 0 0)).setCell ⟨w.heap.size, 9, none⟩ (.slice A acc.length c)).setCell ⟨w.heap.size, 10, none⟩ (.slice none 0 0))) ⟨3, 0, 0, 0, 0, 0, 0, false, [], acc, []⟩ ⟨none, 0, A, c, none, 0⟩ := ⟨Q9.out.pack ⟨3, 0, 0, 0, 0, 0, 0, false, [], acc, []⟩ ⟨none, 0, A, c, none, 0⟩, below_pack B9.out (Nat.le_refl _) ⟨3, 0, 0, 0, 0, 0, 0, false, [], acc, []⟩ ⟨none, 0, A, c, none, 0⟩, packIn_set (p := ⟨3, 0, 0, 0, 0, 0, 0, false, [], acc, []⟩) (s := ⟨none, 0, A, c, none, 0⟩) (PI.out.below hb9) EL⟩
        clear r9 p0 t0 p1 t1 p2 t2 p3 t3 p4 t4 p5 t5 p6 t6 p7 t7 p8 t8 p9 t9 p10 t10
        generalize (((((((((((w9.setCell ⟨w.heap.size, 0, none⟩ (.int .i64 3)).setCell ⟨w.heap.size, 1, none⟩ (.int .u64 0)).setCell ⟨w.heap.size, 2, none⟩ (.int .u64 0)).setCell ⟨w.heap.size, 3, none⟩ (.int .u64 0)).setCell ⟨w.heap.size, 4, none⟩ (.int .u64 0)).setCell ⟨w.heap.size, 5, none⟩ (.int .u64 0)).setCell ⟨w.heap.size, 6, none⟩ (.int .i64 0)).setCell ⟨w.heap.size, 7, none⟩ (.bool false)).setCell ⟨w.heap.size, 8, none⟩ (.slice none 0 0)).setCell ⟨w.heap.size, 9, none⟩ (.slice A acc.length c)).setCell ⟨w.heap.size, 10, none⟩ (.slice none 0 0)) = W9 at Hy2 ⊢
        obtain ⟨Hy, Hby, Hin⟩ := Hy2
        obtain ⟨y0, y1, y2, y3, y4, y5, y6, y7, y8, y9, y10⟩ := pack_facts Hy
        dsimp only at y0 y1 y2 y3 y4 y5 y6 y7 y8 y9 y10
        refine bodyPost_ret (v := .tuple #[packVal ⟨3, 0, 0, 0, 0, 0, 0, false, [], acc, []⟩ ⟨none, 0, A, c, none, 0⟩, .int .i64 0]) (by simp [results, Tryz.results12, go_sem, y0, y1, y2, y3, y4, y5, y6, y7, y8, y9, y10]) rfl ?_
        exact rd_good HD.out Hr0.out Hrp.out Hin Hby
end Go.Proofs.YtnpbokbfkdncmaaGreat
