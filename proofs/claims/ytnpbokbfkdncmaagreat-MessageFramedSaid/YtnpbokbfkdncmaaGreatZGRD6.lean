/-
  The reference's Decode of data of kind 8.
-/
import Derived.Test.YtnpbokbfkdncmaaGreatZRDec
namespace Go.Proofs.YtnpbokbfkdncmaaGreat
set_option linter.unusedSimpArgs false
set_option linter.unusedVariables false
open Go.RowKit Ru Fm
set_option maxRecDepth 100000 in
set_option maxHeartbeats 16000000 in
theorem rdec8_any (A : Option Addr) (n c : Nat) (b d r : List UInt8) (w : World) (hs : Sl w A n c b) (hc : cutF b = (0, d, r)) (hk : hd d = 8) : Calls Tryz.prog 12 #[.slice A n c] w (RDPost w d r) := by
  have HD := hid_ (fun (s1 : List UInt8 × Bool) (h1 : takeS 1 (d, false) = s1) => show sreadF d = (⟨8, (numB s1.1 8), 0, 0, 0, 0, ((hd (takeS 8 s1).1 : Nat) : Int), false, [], [], []⟩, (takeS 1 (takeS 8 s1))) by unfold sreadF; dsimp only; rw [h1, hk, show partsF ((8 : Nat) : Int) = ⟨true, false, false, true, false, false, false⟩ from parts_8]; rfl)
  have Hwf := hid_ (sreadF_wf d)
  have Hbn := hid_ (b_ne hc)
  have Hs := hid_ hs
  have Hcut := hid_ (Fr.refcut_any A n c b (w.alloc (.cells #[.int .i64 0, .int .u64 0, .int .u64 0, .int .u64 0, .int .u64 0, .int .u64 0, .int .i64 0, .bool false, .slice none 0 0, .slice none 0 0, .slice none 0 0] 30)) (hs.below ((Below.refl _ _).alloc (Nat.le_refl _) _)))
  unfold Fr.RefCut at Hcut
  rw [hc] at Hcut
  have Hby := hid_ (fun W g Q h => show Calls Tryz.prog 27 #[.pointer (some ⟨g, 0, none⟩)] W (RrPost W g Q (.int .u8 (8 : Nat)) (takeS 1 (d, false))) from by have hh := rbyte_any g Q (d, false) W h; rw [show hd (d, false).1 = 8 from hk] at hh; exact hh)
  have HD := hid_ (HD.out _ rfl)
  generalize takeS 1 (d, false) = s1 at *
  have W0 := hid_ (whole_new w 30 #[.int .i64 0, .int .u64 0, .int .u64 0, .int .u64 0, .int .u64 0, .int .u64 0, .int .i64 0, .bool false, .slice none 0 0, .slice none 0 0, .slice none 0 0])
  have Hb0 := hid_ (((Below.refl w.heap.size w).alloc (Nat.le_refl _) (.cells #[.int .i64 0, .int .u64 0, .int .u64 0, .int .u64 0, .int .u64 0, .int .u64 0, .int .i64 0, .bool false, .slice none 0 0, .slice none 0 0, .slice none 0 0] 30)))
  have hsz0 : (w.alloc (.cells #[.int .i64 0, .int .u64 0, .int .u64 0, .int .u64 0, .int .u64 0, .int .u64 0, .int .i64 0, .bool false, .slice none 0 0, .slice none 0 0, .slice none 0 0] 30)).heap.size = w.heap.size + 1 := by simp
  clear hs hc hk
  go_enter Tryz.func12, Tryz.ntmps12
  go_wp2_with fail
  refine Calls.mono Hcut.out ?_
  rintro e w1 ⟨A1, n1, c1, A2, n2, c2, rfl, h1, h2, i1, -, hb1⟩
  try dsimp only at h1 h2
  have hn2 := h2.len
  have hlt1 : w.heap.size < w1.heap.size := by have := hb1.size; omega
  have R1 := hid_ (rr_start Hs.out Hbn.out h1 i1 hlt1)
  have W1 := hid_ ((W0.out.below hb1 W0.out.lt).alloc (.cells #[.slice A1 n1 c1, .bool false] 57))
  have Hb1 := hid_ ((Hb0.out.trans (hb1.mono Hb0.out.size)).alloc (Hb0.out.trans (hb1.mono Hb0.out.size)).size (.cells #[.slice A1 n1 c1, .bool false] 57))
  clear h1 h2 i1 hb1
  go_wp2_with fail
  refine Calls.mono (Hby.out _ _ _ R1.out) ?_
  rintro e w2 ⟨rfl, hr2, hg2⟩
  have hlt2 : w1.heap.size < w2.heap.size := hr2.lt
  have S2 := hid_ (show Rs w w1.heap.size w2.heap.size (w2.alloc (.cells (packCells ⟨8, 0, 0, 0, 0, 0, 0, false, [], [], []⟩ ⟨none, 0, none, 0, none, 0⟩) 30)) s1 ⟨8, 0, 0, 0, 0, 0, 0, false, [], [], []⟩ ⟨none, 0, none, 0, none, 0⟩ from
    ⟨hr2.bar _ _ rfl, (W1.out.grown hg2 (by intro e; injection e with e; omega)).alloc _, whole_new _ _ _, (below_grown_ Hb1.out hg2 (by omega) (by simp <;> omega)).alloc (by omega) _, hlt1, hlt2⟩)
  clear hr2 hg2
  have hq1 : w.heap.size ≠ w1.heap.size := by omega
  have hq2 : w.heap.size ≠ w2.heap.size := by omega
  have hq3 : w1.heap.size ≠ w2.heap.size := by omega
  go_wp2_with fail
  refine Calls.mono (rrnumber_any _ _ s1 _ S2.out.rd) ?_
  rintro e w3 ⟨rfl, hr, hg⟩
  have T3 := hid_ (S2.out.call hg hr)
  clear hr hg
  generalize numB s1.1 8 = x3 at *
  generalize takeS 8 s1 = s3 at *
  have S3 := hid_ (T3.out.set ⟨8, x3, 0, 0, 0, 0, 0, false, [], [], []⟩ ⟨none, 0, none, 0, none, 0⟩ 1 (.int .u64 (x3 : Nat)) rfl)
  have f3 : ∀ o, w3.frozen? ⟨w2.heap.size, o, none⟩ = false := fun o => T3.out.pk.free o
  obtain ⟨p0, p1, p2, p3, p4, p5, p6, p7, p8, p9, p10⟩ := pack_facts T3.out.pk
  have r3 : ∀ o, w3.frozen? ⟨w.heap.size, o, none⟩ = false := fun o => T3.out.res.free o
  obtain ⟨t0, t1, t2, t3, t4, t5, t6, t7, t8, t9, t10⟩ := pack_facts T3.out.res
  dsimp only [zeroP] at p0 p1 p2 p3 p4 p5 p6 p7 p8 p9 p10 t0 t1 t2 t3 t4 t5 t6 t7 t8 t9 t10
  go_wp2_with fail
  refine Calls.mono (rbyte_any _ _ s3 _ S3.out.rd) ?_
  rintro e w4 ⟨rfl, hr, hg⟩
  have T4 := hid_ (S3.out.call hg hr)
  clear hr hg
  have hlt4 := hd_lt s3.1
  generalize hd s3.1 = x4 at *
  generalize takeS 1 s3 = s4 at *
  clear f3 r3 p0 t0 p1 t1 p2 t2 p3 t3 p4 t4 p5 t5 p6 t6 p7 t7 p8 t8 p9 t9 p10 t10
  have S4 := hid_ (T4.out.set ⟨8, x3, 0, 0, 0, 0, (x4 : Int), false, [], [], []⟩ ⟨none, 0, none, 0, none, 0⟩ 6 (.int .i64 (x4 : Int)) rfl)
  have f4 : ∀ o, w4.frozen? ⟨w2.heap.size, o, none⟩ = false := fun o => T4.out.pk.free o
  obtain ⟨p0, p1, p2, p3, p4, p5, p6, p7, p8, p9, p10⟩ := pack_facts T4.out.pk
  have r4 : ∀ o, w4.frozen? ⟨w.heap.size, o, none⟩ = false := fun o => T4.out.res.free o
  obtain ⟨t0, t1, t2, t3, t4, t5, t6, t7, t8, t9, t10⟩ := pack_facts T4.out.res
  dsimp only [zeroP] at p0 p1 p2 p3 p4 p5 p6 p7 p8 p9 p10 t0 t1 t2 t3 t4 t5 t6 t7 t8 t9 t10
  have Hri := hid_ (show Calls Tryz.prog 21 #[.agg #[.int .i64 8, .int .u64 (x3 : Nat), .int .u64 0, .int .u64 0, .int .u64 0, .int .u64 0, .int .i64 (x4 : Int), .bool false, .slice none 0 0, .slice none 0 0, .slice none 0 0]] (w4.setCell ⟨w2.heap.size, 6, none⟩ (.int .i64 (x4 : Int))) (KindIs (w4.setCell ⟨w2.heap.size, 6, none⟩ (.int .i64 (x4 : Int))) (kindP (rightP ⟨8, x3, 0, 0, 0, 0, (x4 : Int), false, [], [], []⟩))) from refpack_any ⟨8, x3, 0, 0, 0, 0, (x4 : Int), false, [], [], []⟩ ⟨none, 0, none, 0, none, 0⟩ _ (packIn_none _ _ rfl rfl rfl) (by have h := Hwf.out; rw [HD.out] at h; exact h))
  obtain ⟨lf, bad⟩ := s4
  obtain ⟨A3, n3, c3, hw3, hs3, -⟩ := T4.out.rd
  try dsimp only at hw3 hs3
  have g0 := hw3.cell 0 (.slice A3 n3 c3) rfl
  have g1 := hw3.cell 1 (.bool bad) rfl
  have hn3 := hs3.len
  clear hw3 hs3
  cases bad
  rotate_left
  · skip
    go_wp2_with fail
    have Hy2 : Whole (((((((((((((w4.setCell ⟨w2.heap.size, 6, none⟩ (.int .i64 (x4 : Int))).setCell ⟨w.heap.size, 0, none⟩ (.int .i64 0)).setCell ⟨w.heap.size, 1, none⟩ (.int .u64 0)).setCell ⟨w.heap.size, 2, none⟩ (.int .u64 0)).setCell ⟨w.heap.size, 3, none⟩ (.int .u64 0)).setCell ⟨w.heap.size, 4, none⟩ (.int .u64 0)).setCell ⟨w.heap.size, 5, none⟩ (.int .u64 0)).setCell ⟨w.heap.size, 6, none⟩ (.int .i64 0)).setCell ⟨w.heap.size, 7, none⟩ (.bool false)).setCell ⟨w.heap.size, 8, none⟩ (.slice none 0 0)).setCell ⟨w.heap.size, 9, none⟩ (.slice none 0 0)).setCell ⟨w.heap.size, 10, none⟩ (.slice none 0 0))) w.heap.size 30 (packCells ⟨0, 0, 0, 0, 0, 0, 0, false, [], [], []⟩ ⟨none, 0, none, 0, none, 0⟩) ∧ Below w.heap.size w (((((((((((((w4.setCell ⟨w2.heap.size, 6, none⟩ (.int .i64 (x4 : Int))).setCell ⟨w.heap.size, 0, none⟩ (.int .i64 0)).setCell ⟨w.heap.size, 1, none⟩ (.int .u64 0)).setCell ⟨w.heap.size, 2, none⟩ (.int .u64 0)).setCell ⟨w.heap.size, 3, none⟩ (.int .u64 0)).setCell ⟨w.heap.size, 4, none⟩ (.int .u64 0)).setCell ⟨w.heap.size, 5, none⟩ (.int .u64 0)).setCell ⟨w.heap.size, 6, none⟩ (.int .i64 0)).setCell ⟨w.heap.size, 7, none⟩ (.bool false)).setCell ⟨w.heap.size, 8, none⟩ (.slice none 0 0)).setCell ⟨w.heap.size, 9, none⟩ (.slice none 0 0)).setCell ⟨w.heap.size, 10, none⟩ (.slice none 0 0))) := ⟨S4.out.res.pack ⟨0, 0, 0, 0, 0, 0, 0, false, [], [], []⟩ ⟨none, 0, none, 0, none, 0⟩, below_pack S4.out.below (Nat.le_refl _) ⟨0, 0, 0, 0, 0, 0, 0, false, [], [], []⟩ ⟨none, 0, none, 0, none, 0⟩⟩
    clear f4 r4 p0 t0 p1 t1 p2 t2 p3 t3 p4 t4 p5 t5 p6 t6 p7 t7 p8 t8 p9 t9 p10 t10 g0 g1
    generalize ((((((((((((w4.setCell ⟨w2.heap.size, 6, none⟩ (.int .i64 (x4 : Int))).setCell ⟨w.heap.size, 0, none⟩ (.int .i64 0)).setCell ⟨w.heap.size, 1, none⟩ (.int .u64 0)).setCell ⟨w.heap.size, 2, none⟩ (.int .u64 0)).setCell ⟨w.heap.size, 3, none⟩ (.int .u64 0)).setCell ⟨w.heap.size, 4, none⟩ (.int .u64 0)).setCell ⟨w.heap.size, 5, none⟩ (.int .u64 0)).setCell ⟨w.heap.size, 6, none⟩ (.int .i64 0)).setCell ⟨w.heap.size, 7, none⟩ (.bool false)).setCell ⟨w.heap.size, 8, none⟩ (.slice none 0 0)).setCell ⟨w.heap.size, 9, none⟩ (.slice none 0 0)).setCell ⟨w.heap.size, 10, none⟩ (.slice none 0 0)) = W9 at Hy2 ⊢
    obtain ⟨Hy, Hby⟩ := Hy2
    obtain ⟨y0, y1, y2, y3, y4, y5, y6, y7, y8, y9, y10⟩ := pack_facts Hy
    dsimp only at y0 y1 y2 y3 y4 y5 y6 y7 y8 y9 y10
    refine bodyPost_ret (v := .tuple #[packVal ⟨0, 0, 0, 0, 0, 0, 0, false, [], [], []⟩ ⟨none, 0, none, 0, none, 0⟩, .int .i64 6]) (by simp [results, Tryz.results12, go_sem, y0, y1, y2, y3, y4, y5, y6, y7, y8, y9, y10]) rfl ?_
    exact rd_bad HD.out (fun h => by have := h.1; injection this with _ h; cases h) Hby
  by_cases hl : 0 < n3
  · have e3 : decide ((0 : Int) < (n3 : Int)) = true := decide_eq_true (by omega)
    go_wp2_with fail
    have Hy2 : Whole (((((((((((((w4.setCell ⟨w2.heap.size, 6, none⟩ (.int .i64 (x4 : Int))).setCell ⟨w.heap.size, 0, none⟩ (.int .i64 0)).setCell ⟨w.heap.size, 1, none⟩ (.int .u64 0)).setCell ⟨w.heap.size, 2, none⟩ (.int .u64 0)).setCell ⟨w.heap.size, 3, none⟩ (.int .u64 0)).setCell ⟨w.heap.size, 4, none⟩ (.int .u64 0)).setCell ⟨w.heap.size, 5, none⟩ (.int .u64 0)).setCell ⟨w.heap.size, 6, none⟩ (.int .i64 0)).setCell ⟨w.heap.size, 7, none⟩ (.bool false)).setCell ⟨w.heap.size, 8, none⟩ (.slice none 0 0)).setCell ⟨w.heap.size, 9, none⟩ (.slice none 0 0)).setCell ⟨w.heap.size, 10, none⟩ (.slice none 0 0))) w.heap.size 30 (packCells ⟨0, 0, 0, 0, 0, 0, 0, false, [], [], []⟩ ⟨none, 0, none, 0, none, 0⟩) ∧ Below w.heap.size w (((((((((((((w4.setCell ⟨w2.heap.size, 6, none⟩ (.int .i64 (x4 : Int))).setCell ⟨w.heap.size, 0, none⟩ (.int .i64 0)).setCell ⟨w.heap.size, 1, none⟩ (.int .u64 0)).setCell ⟨w.heap.size, 2, none⟩ (.int .u64 0)).setCell ⟨w.heap.size, 3, none⟩ (.int .u64 0)).setCell ⟨w.heap.size, 4, none⟩ (.int .u64 0)).setCell ⟨w.heap.size, 5, none⟩ (.int .u64 0)).setCell ⟨w.heap.size, 6, none⟩ (.int .i64 0)).setCell ⟨w.heap.size, 7, none⟩ (.bool false)).setCell ⟨w.heap.size, 8, none⟩ (.slice none 0 0)).setCell ⟨w.heap.size, 9, none⟩ (.slice none 0 0)).setCell ⟨w.heap.size, 10, none⟩ (.slice none 0 0))) := ⟨S4.out.res.pack ⟨0, 0, 0, 0, 0, 0, 0, false, [], [], []⟩ ⟨none, 0, none, 0, none, 0⟩, below_pack S4.out.below (Nat.le_refl _) ⟨0, 0, 0, 0, 0, 0, 0, false, [], [], []⟩ ⟨none, 0, none, 0, none, 0⟩⟩
    clear f4 r4 p0 t0 p1 t1 p2 t2 p3 t3 p4 t4 p5 t5 p6 t6 p7 t7 p8 t8 p9 t9 p10 t10 g0 g1
    generalize ((((((((((((w4.setCell ⟨w2.heap.size, 6, none⟩ (.int .i64 (x4 : Int))).setCell ⟨w.heap.size, 0, none⟩ (.int .i64 0)).setCell ⟨w.heap.size, 1, none⟩ (.int .u64 0)).setCell ⟨w.heap.size, 2, none⟩ (.int .u64 0)).setCell ⟨w.heap.size, 3, none⟩ (.int .u64 0)).setCell ⟨w.heap.size, 4, none⟩ (.int .u64 0)).setCell ⟨w.heap.size, 5, none⟩ (.int .u64 0)).setCell ⟨w.heap.size, 6, none⟩ (.int .i64 0)).setCell ⟨w.heap.size, 7, none⟩ (.bool false)).setCell ⟨w.heap.size, 8, none⟩ (.slice none 0 0)).setCell ⟨w.heap.size, 9, none⟩ (.slice none 0 0)).setCell ⟨w.heap.size, 10, none⟩ (.slice none 0 0)) = W9 at Hy2 ⊢
    obtain ⟨Hy, Hby⟩ := Hy2
    obtain ⟨y0, y1, y2, y3, y4, y5, y6, y7, y8, y9, y10⟩ := pack_facts Hy
    dsimp only at y0 y1 y2 y3 y4 y5 y6 y7 y8 y9 y10
    refine bodyPost_ret (v := .tuple #[packVal ⟨0, 0, 0, 0, 0, 0, 0, false, [], [], []⟩ ⟨none, 0, none, 0, none, 0⟩, .int .i64 6]) (by simp [results, Tryz.results12, go_sem, y0, y1, y2, y3, y4, y5, y6, y7, y8, y9, y10]) rfl ?_
    exact rd_bad HD.out (fun h => by have := h.1; injection this with h _; rw [h] at hn3; simp at hn3; omega) Hby
  have e3 : decide ((0 : Int) < (n3 : Int)) = false := decide_eq_false (by omega)
  by_cases hl2 : 0 < n2
  · have e4 : decide ((0 : Int) < (n2 : Int)) = true := decide_eq_true (by omega)
    go_wp2_with fail
    have Hy2 : Whole (((((((((((((w4.setCell ⟨w2.heap.size, 6, none⟩ (.int .i64 (x4 : Int))).setCell ⟨w.heap.size, 0, none⟩ (.int .i64 0)).setCell ⟨w.heap.size, 1, none⟩ (.int .u64 0)).setCell ⟨w.heap.size, 2, none⟩ (.int .u64 0)).setCell ⟨w.heap.size, 3, none⟩ (.int .u64 0)).setCell ⟨w.heap.size, 4, none⟩ (.int .u64 0)).setCell ⟨w.heap.size, 5, none⟩ (.int .u64 0)).setCell ⟨w.heap.size, 6, none⟩ (.int .i64 0)).setCell ⟨w.heap.size, 7, none⟩ (.bool false)).setCell ⟨w.heap.size, 8, none⟩ (.slice none 0 0)).setCell ⟨w.heap.size, 9, none⟩ (.slice none 0 0)).setCell ⟨w.heap.size, 10, none⟩ (.slice none 0 0))) w.heap.size 30 (packCells ⟨0, 0, 0, 0, 0, 0, 0, false, [], [], []⟩ ⟨none, 0, none, 0, none, 0⟩) ∧ Below w.heap.size w (((((((((((((w4.setCell ⟨w2.heap.size, 6, none⟩ (.int .i64 (x4 : Int))).setCell ⟨w.heap.size, 0, none⟩ (.int .i64 0)).setCell ⟨w.heap.size, 1, none⟩ (.int .u64 0)).setCell ⟨w.heap.size, 2, none⟩ (.int .u64 0)).setCell ⟨w.heap.size, 3, none⟩ (.int .u64 0)).setCell ⟨w.heap.size, 4, none⟩ (.int .u64 0)).setCell ⟨w.heap.size, 5, none⟩ (.int .u64 0)).setCell ⟨w.heap.size, 6, none⟩ (.int .i64 0)).setCell ⟨w.heap.size, 7, none⟩ (.bool false)).setCell ⟨w.heap.size, 8, none⟩ (.slice none 0 0)).setCell ⟨w.heap.size, 9, none⟩ (.slice none 0 0)).setCell ⟨w.heap.size, 10, none⟩ (.slice none 0 0))) := ⟨S4.out.res.pack ⟨0, 0, 0, 0, 0, 0, 0, false, [], [], []⟩ ⟨none, 0, none, 0, none, 0⟩, below_pack S4.out.below (Nat.le_refl _) ⟨0, 0, 0, 0, 0, 0, 0, false, [], [], []⟩ ⟨none, 0, none, 0, none, 0⟩⟩
    clear f4 r4 p0 t0 p1 t1 p2 t2 p3 t3 p4 t4 p5 t5 p6 t6 p7 t7 p8 t8 p9 t9 p10 t10 g0 g1
    generalize ((((((((((((w4.setCell ⟨w2.heap.size, 6, none⟩ (.int .i64 (x4 : Int))).setCell ⟨w.heap.size, 0, none⟩ (.int .i64 0)).setCell ⟨w.heap.size, 1, none⟩ (.int .u64 0)).setCell ⟨w.heap.size, 2, none⟩ (.int .u64 0)).setCell ⟨w.heap.size, 3, none⟩ (.int .u64 0)).setCell ⟨w.heap.size, 4, none⟩ (.int .u64 0)).setCell ⟨w.heap.size, 5, none⟩ (.int .u64 0)).setCell ⟨w.heap.size, 6, none⟩ (.int .i64 0)).setCell ⟨w.heap.size, 7, none⟩ (.bool false)).setCell ⟨w.heap.size, 8, none⟩ (.slice none 0 0)).setCell ⟨w.heap.size, 9, none⟩ (.slice none 0 0)).setCell ⟨w.heap.size, 10, none⟩ (.slice none 0 0)) = W9 at Hy2 ⊢
    obtain ⟨Hy, Hby⟩ := Hy2
    obtain ⟨y0, y1, y2, y3, y4, y5, y6, y7, y8, y9, y10⟩ := pack_facts Hy
    dsimp only at y0 y1 y2 y3 y4 y5 y6 y7 y8 y9 y10
    refine bodyPost_ret (v := .tuple #[packVal ⟨0, 0, 0, 0, 0, 0, 0, false, [], [], []⟩ ⟨none, 0, none, 0, none, 0⟩, .int .i64 6]) (by simp [results, Tryz.results12, go_sem, y0, y1, y2, y3, y4, y5, y6, y7, y8, y9, y10]) rfl ?_
    exact rd_bad HD.out (fun h => by rw [h.2.1] at hn2; simp at hn2; omega) Hby
  have e4 : decide ((0 : Int) < (n2 : Int)) = false := decide_eq_false (by omega)
  obtain rfl : lf = [] := List.eq_nil_of_length_eq_zero (by omega)
  have hr0 : r = [] := List.eq_nil_of_length_eq_zero (by omega)
  have Hr0 := hid_ hr0
  have hpl := S4.out.pk.lt
  have hrl := S4.out.res.lt
  clear hr0
  cases hrp : rightP ⟨8, x3, 0, 0, 0, 0, (x4 : Int), false, [], [], []⟩
  · have Hrp := hid_ hrp
    rw [hrp, show kindP false = 6 from rfl] at Hri
    have e6 : ((6 : Int) != 0) = true := by decide
    clear hrp
    go_wp2_with fail
    refine Calls.mono Hri.out ?_
    rintro e w9 ⟨rfl, hb9⟩
    have Q9 := hid_ (S4.out.res.below hb9 hrl)
    have B9 := hid_ (S4.out.below.trans (hb9.mono S4.out.below.size))
    clear f4 r4 p0 t0 p1 t1 p2 t2 p3 t3 p4 t4 p5 t5 p6 t6 p7 t7 p8 t8 p9 t9 p10 t10 g0 g1
    have r9 : ∀ o, w9.frozen? ⟨w.heap.size, o, none⟩ = false := fun o => Q9.out.free o
    obtain ⟨t0, t1, t2, t3, t4, t5, t6, t7, t8, t9, t10⟩ := pack_facts Q9.out
    dsimp only [zeroP] at t0 t1 t2 t3 t4 t5 t6 t7 t8 t9 t10
    go_wp2_with fail
    have Hy2 : Whole ((((((((((((w9.setCell ⟨w.heap.size, 0, none⟩ (.int .i64 0)).setCell ⟨w.heap.size, 1, none⟩ (.int .u64 0)).setCell ⟨w.heap.size, 2, none⟩ (.int .u64 0)).setCell ⟨w.heap.size, 3, none⟩ (.int .u64 0)).setCell ⟨w.heap.size, 4, none⟩ (.int .u64 0)).setCell ⟨w.heap.size, 5, none⟩ (.int .u64 0)).setCell ⟨w.heap.size, 6, none⟩ (.int .i64 0)).setCell ⟨w.heap.size, 7, none⟩ (.bool false)).setCell ⟨w.heap.size, 8, none⟩ (.slice none 0 0)).setCell ⟨w.heap.size, 9, none⟩ (.slice none 0 0)).setCell ⟨w.heap.size, 10, none⟩ (.slice none 0 0))) w.heap.size 30 (packCells ⟨0, 0, 0, 0, 0, 0, 0, false, [], [], []⟩ ⟨none, 0, none, 0, none, 0⟩) ∧ Below w.heap.size w ((((((((((((w9.setCell ⟨w.heap.size, 0, none⟩ (.int .i64 0)).setCell ⟨w.heap.size, 1, none⟩ (.int .u64 0)).setCell ⟨w.heap.size, 2, none⟩ (.int .u64 0)).setCell ⟨w.heap.size, 3, none⟩ (.int .u64 0)).setCell ⟨w.heap.size, 4, none⟩ (.int .u64 0)).setCell ⟨w.heap.size, 5, none⟩ (.int .u64 0)).setCell ⟨w.heap.size, 6, none⟩ (.int .i64 0)).setCell ⟨w.heap.size, 7, none⟩ (.bool false)).setCell ⟨w.heap.size, 8, none⟩ (.slice none 0 0)).setCell ⟨w.heap.size, 9, none⟩ (.slice none 0 0)).setCell ⟨w.heap.size, 10, none⟩ (.slice none 0 0))) := ⟨Q9.out.pack ⟨0, 0, 0, 0, 0, 0, 0, false, [], [], []⟩ ⟨none, 0, none, 0, none, 0⟩, below_pack B9.out (Nat.le_refl _) ⟨0, 0, 0, 0, 0, 0, 0, false, [], [], []⟩ ⟨none, 0, none, 0, none, 0⟩⟩
    generalize (((((((((((w9.setCell ⟨w.heap.size, 0, none⟩ (.int .i64 0)).setCell ⟨w.heap.size, 1, none⟩ (.int .u64 0)).setCell ⟨w.heap.size, 2, none⟩ (.int .u64 0)).setCell ⟨w.heap.size, 3, none⟩ (.int .u64 0)).setCell ⟨w.heap.size, 4, none⟩ (.int .u64 0)).setCell ⟨w.heap.size, 5, none⟩ (.int .u64 0)).setCell ⟨w.heap.size, 6, none⟩ (.int .i64 0)).setCell ⟨w.heap.size, 7, none⟩ (.bool false)).setCell ⟨w.heap.size, 8, none⟩ (.slice none 0 0)).setCell ⟨w.heap.size, 9, none⟩ (.slice none 0 0)).setCell ⟨w.heap.size, 10, none⟩ (.slice none 0 0)) = W9 at Hy2 ⊢
    obtain ⟨Hy, Hby⟩ := Hy2
    obtain ⟨y0, y1, y2, y3, y4, y5, y6, y7, y8, y9, y10⟩ := pack_facts Hy
    dsimp only at y0 y1 y2 y3 y4 y5 y6 y7 y8 y9 y10
    refine bodyPost_ret (v := .tuple #[packVal ⟨0, 0, 0, 0, 0, 0, 0, false, [], [], []⟩ ⟨none, 0, none, 0, none, 0⟩, .int .i64 6]) (by simp [results, Tryz.results12, go_sem, y0, y1, y2, y3, y4, y5, y6, y7, y8, y9, y10]) rfl ?_
    exact rd_bad HD.out (fun h => by have := h.2.2; rw [Hrp.out] at this; cases this) Hby
  · have Hrp := hid_ hrp
    rw [hrp, show kindP true = 0 from rfl] at Hri
    have e6 : ((0 : Int) != 0) = false := by decide
    clear hrp
    go_wp2_with fail
    refine Calls.mono Hri.out ?_
    rintro e w9 ⟨rfl, hb9⟩
    have Q9 := hid_ (S4.out.res.below hb9 hrl)
    have K9 := hid_ (S4.out.pk.below hb9 hpl)
    have B9 := hid_ (S4.out.below.trans (hb9.mono S4.out.below.size))
    clear f4 r4 p0 t0 p1 t1 p2 t2 p3 t3 p4 t4 p5 t5 p6 t6 p7 t7 p8 t8 p9 t9 p10 t10 g0 g1
    have r9 : ∀ o, w9.frozen? ⟨w.heap.size, o, none⟩ = false := fun o => Q9.out.free o
    obtain ⟨t0, t1, t2, t3, t4, t5, t6, t7, t8, t9, t10⟩ := pack_facts Q9.out
    obtain ⟨p0, p1, p2, p3, p4, p5, p6, p7, p8, p9, p10⟩ := pack_facts K9.out
    dsimp only [zeroP] at p0 p1 p2 p3 p4 p5 p6 p7 p8 p9 p10 t0 t1 t2 t3 t4 t5 t6 t7 t8 t9 t10
    go_wp2_with fail
    have Hy2 : Whole ((((((((((((w9.setCell ⟨w.heap.size, 0, none⟩ (.int .i64 8)).setCell ⟨w.heap.size, 1, none⟩ (.int .u64 (x3 : Nat))).setCell ⟨w.heap.size, 2, none⟩ (.int .u64 0)).setCell ⟨w.heap.size, 3, none⟩ (.int .u64 0)).setCell ⟨w.heap.size, 4, none⟩ (.int .u64 0)).setCell ⟨w.heap.size, 5, none⟩ (.int .u64 0)).setCell ⟨w.heap.size, 6, none⟩ (.int .i64 (x4 : Int))).setCell ⟨w.heap.size, 7, none⟩ (.bool false)).setCell ⟨w.heap.size, 8, none⟩ (.slice none 0 0)).setCell ⟨w.heap.size, 9, none⟩ (.slice none 0 0)).setCell ⟨w.heap.size, 10, none⟩ (.slice none 0 0))) w.heap.size 30 (packCells ⟨8, x3, 0, 0, 0, 0, (x4 : Int), false, [], [], []⟩ ⟨none, 0, none, 0, none, 0⟩) ∧ Below w.heap.size w ((((((((((((w9.setCell ⟨w.heap.size, 0, none⟩ (.int .i64 8)).setCell ⟨w.heap.size, 1, none⟩ (.int .u64 (x3 : Nat))).setCell ⟨w.heap.size, 2, none⟩ (.int .u64 0)).setCell ⟨w.heap.size, 3, none⟩ (.int .u64 0)).setCell ⟨w.heap.size, 4, none⟩ (.int .u64 0)).setCell ⟨w.heap.size, 5, none⟩ (.int .u64 0)).setCell ⟨w.heap.size, 6, none⟩ (.int .i64 (x4 : Int))).setCell ⟨w.heap.size, 7, none⟩ (.bool false)).setCell ⟨w.heap.size, 8, none⟩ (.slice none 0 0)).setCell ⟨w.heap.size, 9, none⟩ (.slice none 0 0)).setCell ⟨w.heap.size, 10, none⟩ (.slice none 0 0))) := ⟨Q9.out.pack ⟨8, x3, 0, 0, 0, 0, (x4 : Int), false, [], [], []⟩ ⟨none, 0, none, 0, none, 0⟩, below_pack B9.out (Nat.le_refl _) ⟨8, x3, 0, 0, 0, 0, (x4 : Int), false, [], [], []⟩ ⟨none, 0, none, 0, none, 0⟩⟩
    clear r9 p0 t0 p1 t1 p2 t2 p3 t3 p4 t4 p5 t5 p6 t6 p7 t7 p8 t8 p9 t9 p10 t10
    generalize (((((((((((w9.setCell ⟨w.heap.size, 0, none⟩ (.int .i64 8)).setCell ⟨w.heap.size, 1, none⟩ (.int .u64 (x3 : Nat))).setCell ⟨w.heap.size, 2, none⟩ (.int .u64 0)).setCell ⟨w.heap.size, 3, none⟩ (.int .u64 0)).setCell ⟨w.heap.size, 4, none⟩ (.int .u64 0)).setCell ⟨w.heap.size, 5, none⟩ (.int .u64 0)).setCell ⟨w.heap.size, 6, none⟩ (.int .i64 (x4 : Int))).setCell ⟨w.heap.size, 7, none⟩ (.bool false)).setCell ⟨w.heap.size, 8, none⟩ (.slice none 0 0)).setCell ⟨w.heap.size, 9, none⟩ (.slice none 0 0)).setCell ⟨w.heap.size, 10, none⟩ (.slice none 0 0)) = W9 at Hy2 ⊢
    obtain ⟨Hy, Hby⟩ := Hy2
    obtain ⟨y0, y1, y2, y3, y4, y5, y6, y7, y8, y9, y10⟩ := pack_facts Hy
    dsimp only at y0 y1 y2 y3 y4 y5 y6 y7 y8 y9 y10
    refine bodyPost_ret (v := .tuple #[packVal ⟨8, x3, 0, 0, 0, 0, (x4 : Int), false, [], [], []⟩ ⟨none, 0, none, 0, none, 0⟩, .int .i64 0]) (by simp [results, Tryz.results12, go_sem, y0, y1, y2, y3, y4, y5, y6, y7, y8, y9, y10]) rfl ?_
    exact rd_good HD.out Hr0.out Hrp.out (packIn_none _ _ rfl rfl rfl) Hby
end Go.Proofs.YtnpbokbfkdncmaaGreat

/-
  The reference's Decode of data of no kind.
-/
namespace Go.Proofs.YtnpbokbfkdncmaaGreat
set_option linter.unusedSimpArgs false
set_option linter.unusedVariables false
open Go.RowKit Ru Fm
set_option maxRecDepth 100000 in
set_option maxHeartbeats 16000000 in
theorem rdecN_any (A : Option Addr) (n c : Nat) (b d r : List UInt8) (w : World) (hs : Sl w A n c b) (hc : cutF b = (0, d, r)) (k : Nat) (hkk : hd d = k) (hk : ¬ (1 ≤ k ∧ k ≤ 10)) : Calls Tryz.prog 12 #[.slice A n c] w (RDPost w d r) := by
  have HD := hid_ (fun (s1 : List UInt8 × Bool) (h1 : takeS 1 (d, false) = s1) => show sreadF d = (⟨((k : Nat) : Int), (numB s1.1 8), 0, 0, 0, 0, 0, false, [], [], []⟩, (takeS 8 s1)) by unfold sreadF; dsimp only; rw [h1, hkk, parts_none (by omega)]; simp [stT, stB, stA, stV, spL, meL, idL, show k ≠ 3 by omega])
  have Hwf := hid_ (sreadF_wf d)
  have Hbn := hid_ (b_ne hc)
  have Hs := hid_ hs
  have Hcut := hid_ (Fr.refcut_any A n c b (w.alloc (.cells #[.int .i64 0, .int .u64 0, .int .u64 0, .int .u64 0, .int .u64 0, .int .u64 0, .int .i64 0, .bool false, .slice none 0 0, .slice none 0 0, .slice none 0 0] 30)) (hs.below ((Below.refl _ _).alloc (Nat.le_refl _) _)))
  unfold Fr.RefCut at Hcut
  rw [hc] at Hcut
  have Hby := hid_ (fun W g Q h => show Calls Tryz.prog 27 #[.pointer (some ⟨g, 0, none⟩)] W (RrPost W g Q (.int .u8 (k : Nat)) (takeS 1 (d, false))) from by have hh := rbyte_any g Q (d, false) W h; rw [show hd (d, false).1 = k from hkk] at hh; exact hh)
  have HD := hid_ (HD.out _ rfl)
  generalize takeS 1 (d, false) = s1 at *
  have W0 := hid_ (whole_new w 30 #[.int .i64 0, .int .u64 0, .int .u64 0, .int .u64 0, .int .u64 0, .int .u64 0, .int .i64 0, .bool false, .slice none 0 0, .slice none 0 0, .slice none 0 0])
  have Hb0 := hid_ (((Below.refl w.heap.size w).alloc (Nat.le_refl _) (.cells #[.int .i64 0, .int .u64 0, .int .u64 0, .int .u64 0, .int .u64 0, .int .u64 0, .int .i64 0, .bool false, .slice none 0 0, .slice none 0 0, .slice none 0 0] 30)))
  have hsz0 : (w.alloc (.cells #[.int .i64 0, .int .u64 0, .int .u64 0, .int .u64 0, .int .u64 0, .int .u64 0, .int .i64 0, .bool false, .slice none 0 0, .slice none 0 0, .slice none 0 0] 30)).heap.size = w.heap.size + 1 := by simp
  have k1 : (((k : Nat) : Int) == 1) = false := by rw [beq_eq_false_iff_ne]; omega
  have k2 : (((k : Nat) : Int) == 2) = false := by rw [beq_eq_false_iff_ne]; omega
  have k4 : (((k : Nat) : Int) == 4) = false := by rw [beq_eq_false_iff_ne]; omega
  have k5 : (((k : Nat) : Int) == 5) = false := by rw [beq_eq_false_iff_ne]; omega
  have k6 : (((k : Nat) : Int) == 6) = false := by rw [beq_eq_false_iff_ne]; omega
  have k7 : (((k : Nat) : Int) == 7) = false := by rw [beq_eq_false_iff_ne]; omega
  have k8 : (((k : Nat) : Int) == 8) = false := by rw [beq_eq_false_iff_ne]; omega
  have k9 : (((k : Nat) : Int) == 9) = false := by rw [beq_eq_false_iff_ne]; omega
  have k10 : (((k : Nat) : Int) == 10) = false := by rw [beq_eq_false_iff_ne]; omega
  have k3 : (((k : Nat) : Int) != 3) = true := by rw [bne_iff_ne]; omega
  have k3b : (((k : Nat) : Int) == 3) = false := by rw [beq_eq_false_iff_ne]; omega
  have k255 := hkk ▸ hd_lt d
  clear hs hc hk hkk
  go_enter Tryz.func12, Tryz.ntmps12
  go_wp2_with fail
  refine Calls.mono Hcut.out ?_
  rintro e w1 ⟨A1, n1, c1, A2, n2, c2, rfl, h1, h2, i1, -, hb1⟩
  try dsimp only at h1 h2
  have hn2 := h2.len
  have hlt1 : w.heap.size < w1.heap.size := by have := hb1.size; omega
  have R1 := hid_ (rr_start Hs.out Hbn.out h1 i1 hlt1)
  have W1 := hid_ ((W0.out.below hb1 W0.out.lt).alloc (.cells #[.slice A1 n1 c1, .bool false] 57))
  have Hb1 := hid_ ((Hb0.out.trans (hb1.mono Hb0.out.size)).alloc (Hb0.out.trans (hb1.mono Hb0.out.size)).size (.cells #[.slice A1 n1 c1, .bool false] 57))
  clear h1 h2 i1 hb1
  go_wp2_with fail
  refine Calls.mono (Hby.out _ _ _ R1.out) ?_
  rintro e w2 ⟨rfl, hr2, hg2⟩
  have hlt2 : w1.heap.size < w2.heap.size := hr2.lt
  have S2 := hid_ (show Rs w w1.heap.size w2.heap.size (w2.alloc (.cells (packCells ⟨((k : Nat) : Int), 0, 0, 0, 0, 0, 0, false, [], [], []⟩ ⟨none, 0, none, 0, none, 0⟩) 30)) s1 ⟨((k : Nat) : Int), 0, 0, 0, 0, 0, 0, false, [], [], []⟩ ⟨none, 0, none, 0, none, 0⟩ from
    ⟨hr2.bar _ _ rfl, (W1.out.grown hg2 (by intro e; injection e with e; omega)).alloc _, whole_new _ _ _, (below_grown_ Hb1.out hg2 (by omega) (by simp <;> omega)).alloc (by omega) _, hlt1, hlt2⟩)
  clear hr2 hg2
  have hq1 : w.heap.size ≠ w1.heap.size := by omega
  have hq2 : w.heap.size ≠ w2.heap.size := by omega
  have hq3 : w1.heap.size ≠ w2.heap.size := by omega
  go_wp2_with fail
  refine Calls.mono (rrnumber_any _ _ s1 _ S2.out.rd) ?_
  rintro e w3 ⟨rfl, hr, hg⟩
  have T3 := hid_ (S2.out.call hg hr)
  clear hr hg
  generalize numB s1.1 8 = x3 at *
  generalize takeS 8 s1 = s3 at *
  have S3 := hid_ (T3.out.set ⟨((k : Nat) : Int), x3, 0, 0, 0, 0, 0, false, [], [], []⟩ ⟨none, 0, none, 0, none, 0⟩ 1 (.int .u64 (x3 : Nat)) rfl)
  have f3 : ∀ o, w3.frozen? ⟨w2.heap.size, o, none⟩ = false := fun o => T3.out.pk.free o
  obtain ⟨p0, p1, p2, p3, p4, p5, p6, p7, p8, p9, p10⟩ := pack_facts T3.out.pk
  have r3 : ∀ o, w3.frozen? ⟨w.heap.size, o, none⟩ = false := fun o => T3.out.res.free o
  obtain ⟨t0, t1, t2, t3, t4, t5, t6, t7, t8, t9, t10⟩ := pack_facts T3.out.res
  dsimp only [zeroP] at p0 p1 p2 p3 p4 p5 p6 p7 p8 p9 p10 t0 t1 t2 t3 t4 t5 t6 t7 t8 t9 t10
  have Hri := hid_ (show Calls Tryz.prog 21 #[.agg #[.int .i64 ((k : Nat) : Int), .int .u64 (x3 : Nat), .int .u64 0, .int .u64 0, .int .u64 0, .int .u64 0, .int .i64 0, .bool false, .slice none 0 0, .slice none 0 0, .slice none 0 0]] (w3.setCell ⟨w2.heap.size, 1, none⟩ (.int .u64 (x3 : Nat))) (KindIs (w3.setCell ⟨w2.heap.size, 1, none⟩ (.int .u64 (x3 : Nat))) (kindP (rightP ⟨((k : Nat) : Int), x3, 0, 0, 0, 0, 0, false, [], [], []⟩))) from refpack_any ⟨((k : Nat) : Int), x3, 0, 0, 0, 0, 0, false, [], [], []⟩ ⟨none, 0, none, 0, none, 0⟩ _ (packIn_none _ _ rfl rfl rfl) (by have h := Hwf.out; rw [HD.out] at h; exact h))
  obtain ⟨lf, bad⟩ := s3
  obtain ⟨A3, n3, c3, hw3, hs3, -⟩ := T3.out.rd
  try dsimp only at hw3 hs3
  have g0 := hw3.cell 0 (.slice A3 n3 c3) rfl
  have g1 := hw3.cell 1 (.bool bad) rfl
  have hn3 := hs3.len
  clear hw3 hs3
  cases bad
  rotate_left
  · skip
    go_wp2_with fail
    have Hy2 : Whole (((((((((((((w3.setCell ⟨w2.heap.size, 1, none⟩ (.int .u64 (x3 : Nat))).setCell ⟨w.heap.size, 0, none⟩ (.int .i64 0)).setCell ⟨w.heap.size, 1, none⟩ (.int .u64 0)).setCell ⟨w.heap.size, 2, none⟩ (.int .u64 0)).setCell ⟨w.heap.size, 3, none⟩ (.int .u64 0)).setCell ⟨w.heap.size, 4, none⟩ (.int .u64 0)).setCell ⟨w.heap.size, 5, none⟩ (.int .u64 0)).setCell ⟨w.heap.size, 6, none⟩ (.int .i64 0)).setCell ⟨w.heap.size, 7, none⟩ (.bool false)).setCell ⟨w.heap.size, 8, none⟩ (.slice none 0 0)).setCell ⟨w.heap.size, 9, none⟩ (.slice none 0 0)).setCell ⟨w.heap.size, 10, none⟩ (.slice none 0 0))) w.heap.size 30 (packCells ⟨0, 0, 0, 0, 0, 0, 0, false, [], [], []⟩ ⟨none, 0, none, 0, none, 0⟩) ∧ Below w.heap.size w (((((((((((((w3.setCell ⟨w2.heap.size, 1, none⟩ (.int .u64 (x3 : Nat))).setCell ⟨w.heap.size, 0, none⟩ (.int .i64 0)).setCell ⟨w.heap.size, 1, none⟩ (.int .u64 0)).setCell ⟨w.heap.size, 2, none⟩ (.int .u64 0)).setCell ⟨w.heap.size, 3, none⟩ (.int .u64 0)).setCell ⟨w.heap.size, 4, none⟩ (.int .u64 0)).setCell ⟨w.heap.size, 5, none⟩ (.int .u64 0)).setCell ⟨w.heap.size, 6, none⟩ (.int .i64 0)).setCell ⟨w.heap.size, 7, none⟩ (.bool false)).setCell ⟨w.heap.size, 8, none⟩ (.slice none 0 0)).setCell ⟨w.heap.size, 9, none⟩ (.slice none 0 0)).setCell ⟨w.heap.size, 10, none⟩ (.slice none 0 0))) := ⟨S3.out.res.pack ⟨0, 0, 0, 0, 0, 0, 0, false, [], [], []⟩ ⟨none, 0, none, 0, none, 0⟩, below_pack S3.out.below (Nat.le_refl _) ⟨0, 0, 0, 0, 0, 0, 0, false, [], [], []⟩ ⟨none, 0, none, 0, none, 0⟩⟩
    clear f3 r3 p0 t0 p1 t1 p2 t2 p3 t3 p4 t4 p5 t5 p6 t6 p7 t7 p8 t8 p9 t9 p10 t10 g0 g1
    generalize ((((((((((((w3.setCell ⟨w2.heap.size, 1, none⟩ (.int .u64 (x3 : Nat))).setCell ⟨w.heap.size, 0, none⟩ (.int .i64 0)).setCell ⟨w.heap.size, 1, none⟩ (.int .u64 0)).setCell ⟨w.heap.size, 2, none⟩ (.int .u64 0)).setCell ⟨w.heap.size, 3, none⟩ (.int .u64 0)).setCell ⟨w.heap.size, 4, none⟩ (.int .u64 0)).setCell ⟨w.heap.size, 5, none⟩ (.int .u64 0)).setCell ⟨w.heap.size, 6, none⟩ (.int .i64 0)).setCell ⟨w.heap.size, 7, none⟩ (.bool false)).setCell ⟨w.heap.size, 8, none⟩ (.slice none 0 0)).setCell ⟨w.heap.size, 9, none⟩ (.slice none 0 0)).setCell ⟨w.heap.size, 10, none⟩ (.slice none 0 0)) = W9 at Hy2 ⊢
    obtain ⟨Hy, Hby⟩ := Hy2
    obtain ⟨y0, y1, y2, y3, y4, y5, y6, y7, y8, y9, y10⟩ := pack_facts Hy
    dsimp only at y0 y1 y2 y3 y4 y5 y6 y7 y8 y9 y10
    refine bodyPost_ret (v := .tuple #[packVal ⟨0, 0, 0, 0, 0, 0, 0, false, [], [], []⟩ ⟨none, 0, none, 0, none, 0⟩, .int .i64 6]) (by simp [results, Tryz.results12, go_sem, y0, y1, y2, y3, y4, y5, y6, y7, y8, y9, y10]) rfl ?_
    exact rd_bad HD.out (fun h => by have := h.1; injection this with _ h; cases h) Hby
  by_cases hl : 0 < n3
  · have e3 : decide ((0 : Int) < (n3 : Int)) = true := decide_eq_true (by omega)
    go_wp2_with fail
    have Hy2 : Whole (((((((((((((w3.setCell ⟨w2.heap.size, 1, none⟩ (.int .u64 (x3 : Nat))).setCell ⟨w.heap.size, 0, none⟩ (.int .i64 0)).setCell ⟨w.heap.size, 1, none⟩ (.int .u64 0)).setCell ⟨w.heap.size, 2, none⟩ (.int .u64 0)).setCell ⟨w.heap.size, 3, none⟩ (.int .u64 0)).setCell ⟨w.heap.size, 4, none⟩ (.int .u64 0)).setCell ⟨w.heap.size, 5, none⟩ (.int .u64 0)).setCell ⟨w.heap.size, 6, none⟩ (.int .i64 0)).setCell ⟨w.heap.size, 7, none⟩ (.bool false)).setCell ⟨w.heap.size, 8, none⟩ (.slice none 0 0)).setCell ⟨w.heap.size, 9, none⟩ (.slice none 0 0)).setCell ⟨w.heap.size, 10, none⟩ (.slice none 0 0))) w.heap.size 30 (packCells ⟨0, 0, 0, 0, 0, 0, 0, false, [], [], []⟩ ⟨none, 0, none, 0, none, 0⟩) ∧ Below w.heap.size w (((((((((((((w3.setCell ⟨w2.heap.size, 1, none⟩ (.int .u64 (x3 : Nat))).setCell ⟨w.heap.size, 0, none⟩ (.int .i64 0)).setCell ⟨w.heap.size, 1, none⟩ (.int .u64 0)).setCell ⟨w.heap.size, 2, none⟩ (.int .u64 0)).setCell ⟨w.heap.size, 3, none⟩ (.int .u64 0)).setCell ⟨w.heap.size, 4, none⟩ (.int .u64 0)).setCell ⟨w.heap.size, 5, none⟩ (.int .u64 0)).setCell ⟨w.heap.size, 6, none⟩ (.int .i64 0)).setCell ⟨w.heap.size, 7, none⟩ (.bool false)).setCell ⟨w.heap.size, 8, none⟩ (.slice none 0 0)).setCell ⟨w.heap.size, 9, none⟩ (.slice none 0 0)).setCell ⟨w.heap.size, 10, none⟩ (.slice none 0 0))) := ⟨S3.out.res.pack ⟨0, 0, 0, 0, 0, 0, 0, false, [], [], []⟩ ⟨none, 0, none, 0, none, 0⟩, below_pack S3.out.below (Nat.le_refl _) ⟨0, 0, 0, 0, 0, 0, 0, false, [], [], []⟩ ⟨none, 0, none, 0, none, 0⟩⟩
    clear f3 r3 p0 t0 p1 t1 p2 t2 p3 t3 p4 t4 p5 t5 p6 t6 p7 t7 p8 t8 p9 t9 p10 t10 g0 g1
    generalize ((((((((((((w3.setCell ⟨w2.heap.size, 1, none⟩ (.int .u64 (x3 : Nat))).setCell ⟨w.heap.size, 0, none⟩ (.int .i64 0)).setCell ⟨w.heap.size, 1, none⟩ (.int .u64 0)).setCell ⟨w.heap.size, 2, none⟩ (.int .u64 0)).setCell ⟨w.heap.size, 3, none⟩ (.int .u64 0)).setCell ⟨w.heap.size, 4, none⟩ (.int .u64 0)).setCell ⟨w.heap.size, 5, none⟩ (.int .u64 0)).setCell ⟨w.heap.size, 6, none⟩ (.int .i64 0)).setCell ⟨w.heap.size, 7, none⟩ (.bool false)).setCell ⟨w.heap.size, 8, none⟩ (.slice none 0 0)).setCell ⟨w.heap.size, 9, none⟩ (.slice none 0 0)).setCell ⟨w.heap.size, 10, none⟩ (.slice none 0 0)) = W9 at Hy2 ⊢
    obtain ⟨Hy, Hby⟩ := Hy2
    obtain ⟨y0, y1, y2, y3, y4, y5, y6, y7, y8, y9, y10⟩ := pack_facts Hy
    dsimp only at y0 y1 y2 y3 y4 y5 y6 y7 y8 y9 y10
    refine bodyPost_ret (v := .tuple #[packVal ⟨0, 0, 0, 0, 0, 0, 0, false, [], [], []⟩ ⟨none, 0, none, 0, none, 0⟩, .int .i64 6]) (by simp [results, Tryz.results12, go_sem, y0, y1, y2, y3, y4, y5, y6, y7, y8, y9, y10]) rfl ?_
    exact rd_bad HD.out (fun h => by have := h.1; injection this with h _; rw [h] at hn3; simp at hn3; omega) Hby
  have e3 : decide ((0 : Int) < (n3 : Int)) = false := decide_eq_false (by omega)
  by_cases hl2 : 0 < n2
  · have e4 : decide ((0 : Int) < (n2 : Int)) = true := decide_eq_true (by omega)
    go_wp2_with fail
    have Hy2 : Whole (((((((((((((w3.setCell ⟨w2.heap.size, 1, none⟩ (.int .u64 (x3 : Nat))).setCell ⟨w.heap.size, 0, none⟩ (.int .i64 0)).setCell ⟨w.heap.size, 1, none⟩ (.int .u64 0)).setCell ⟨w.heap.size, 2, none⟩ (.int .u64 0)).setCell ⟨w.heap.size, 3, none⟩ (.int .u64 0)).setCell ⟨w.heap.size, 4, none⟩ (.int .u64 0)).setCell ⟨w.heap.size, 5, none⟩ (.int .u64 0)).setCell ⟨w.heap.size, 6, none⟩ (.int .i64 0)).setCell ⟨w.heap.size, 7, none⟩ (.bool false)).setCell ⟨w.heap.size, 8, none⟩ (.slice none 0 0)).setCell ⟨w.heap.size, 9, none⟩ (.slice none 0 0)).setCell ⟨w.heap.size, 10, none⟩ (.slice none 0 0))) w.heap.size 30 (packCells ⟨0, 0, 0, 0, 0, 0, 0, false, [], [], []⟩ ⟨none, 0, none, 0, none, 0⟩) ∧ Below w.heap.size w (((((((((((((w3.setCell ⟨w2.heap.size, 1, none⟩ (.int .u64 (x3 : Nat))).setCell ⟨w.heap.size, 0, none⟩ (.int .i64 0)).setCell ⟨w.heap.size, 1, none⟩ (.int .u64 0)).setCell ⟨w.heap.size, 2, none⟩ (.int .u64 0)).setCell ⟨w.heap.size, 3, none⟩ (.int .u64 0)).setCell ⟨w.heap.size, 4, none⟩ (.int .u64 0)).setCell ⟨w.heap.size, 5, none⟩ (.int .u64 0)).setCell ⟨w.heap.size, 6, none⟩ (.int .i64 0)).setCell ⟨w.heap.size, 7, none⟩ (.bool false)).setCell ⟨w.heap.size, 8, none⟩ (.slice none 0 0)).setCell ⟨w.heap.size, 9, none⟩ (.slice none 0 0)).setCell ⟨w.heap.size, 10, none⟩ (.slice none 0 0))) := ⟨S3.out.res.pack ⟨0, 0, 0, 0, 0, 0, 0, false, [], [], []⟩ ⟨none, 0, none, 0, none, 0⟩, below_pack S3.out.below (Nat.le_refl _) ⟨0, 0, 0, 0, 0, 0, 0, false, [], [], []⟩ ⟨none, 0, none, 0, none, 0⟩⟩
    clear f3 r3 p0 t0 p1 t1 p2 t2 p3 t3 p4 t4 p5 t5 p6 t6 p7 t7 p8 t8 p9 t9 p10 t10 g0 g1
    generalize ((((((((((((w3.setCell ⟨w2.heap.size, 1, none⟩ (.int .u64 (x3 : Nat))).setCell ⟨w.heap.size, 0, none⟩ (.int .i64 0)).setCell ⟨w.heap.size, 1, none⟩ (.int .u64 0)).setCell ⟨w.heap.size, 2, none⟩ (.int .u64 0)).setCell ⟨w.heap.size, 3, none⟩ (.int .u64 0)).setCell ⟨w.heap.size, 4, none⟩ (.int .u64 0)).setCell ⟨w.heap.size, 5, none⟩ (.int .u64 0)).setCell ⟨w.heap.size, 6, none⟩ (.int .i64 0)).setCell ⟨w.heap.size, 7, none⟩ (.bool false)).setCell ⟨w.heap.size, 8, none⟩ (.slice none 0 0)).setCell ⟨w.heap.size, 9, none⟩ (.slice none 0 0)).setCell ⟨w.heap.size, 10, none⟩ (.slice none 0 0)) = W9 at Hy2 ⊢
    obtain ⟨Hy, Hby⟩ := Hy2
    obtain ⟨y0, y1, y2, y3, y4, y5, y6, y7, y8, y9, y10⟩ := pack_facts Hy
    dsimp only at y0 y1 y2 y3 y4 y5 y6 y7 y8 y9 y10
    refine bodyPost_ret (v := .tuple #[packVal ⟨0, 0, 0, 0, 0, 0, 0, false, [], [], []⟩ ⟨none, 0, none, 0, none, 0⟩, .int .i64 6]) (by simp [results, Tryz.results12, go_sem, y0, y1, y2, y3, y4, y5, y6, y7, y8, y9, y10]) rfl ?_
    exact rd_bad HD.out (fun h => by rw [h.2.1] at hn2; simp at hn2; omega) Hby
  have e4 : decide ((0 : Int) < (n2 : Int)) = false := decide_eq_false (by omega)
  obtain rfl : lf = [] := List.eq_nil_of_length_eq_zero (by omega)
  have hr0 : r = [] := List.eq_nil_of_length_eq_zero (by omega)
  have Hr0 := hid_ hr0
  have hpl := S3.out.pk.lt
  have hrl := S3.out.res.lt
  clear hr0
  cases hrp : rightP ⟨((k : Nat) : Int), x3, 0, 0, 0, 0, 0, false, [], [], []⟩
  · have Hrp := hid_ hrp
    rw [hrp, show kindP false = 6 from rfl] at Hri
    have e6 : ((6 : Int) != 0) = true := by decide
    clear hrp
    go_wp2_with fail
    refine Calls.mono Hri.out ?_
    rintro e w9 ⟨rfl, hb9⟩
    have Q9 := hid_ (S3.out.res.below hb9 hrl)
    have B9 := hid_ (S3.out.below.trans (hb9.mono S3.out.below.size))
    clear f3 r3 p0 t0 p1 t1 p2 t2 p3 t3 p4 t4 p5 t5 p6 t6 p7 t7 p8 t8 p9 t9 p10 t10 g0 g1
    have r9 : ∀ o, w9.frozen? ⟨w.heap.size, o, none⟩ = false := fun o => Q9.out.free o
    obtain ⟨t0, t1, t2, t3, t4, t5, t6, t7, t8, t9, t10⟩ := pack_facts Q9.out
    dsimp only [zeroP] at t0 t1 t2 t3 t4 t5 t6 t7 t8 t9 t10
    go_wp2_with fail
    have Hy2 : Whole ((((((((((((w9.setCell ⟨w.heap.size, 0, none⟩ (.int .i64 0)).setCell ⟨w.heap.size, 1, none⟩ (.int .u64 0)).setCell ⟨w.heap.size, 2, none⟩ (.int .u64 0)).setCell ⟨w.heap.size, 3, none⟩ (.int .u64 0)).setCell ⟨w.heap.size, 4, none⟩ (.int .u64 0)).setCell ⟨w.heap.size, 5, none⟩ (.int .u64 0)).setCell ⟨w.heap.size, 6, none⟩ (.int .i64 0)).setCell ⟨w.heap.size, 7, none⟩ (.bool false)).setCell ⟨w.heap.size, 8, none⟩ (.slice none 0 0)).setCell ⟨w.heap.size, 9, none⟩ (.slice none 0 0)).setCell ⟨w.heap.size, 10, none⟩ (.slice none 0 0))) w.heap.size 30 (packCells ⟨0, 0, 0, 0, 0, 0, 0, false, [], [], []⟩ ⟨none, 0, none, 0, none, 0⟩) ∧ Below w.heap.size w ((((((((((((w9.setCell ⟨w.heap.size, 0, none⟩ (.int .i64 0)).setCell ⟨w.heap.size, 1, none⟩ (.int .u64 0)).setCell ⟨w.heap.size, 2, none⟩ (.int .u64 0)).setCell ⟨w.heap.size, 3, none⟩ (.int .u64 0)).setCell ⟨w.heap.size, 4, none⟩ (.int .u64 0)).setCell ⟨w.heap.size, 5, none⟩ (.int .u64 0)).setCell ⟨w.heap.size, 6, none⟩ (.int .i64 0)).setCell ⟨w.heap.size, 7, none⟩ (.bool false)).setCell ⟨w.heap.size, 8, none⟩ (.slice none 0 0)).setCell ⟨w.heap.size, 9, none⟩ (.slice none 0 0)).setCell ⟨w.heap.size, 10, none⟩ (.slice none 0 0))) := ⟨Q9.out.pack ⟨0, 0, 0, 0, 0, 0, 0, false, [], [], []⟩ ⟨none, 0, none, 0, none, 0⟩, below_pack B9.out (Nat.le_refl _) ⟨0, 0, 0, 0, 0, 0, 0, false, [], [], []⟩ ⟨none, 0, none, 0, none, 0⟩⟩
    generalize (((((((((((w9.setCell ⟨w.heap.size, 0, none⟩ (.int .i64 0)).setCell ⟨w.heap.size, 1, none⟩ (.int .u64 0)).setCell ⟨w.heap.size, 2, none⟩ (.int .u64 0)).setCell ⟨w.heap.size, 3, none⟩ (.int .u64 0)).setCell ⟨w.heap.size, 4, none⟩ (.int .u64 0)).setCell ⟨w.heap.size, 5, none⟩ (.int .u64 0)).setCell ⟨w.heap.size, 6, none⟩ (.int .i64 0)).setCell ⟨w.heap.size, 7, none⟩ (.bool false)).setCell ⟨w.heap.size, 8, none⟩ (.slice none 0 0)).setCell ⟨w.heap.size, 9, none⟩ (.slice none 0 0)).setCell ⟨w.heap.size, 10, none⟩ (.slice none 0 0)) = W9 at Hy2 ⊢
    obtain ⟨Hy, Hby⟩ := Hy2
    obtain ⟨y0, y1, y2, y3, y4, y5, y6, y7, y8, y9, y10⟩ := pack_facts Hy
    dsimp only at y0 y1 y2 y3 y4 y5 y6 y7 y8 y9 y10
    refine bodyPost_ret (v := .tuple #[packVal ⟨0, 0, 0, 0, 0, 0, 0, false, [], [], []⟩ ⟨none, 0, none, 0, none, 0⟩, .int .i64 6]) (by simp [results, Tryz.results12, go_sem, y0, y1, y2, y3, y4, y5, y6, y7, y8, y9, y10]) rfl ?_
    exact rd_bad HD.out (fun h => by have := h.2.2; rw [Hrp.out] at this; cases this) Hby
  · have Hrp := hid_ hrp
    rw [hrp, show kindP true = 0 from rfl] at Hri
    have e6 : ((0 : Int) != 0) = false := by decide
    clear hrp
    go_wp2_with fail
    refine Calls.mono Hri.out ?_
    rintro e w9 ⟨rfl, hb9⟩
    have Q9 := hid_ (S3.out.res.below hb9 hrl)
    have K9 := hid_ (S3.out.pk.below hb9 hpl)
    have B9 := hid_ (S3.out.below.trans (hb9.mono S3.out.below.size))
    clear f3 r3 p0 t0 p1 t1 p2 t2 p3 t3 p4 t4 p5 t5 p6 t6 p7 t7 p8 t8 p9 t9 p10 t10 g0 g1
    have r9 : ∀ o, w9.frozen? ⟨w.heap.size, o, none⟩ = false := fun o => Q9.out.free o
    obtain ⟨t0, t1, t2, t3, t4, t5, t6, t7, t8, t9, t10⟩ := pack_facts Q9.out
    obtain ⟨p0, p1, p2, p3, p4, p5, p6, p7, p8, p9, p10⟩ := pack_facts K9.out
    dsimp only [zeroP] at p0 p1 p2 p3 p4 p5 p6 p7 p8 p9 p10 t0 t1 t2 t3 t4 t5 t6 t7 t8 t9 t10
    go_wp2_with fail
    have Hy2 : Whole ((((((((((((w9.setCell ⟨w.heap.size, 0, none⟩ (.int .i64 ((k : Nat) : Int))).setCell ⟨w.heap.size, 1, none⟩ (.int .u64 (x3 : Nat))).setCell ⟨w.heap.size, 2, none⟩ (.int .u64 0)).setCell ⟨w.heap.size, 3, none⟩ (.int .u64 0)).setCell ⟨w.heap.size, 4, none⟩ (.int .u64 0)).setCell ⟨w.heap.size, 5, none⟩ (.int .u64 0)).setCell ⟨w.heap.size, 6, none⟩ (.int .i64 0)).setCell ⟨w.heap.size, 7, none⟩ (.bool false)).setCell ⟨w.heap.size, 8, none⟩ (.slice none 0 0)).setCell ⟨w.heap.size, 9, none⟩ (.slice none 0 0)).setCell ⟨w.heap.size, 10, none⟩ (.slice none 0 0))) w.heap.size 30 (packCells ⟨((k : Nat) : Int), x3, 0, 0, 0, 0, 0, false, [], [], []⟩ ⟨none, 0, none, 0, none, 0⟩) ∧ Below w.heap.size w ((((((((((((w9.setCell ⟨w.heap.size, 0, none⟩ (.int .i64 ((k : Nat) : Int))).setCell ⟨w.heap.size, 1, none⟩ (.int .u64 (x3 : Nat))).setCell ⟨w.heap.size, 2, none⟩ (.int .u64 0)).setCell ⟨w.heap.size, 3, none⟩ (.int .u64 0)).setCell ⟨w.heap.size, 4, none⟩ (.int .u64 0)).setCell ⟨w.heap.size, 5, none⟩ (.int .u64 0)).setCell ⟨w.heap.size, 6, none⟩ (.int .i64 0)).setCell ⟨w.heap.size, 7, none⟩ (.bool false)).setCell ⟨w.heap.size, 8, none⟩ (.slice none 0 0)).setCell ⟨w.heap.size, 9, none⟩ (.slice none 0 0)).setCell ⟨w.heap.size, 10, none⟩ (.slice none 0 0))) := ⟨Q9.out.pack ⟨((k : Nat) : Int), x3, 0, 0, 0, 0, 0, false, [], [], []⟩ ⟨none, 0, none, 0, none, 0⟩, below_pack B9.out (Nat.le_refl _) ⟨((k : Nat) : Int), x3, 0, 0, 0, 0, 0, false, [], [], []⟩ ⟨none, 0, none, 0, none, 0⟩⟩
    clear r9 p0 t0 p1 t1 p2 t2 p3 t3 p4 t4 p5 t5 p6 t6 p7 t7 p8 t8 p9 t9 p10 t10
    generalize (((((((((((w9.setCell ⟨w.heap.size, 0, none⟩ (.int .i64 ((k : Nat) : Int))).setCell ⟨w.heap.size, 1, none⟩ (.int .u64 (x3 : Nat))).setCell ⟨w.heap.size, 2, none⟩ (.int .u64 0)).setCell ⟨w.heap.size, 3, none⟩ (.int .u64 0)).setCell ⟨w.heap.size, 4, none⟩ (.int .u64 0)).setCell ⟨w.heap.size, 5, none⟩ (.int .u64 0)).setCell ⟨w.heap.size, 6, none⟩ (.int .i64 0)).setCell ⟨w.heap.size, 7, none⟩ (.bool false)).setCell ⟨w.heap.size, 8, none⟩ (.slice none 0 0)).setCell ⟨w.heap.size, 9, none⟩ (.slice none 0 0)).setCell ⟨w.heap.size, 10, none⟩ (.slice none 0 0)) = W9 at Hy2 ⊢
    obtain ⟨Hy, Hby⟩ := Hy2
    obtain ⟨y0, y1, y2, y3, y4, y5, y6, y7, y8, y9, y10⟩ := pack_facts Hy
    dsimp only at y0 y1 y2 y3 y4 y5 y6 y7 y8 y9 y10
    refine bodyPost_ret (v := .tuple #[packVal ⟨((k : Nat) : Int), x3, 0, 0, 0, 0, 0, false, [], [], []⟩ ⟨none, 0, none, 0, none, 0⟩, .int .i64 0]) (by simp [results, Tryz.results12, go_sem, y0, y1, y2, y3, y4, y5, y6, y7, y8, y9, y10]) rfl ?_
    exact rd_good HD.out Hr0.out Hrp.out (packIn_none _ _ rfl rfl rfl) Hby
end Go.Proofs.YtnpbokbfkdncmaaGreat
