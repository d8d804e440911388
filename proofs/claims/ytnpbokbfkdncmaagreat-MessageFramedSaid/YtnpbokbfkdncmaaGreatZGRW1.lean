/-
  What the program's read answers of data of kind 4.
-/
import Derived.Test.YtnpbokbfkdncmaaGreatZGM
namespace Go.Proofs.YtnpbokbfkdncmaaGreat
set_option linter.unusedSimpArgs false
set_option linter.unusedVariables false
open Go.RowKit Ru

set_option maxRecDepth 100000 in
set_option maxHeartbeats 8000000 in
theorem read4_any (A : Option Addr) (n c : Nat) (d : List UInt8) (w : World) (hs : Sl w A n c d) (hk : hd d = 4) : Calls Tryz.prog 24 #[.slice A n c] w (ReadPost w (readF d)) := by
  have HD := hid_ (fun (d0 : List UInt8) (h0 : d.drop 1 = d0) => show readF d = ⟨4, (numB d0 8), (numB (d0.drop 8) 8), (numB ((d0.drop 8).drop 8) 8), 0, 0, 0, false, [], [], []⟩ by unfold readF; rw [hk, h0, show partsF ((4 : Nat) : Int) = ⟨true, true, false, false, false, false, false⟩ from parts_4]; first | rfl | simp [List.drop_drop, okeq])
  have Hoc := hid_ (octet_any (w.heap.size + 1) (fun q => q = w.heap.size) d)
  rw [hk] at Hoc
  have Hpo := hid_ (fun W => partsof_any 4 W)
  rw [parts_4] at Hpo
  unfold PartsPost at Hpo
  have R0 := hid_ (rd_start hs (.cells (packCells zeroP ⟨none, 0, none, 0, none, 0⟩) 30) w.heap.size rfl)
  have W0 := hid_ ((whole_new w 30 (packCells zeroP ⟨none, 0, none, 0, none, 0⟩)).alloc (.cells #[.slice A n c] 91))
  have Hb0 := hid_ ((((Below.refl w.heap.size w).alloc (Nat.le_refl _) (.cells (packCells zeroP ⟨none, 0, none, 0, none, 0⟩) 30))).alloc (by simp) (.cells #[.slice A n c] 91))
  clear hs hk
  generalize hd0 : d.drop 1 = d0 at *
  have HD := hid_ (HD.out d0 rfl)
  clear hd0
  go_enter Tryz.func24, Tryz.ntmps24
  go_wp2_with fail
  refine Calls.mono (Hoc.out _ R0.out) ?_
  rintro e w1 ⟨rfl, hr1, hg1⟩
  have W1 := hid_ (W0.out.grown hg1 (by intro e; injection e with e; omega))
  have Hb1 := hid_ (below_grown_ Hb0.out hg1 (by omega) (by simp <;> omega))
  have hz1 : w.heap.size + 1 < w1.heap.size := hr1.lt
  have R1 := hid_ (hr1.bar (.cells (packCells ⟨4, 0, 0, 0, 0, 0, 0, false, [], [], []⟩ ⟨none, 0, none, 0, none, 0⟩) 30) w1.heap.size rfl)
  have W2 := hid_ (W1.out.alloc (.cells (packCells ⟨4, 0, 0, 0, 0, 0, 0, false, [], [], []⟩ ⟨none, 0, none, 0, none, 0⟩) 30))
  have K2 := hid_ (whole_new w1 30 (packCells ⟨4, 0, 0, 0, 0, 0, 0, false, [], [], []⟩ ⟨none, 0, none, 0, none, 0⟩))
  have Hb2 := hid_ (Hb1.out.alloc Hb1.out.size (.cells (packCells ⟨4, 0, 0, 0, 0, 0, 0, false, [], [], []⟩ ⟨none, 0, none, 0, none, 0⟩) 30))
  clear hr1 hg1
  go_wp2_with fail
  refine Calls.mono (Hpo.out _) ?_
  rintro e w2 ⟨rfl, hb2⟩
  have hz2 : w1.heap.size < w2.heap.size := by have := hb2.size; simp at this; omega
  have S0 := hid_ (show St w (w.heap.size + 1) w1.heap.size w2.heap.size ⟨true, true, false, false, false, false, false⟩ (w2.alloc (.cells (partsCells ⟨true, true, false, false, false, false, false⟩) 75)) d0 ⟨4, 0, 0, 0, 0, 0, 0, false, [], [], []⟩ ⟨none, 0, none, 0, none, 0⟩ from
    ⟨(R1.out.below hb2).bar _ _ rfl, (W2.out.below hb2 W2.out.lt).alloc _, (K2.out.below hb2 K2.out.lt).alloc _, whole_new _ _ _, (Hb2.out.trans (hb2.mono Hb2.out.size)).alloc (by have := Hb2.out.size; have := hb2.size; omega) _, by omega, hz1, hz2⟩)
  clear hb2
  have hq1 : w.heap.size ≠ w1.heap.size := by omega
  have hq2 : w.heap.size ≠ w2.heap.size := by omega
  have hq3 : w1.heap.size ≠ w2.heap.size := by omega
  skip
  go_wp2_with fail
  refine Calls.mono (rnumber_any (w.heap.size + 1) _ d0 _ S0.out.rd) ?_
  rintro e w3 ⟨rfl, hr, hg⟩
  have T3 := hid_ (S0.out.call hg hr)
  clear hr hg
  generalize hx3 : numB d0 8 = x3 at *
  have HX3 := hid_ hx3
  clear hx3
  have S3 := hid_ (T3.out.set ⟨4, x3, 0, 0, 0, 0, 0, false, [], [], []⟩ ⟨none, 0, none, 0, none, 0⟩ 1 (.int .u64 (x3 : Nat)) rfl)
  obtain ⟨z0, z1, z2, z3, z4, z5, z6⟩ := part_facts T3.out.pt
  have f3 : ∀ o, w3.frozen? ⟨w1.heap.size, o, none⟩ = false := fun o => T3.out.pk.free o
  obtain ⟨p0, p1, p2, p3, p4, p5, p6, p7, p8, p9, p10⟩ := pack_facts T3.out.pk
  have r3 : ∀ o, w3.frozen? ⟨w.heap.size, o, none⟩ = false := fun o => T3.out.res.free o
  obtain ⟨t0, t1, t2, t3, t4, t5, t6, t7, t8, t9, t10⟩ := pack_facts T3.out.res
  dsimp only [zeroP] at p0 p1 p2 p3 p4 p5 p6 p7 p8 p9 p10 t0 t1 t2 t3 t4 t5 t6 t7 t8 t9 t10
  skip
  go_wp2_with fail
  refine Calls.mono (rballot_any (w.heap.size + 1) _ (d0.drop 8) _ S3.out.rd) ?_
  rintro e w4 ⟨rfl, hr, hg⟩
  have T4 := hid_ (S3.out.call hg hr)
  clear hr hg
  generalize hx4 : numB (d0.drop 8) 8 = x4 at *
  generalize hy4 : numB ((d0.drop 8).drop 8) 8 = u4 at *
  have HX4 := hid_ hx4
  have HY4 := hid_ hy4
  clear hx4 hy4
  have S4 := hid_ (T4.out.set2 ⟨4, x3, x4, u4, 0, 0, 0, false, [], [], []⟩ ⟨none, 0, none, 0, none, 0⟩ 2 3 (.int .u64 (x4 : Nat)) (.int .u64 (u4 : Nat)) rfl)
  obtain ⟨z0, z1, z2, z3, z4, z5, z6⟩ := part_facts T4.out.pt
  have f4 : ∀ o, w4.frozen? ⟨w1.heap.size, o, none⟩ = false := fun o => T4.out.pk.free o
  obtain ⟨p0, p1, p2, p3, p4, p5, p6, p7, p8, p9, p10⟩ := pack_facts T4.out.pk
  have r4 : ∀ o, w4.frozen? ⟨w.heap.size, o, none⟩ = false := fun o => T4.out.res.free o
  obtain ⟨t0, t1, t2, t3, t4, t5, t6, t7, t8, t9, t10⟩ := pack_facts T4.out.res
  dsimp only [zeroP] at p0 p1 p2 p3 p4 p5 p6 p7 p8 p9 p10 t0 t1 t2 t3 t4 t5 t6 t7 t8 t9 t10
  go_wp2_with fail
  have Hy2 : Whole ((((((((((((((w4.setCell ⟨w1.heap.size, 2, none⟩ (.int .u64 (x4 : Nat))).setCell ⟨w1.heap.size, 3, none⟩ (.int .u64 (u4 : Nat))).setCell ⟨w.heap.size, 0, none⟩ (.int .i64 4)).setCell ⟨w.heap.size, 1, none⟩ (.int .u64 (x3 : Nat))).setCell ⟨w.heap.size, 2, none⟩ (.int .u64 (x4 : Nat))).setCell ⟨w.heap.size, 3, none⟩ (.int .u64 (u4 : Nat))).setCell ⟨w.heap.size, 4, none⟩ (.int .u64 0)).setCell ⟨w.heap.size, 5, none⟩ (.int .u64 0)).setCell ⟨w.heap.size, 6, none⟩ (.int .i64 0)).setCell ⟨w.heap.size, 7, none⟩ (.bool false)).setCell ⟨w.heap.size, 8, none⟩ (.slice none 0 0)).setCell ⟨w.heap.size, 9, none⟩ (.slice none 0 0)).setCell ⟨w.heap.size, 10, none⟩ (.slice none 0 0))) w.heap.size 30 (packCells ⟨4, x3, x4, u4, 0, 0, 0, false, [], [], []⟩ ⟨none, 0, none, 0, none, 0⟩) ∧ Below w.heap.size w ((((((((((((((w4.setCell ⟨w1.heap.size, 2, none⟩ (.int .u64 (x4 : Nat))).setCell ⟨w1.heap.size, 3, none⟩ (.int .u64 (u4 : Nat))).setCell ⟨w.heap.size, 0, none⟩ (.int .i64 4)).setCell ⟨w.heap.size, 1, none⟩ (.int .u64 (x3 : Nat))).setCell ⟨w.heap.size, 2, none⟩ (.int .u64 (x4 : Nat))).setCell ⟨w.heap.size, 3, none⟩ (.int .u64 (u4 : Nat))).setCell ⟨w.heap.size, 4, none⟩ (.int .u64 0)).setCell ⟨w.heap.size, 5, none⟩ (.int .u64 0)).setCell ⟨w.heap.size, 6, none⟩ (.int .i64 0)).setCell ⟨w.heap.size, 7, none⟩ (.bool false)).setCell ⟨w.heap.size, 8, none⟩ (.slice none 0 0)).setCell ⟨w.heap.size, 9, none⟩ (.slice none 0 0)).setCell ⟨w.heap.size, 10, none⟩ (.slice none 0 0))) := ⟨S4.out.res.pack ⟨4, x3, x4, u4, 0, 0, 0, false, [], [], []⟩ ⟨none, 0, none, 0, none, 0⟩, below_pack S4.out.below (Nat.le_refl _) ⟨4, x3, x4, u4, 0, 0, 0, false, [], [], []⟩ ⟨none, 0, none, 0, none, 0⟩⟩
  clear z0 z1 z2 z3 z4 z5 z6 f4 p0 p1 p2 p3 p4 p5 p6 p7 p8 p9 p10 r4 t0 t1 t2 t3 t4 t5 t6 t7 t8 t9 t10
  generalize (((((((((((((w4.setCell ⟨w1.heap.size, 2, none⟩ (.int .u64 (x4 : Nat))).setCell ⟨w1.heap.size, 3, none⟩ (.int .u64 (u4 : Nat))).setCell ⟨w.heap.size, 0, none⟩ (.int .i64 4)).setCell ⟨w.heap.size, 1, none⟩ (.int .u64 (x3 : Nat))).setCell ⟨w.heap.size, 2, none⟩ (.int .u64 (x4 : Nat))).setCell ⟨w.heap.size, 3, none⟩ (.int .u64 (u4 : Nat))).setCell ⟨w.heap.size, 4, none⟩ (.int .u64 0)).setCell ⟨w.heap.size, 5, none⟩ (.int .u64 0)).setCell ⟨w.heap.size, 6, none⟩ (.int .i64 0)).setCell ⟨w.heap.size, 7, none⟩ (.bool false)).setCell ⟨w.heap.size, 8, none⟩ (.slice none 0 0)).setCell ⟨w.heap.size, 9, none⟩ (.slice none 0 0)).setCell ⟨w.heap.size, 10, none⟩ (.slice none 0 0)) = W9 at Hy2 ⊢
  obtain ⟨Hy, Hby⟩ := Hy2
  obtain ⟨y0, y1, y2, y3, y4, y5, y6, y7, y8, y9, y10⟩ := pack_facts Hy
  dsimp only at y0 y1 y2 y3 y4 y5 y6 y7 y8 y9 y10
  refine bodyPost_ret (v := packVal ⟨4, x3, x4, u4, 0, 0, 0, false, [], [], []⟩ ⟨none, 0, none, 0, none, 0⟩) (by simp [results, Tryz.results24, go_sem, y0, y1, y2, y3, y4, y5, y6, y7, y8, y9, y10]) rfl ?_
  exact readPost_mk HD.out.symm (packIn_none _ _ rfl rfl rfl) (fresh_none _ _) Hby
end Go.Proofs.YtnpbokbfkdncmaaGreat

/-
  What the program's read answers of data of kind 5.
-/
namespace Go.Proofs.YtnpbokbfkdncmaaGreat
set_option linter.unusedSimpArgs false
set_option linter.unusedVariables false
open Go.RowKit Ru

set_option maxRecDepth 100000 in
set_option maxHeartbeats 8000000 in
theorem read5_any (A : Option Addr) (n c : Nat) (d : List UInt8) (w : World) (hs : Sl w A n c d) (hk : hd d = 5) : Calls Tryz.prog 24 #[.slice A n c] w (ReadPost w (readF d)) := by
  have HD := hid_ (fun (d0 : List UInt8) (h0 : d.drop 1 = d0) => show readF d = ⟨5, (numB d0 8), (numB (d0.drop 8) 8), (numB ((d0.drop 8).drop 8) 8), (numB (((d0.drop 8).drop 16).drop 1) 8), (numB ((((d0.drop 8).drop 16).drop 1).drop 8) 8), ((hd ((((d0.drop 8).drop 16).drop 1).drop 16) : Nat) : Int), (((hd ((d0.drop 8).drop 16) : Nat) : Int) == 1), [], [], []⟩ by unfold readF; rw [hk, h0, show partsF ((5 : Nat) : Int) = ⟨true, true, true, true, false, false, false⟩ from parts_5]; first | rfl | simp [List.drop_drop, okeq])
  have Hoc := hid_ (octet_any (w.heap.size + 1) (fun q => q = w.heap.size) d)
  rw [hk] at Hoc
  have Hpo := hid_ (fun W => partsof_any 5 W)
  rw [parts_5] at Hpo
  unfold PartsPost at Hpo
  have R0 := hid_ (rd_start hs (.cells (packCells zeroP ⟨none, 0, none, 0, none, 0⟩) 30) w.heap.size rfl)
  have W0 := hid_ ((whole_new w 30 (packCells zeroP ⟨none, 0, none, 0, none, 0⟩)).alloc (.cells #[.slice A n c] 91))
  have Hb0 := hid_ ((((Below.refl w.heap.size w).alloc (Nat.le_refl _) (.cells (packCells zeroP ⟨none, 0, none, 0, none, 0⟩) 30))).alloc (by simp) (.cells #[.slice A n c] 91))
  clear hs hk
  generalize hd0 : d.drop 1 = d0 at *
  have HD := hid_ (HD.out d0 rfl)
  clear hd0
  go_enter Tryz.func24, Tryz.ntmps24
  go_wp2_with fail
  refine Calls.mono (Hoc.out _ R0.out) ?_
  rintro e w1 ⟨rfl, hr1, hg1⟩
  have W1 := hid_ (W0.out.grown hg1 (by intro e; injection e with e; omega))
  have Hb1 := hid_ (below_grown_ Hb0.out hg1 (by omega) (by simp <;> omega))
  have hz1 : w.heap.size + 1 < w1.heap.size := hr1.lt
  have R1 := hid_ (hr1.bar (.cells (packCells ⟨5, 0, 0, 0, 0, 0, 0, false, [], [], []⟩ ⟨none, 0, none, 0, none, 0⟩) 30) w1.heap.size rfl)
  have W2 := hid_ (W1.out.alloc (.cells (packCells ⟨5, 0, 0, 0, 0, 0, 0, false, [], [], []⟩ ⟨none, 0, none, 0, none, 0⟩) 30))
  have K2 := hid_ (whole_new w1 30 (packCells ⟨5, 0, 0, 0, 0, 0, 0, false, [], [], []⟩ ⟨none, 0, none, 0, none, 0⟩))
  have Hb2 := hid_ (Hb1.out.alloc Hb1.out.size (.cells (packCells ⟨5, 0, 0, 0, 0, 0, 0, false, [], [], []⟩ ⟨none, 0, none, 0, none, 0⟩) 30))
  clear hr1 hg1
  go_wp2_with fail
  refine Calls.mono (Hpo.out _) ?_
  rintro e w2 ⟨rfl, hb2⟩
  have hz2 : w1.heap.size < w2.heap.size := by have := hb2.size; simp at this; omega
  have S0 := hid_ (show St w (w.heap.size + 1) w1.heap.size w2.heap.size ⟨true, true, true, true, false, false, false⟩ (w2.alloc (.cells (partsCells ⟨true, true, true, true, false, false, false⟩) 75)) d0 ⟨5, 0, 0, 0, 0, 0, 0, false, [], [], []⟩ ⟨none, 0, none, 0, none, 0⟩ from
    ⟨(R1.out.below hb2).bar _ _ rfl, (W2.out.below hb2 W2.out.lt).alloc _, (K2.out.below hb2 K2.out.lt).alloc _, whole_new _ _ _, (Hb2.out.trans (hb2.mono Hb2.out.size)).alloc (by have := Hb2.out.size; have := hb2.size; omega) _, by omega, hz1, hz2⟩)
  clear hb2
  have hq1 : w.heap.size ≠ w1.heap.size := by omega
  have hq2 : w.heap.size ≠ w2.heap.size := by omega
  have hq3 : w1.heap.size ≠ w2.heap.size := by omega
  skip
  go_wp2_with fail
  refine Calls.mono (rnumber_any (w.heap.size + 1) _ d0 _ S0.out.rd) ?_
  rintro e w3 ⟨rfl, hr, hg⟩
  have T3 := hid_ (S0.out.call hg hr)
  clear hr hg
  generalize hx3 : numB d0 8 = x3 at *
  have HX3 := hid_ hx3
  clear hx3
  have S3 := hid_ (T3.out.set ⟨5, x3, 0, 0, 0, 0, 0, false, [], [], []⟩ ⟨none, 0, none, 0, none, 0⟩ 1 (.int .u64 (x3 : Nat)) rfl)
  obtain ⟨z0, z1, z2, z3, z4, z5, z6⟩ := part_facts T3.out.pt
  have f3 : ∀ o, w3.frozen? ⟨w1.heap.size, o, none⟩ = false := fun o => T3.out.pk.free o
  obtain ⟨p0, p1, p2, p3, p4, p5, p6, p7, p8, p9, p10⟩ := pack_facts T3.out.pk
  have r3 : ∀ o, w3.frozen? ⟨w.heap.size, o, none⟩ = false := fun o => T3.out.res.free o
  obtain ⟨t0, t1, t2, t3, t4, t5, t6, t7, t8, t9, t10⟩ := pack_facts T3.out.res
  dsimp only [zeroP] at p0 p1 p2 p3 p4 p5 p6 p7 p8 p9 p10 t0 t1 t2 t3 t4 t5 t6 t7 t8 t9 t10
  skip
  go_wp2_with fail
  refine Calls.mono (rballot_any (w.heap.size + 1) _ (d0.drop 8) _ S3.out.rd) ?_
  rintro e w4 ⟨rfl, hr, hg⟩
  have T4 := hid_ (S3.out.call hg hr)
  clear hr hg
  generalize hx4 : numB (d0.drop 8) 8 = x4 at *
  generalize hy4 : numB ((d0.drop 8).drop 8) 8 = u4 at *
  have HX4 := hid_ hx4
  have HY4 := hid_ hy4
  clear hx4 hy4
  have S4 := hid_ (T4.out.set2 ⟨5, x3, x4, u4, 0, 0, 0, false, [], [], []⟩ ⟨none, 0, none, 0, none, 0⟩ 2 3 (.int .u64 (x4 : Nat)) (.int .u64 (u4 : Nat)) rfl)
  obtain ⟨z0, z1, z2, z3, z4, z5, z6⟩ := part_facts T4.out.pt
  have f4 : ∀ o, w4.frozen? ⟨w1.heap.size, o, none⟩ = false := fun o => T4.out.pk.free o
  obtain ⟨p0, p1, p2, p3, p4, p5, p6, p7, p8, p9, p10⟩ := pack_facts T4.out.pk
  have r4 : ∀ o, w4.frozen? ⟨w.heap.size, o, none⟩ = false := fun o => T4.out.res.free o
  obtain ⟨t0, t1, t2, t3, t4, t5, t6, t7, t8, t9, t10⟩ := pack_facts T4.out.res
  dsimp only [zeroP] at p0 p1 p2 p3 p4 p5 p6 p7 p8 p9 p10 t0 t1 t2 t3 t4 t5 t6 t7 t8 t9 t10
  skip
  go_wp2_with fail
  refine Calls.mono (octet_any (w.heap.size + 1) _ ((d0.drop 8).drop 16) _ S4.out.rd) ?_
  rintro e w5 ⟨rfl, hr, hg⟩
  have T5 := hid_ (S4.out.call hg hr)
  clear hr hg
  have hlt5 := hd_lt ((d0.drop 8).drop 16)
  generalize hy5 : hd ((d0.drop 8).drop 16) = y5 at *
  have HY5 := hid_ hy5
  clear hy5
  generalize hx5 : (((y5 : Nat) : Int) == 1) = x5 at *
  have S5 := hid_ (T5.out.set ⟨5, x3, x4, u4, 0, 0, 0, x5, [], [], []⟩ ⟨none, 0, none, 0, none, 0⟩ 7 (.bool x5) rfl)
  obtain ⟨z0, z1, z2, z3, z4, z5, z6⟩ := part_facts T5.out.pt
  have f5 : ∀ o, w5.frozen? ⟨w1.heap.size, o, none⟩ = false := fun o => T5.out.pk.free o
  obtain ⟨p0, p1, p2, p3, p4, p5, p6, p7, p8, p9, p10⟩ := pack_facts T5.out.pk
  have r5 : ∀ o, w5.frozen? ⟨w.heap.size, o, none⟩ = false := fun o => T5.out.res.free o
  obtain ⟨t0, t1, t2, t3, t4, t5, t6, t7, t8, t9, t10⟩ := pack_facts T5.out.res
  dsimp only [zeroP] at p0 p1 p2 p3 p4 p5 p6 p7 p8 p9 p10 t0 t1 t2 t3 t4 t5 t6 t7 t8 t9 t10
  skip
  go_wp2_with fail
  refine Calls.mono (rballot_any (w.heap.size + 1) _ (((d0.drop 8).drop 16).drop 1) _ S5.out.rd) ?_
  rintro e w6 ⟨rfl, hr, hg⟩
  have T6 := hid_ (S5.out.call hg hr)
  clear hr hg
  generalize hx6 : numB (((d0.drop 8).drop 16).drop 1) 8 = x6 at *
  generalize hy6 : numB ((((d0.drop 8).drop 16).drop 1).drop 8) 8 = u6 at *
  have HX6 := hid_ hx6
  have HY6 := hid_ hy6
  clear hx6 hy6
  have S6 := hid_ (T6.out.set2 ⟨5, x3, x4, u4, x6, u6, 0, x5, [], [], []⟩ ⟨none, 0, none, 0, none, 0⟩ 4 5 (.int .u64 (x6 : Nat)) (.int .u64 (u6 : Nat)) rfl)
  obtain ⟨z0, z1, z2, z3, z4, z5, z6⟩ := part_facts T6.out.pt
  have f6 : ∀ o, w6.frozen? ⟨w1.heap.size, o, none⟩ = false := fun o => T6.out.pk.free o
  obtain ⟨p0, p1, p2, p3, p4, p5, p6, p7, p8, p9, p10⟩ := pack_facts T6.out.pk
  have r6 : ∀ o, w6.frozen? ⟨w.heap.size, o, none⟩ = false := fun o => T6.out.res.free o
  obtain ⟨t0, t1, t2, t3, t4, t5, t6, t7, t8, t9, t10⟩ := pack_facts T6.out.res
  dsimp only [zeroP] at p0 p1 p2 p3 p4 p5 p6 p7 p8 p9 p10 t0 t1 t2 t3 t4 t5 t6 t7 t8 t9 t10
  skip
  go_wp2_with fail
  refine Calls.mono (octet_any (w.heap.size + 1) _ ((((d0.drop 8).drop 16).drop 1).drop 16) _ S6.out.rd) ?_
  rintro e w7 ⟨rfl, hr, hg⟩
  have T7 := hid_ (S6.out.call hg hr)
  clear hr hg
  have hlt7 := hd_lt ((((d0.drop 8).drop 16).drop 1).drop 16)
  generalize hx7 : hd ((((d0.drop 8).drop 16).drop 1).drop 16) = x7 at *
  have HX7 := hid_ hx7
  clear hx7
  have S7 := hid_ (T7.out.set ⟨5, x3, x4, u4, x6, u6, (x7 : Int), x5, [], [], []⟩ ⟨none, 0, none, 0, none, 0⟩ 6 (.int .i64 (x7 : Int)) rfl)
  obtain ⟨z0, z1, z2, z3, z4, z5, z6⟩ := part_facts T7.out.pt
  have f7 : ∀ o, w7.frozen? ⟨w1.heap.size, o, none⟩ = false := fun o => T7.out.pk.free o
  obtain ⟨p0, p1, p2, p3, p4, p5, p6, p7, p8, p9, p10⟩ := pack_facts T7.out.pk
  have r7 : ∀ o, w7.frozen? ⟨w.heap.size, o, none⟩ = false := fun o => T7.out.res.free o
  obtain ⟨t0, t1, t2, t3, t4, t5, t6, t7, t8, t9, t10⟩ := pack_facts T7.out.res
  dsimp only [zeroP] at p0 p1 p2 p3 p4 p5 p6 p7 p8 p9 p10 t0 t1 t2 t3 t4 t5 t6 t7 t8 t9 t10
  go_wp2_with fail
  have Hy2 : Whole (((((((((((((w7.setCell ⟨w1.heap.size, 6, none⟩ (.int .i64 (x7 : Int))).setCell ⟨w.heap.size, 0, none⟩ (.int .i64 5)).setCell ⟨w.heap.size, 1, none⟩ (.int .u64 (x3 : Nat))).setCell ⟨w.heap.size, 2, none⟩ (.int .u64 (x4 : Nat))).setCell ⟨w.heap.size, 3, none⟩ (.int .u64 (u4 : Nat))).setCell ⟨w.heap.size, 4, none⟩ (.int .u64 (x6 : Nat))).setCell ⟨w.heap.size, 5, none⟩ (.int .u64 (u6 : Nat))).setCell ⟨w.heap.size, 6, none⟩ (.int .i64 (x7 : Int))).setCell ⟨w.heap.size, 7, none⟩ (.bool x5)).setCell ⟨w.heap.size, 8, none⟩ (.slice none 0 0)).setCell ⟨w.heap.size, 9, none⟩ (.slice none 0 0)).setCell ⟨w.heap.size, 10, none⟩ (.slice none 0 0))) w.heap.size 30 (packCells ⟨5, x3, x4, u4, x6, u6, (x7 : Int), x5, [], [], []⟩ ⟨none, 0, none, 0, none, 0⟩) ∧ Below w.heap.size w (((((((((((((w7.setCell ⟨w1.heap.size, 6, none⟩ (.int .i64 (x7 : Int))).setCell ⟨w.heap.size, 0, none⟩ (.int .i64 5)).setCell ⟨w.heap.size, 1, none⟩ (.int .u64 (x3 : Nat))).setCell ⟨w.heap.size, 2, none⟩ (.int .u64 (x4 : Nat))).setCell ⟨w.heap.size, 3, none⟩ (.int .u64 (u4 : Nat))).setCell ⟨w.heap.size, 4, none⟩ (.int .u64 (x6 : Nat))).setCell ⟨w.heap.size, 5, none⟩ (.int .u64 (u6 : Nat))).setCell ⟨w.heap.size, 6, none⟩ (.int .i64 (x7 : Int))).setCell ⟨w.heap.size, 7, none⟩ (.bool x5)).setCell ⟨w.heap.size, 8, none⟩ (.slice none 0 0)).setCell ⟨w.heap.size, 9, none⟩ (.slice none 0 0)).setCell ⟨w.heap.size, 10, none⟩ (.slice none 0 0))) := ⟨S7.out.res.pack ⟨5, x3, x4, u4, x6, u6, (x7 : Int), x5, [], [], []⟩ ⟨none, 0, none, 0, none, 0⟩, below_pack S7.out.below (Nat.le_refl _) ⟨5, x3, x4, u4, x6, u6, (x7 : Int), x5, [], [], []⟩ ⟨none, 0, none, 0, none, 0⟩⟩
  clear z0 z1 z2 z3 z4 z5 z6 f7 p0 p1 p2 p3 p4 p5 p6 p7 p8 p9 p10 r7 t0 t1 t2 t3 t4 t5 t6 t7 t8 t9 t10
  generalize ((((((((((((w7.setCell ⟨w1.heap.size, 6, none⟩ (.int .i64 (x7 : Int))).setCell ⟨w.heap.size, 0, none⟩ (.int .i64 5)).setCell ⟨w.heap.size, 1, none⟩ (.int .u64 (x3 : Nat))).setCell ⟨w.heap.size, 2, none⟩ (.int .u64 (x4 : Nat))).setCell ⟨w.heap.size, 3, none⟩ (.int .u64 (u4 : Nat))).setCell ⟨w.heap.size, 4, none⟩ (.int .u64 (x6 : Nat))).setCell ⟨w.heap.size, 5, none⟩ (.int .u64 (u6 : Nat))).setCell ⟨w.heap.size, 6, none⟩ (.int .i64 (x7 : Int))).setCell ⟨w.heap.size, 7, none⟩ (.bool x5)).setCell ⟨w.heap.size, 8, none⟩ (.slice none 0 0)).setCell ⟨w.heap.size, 9, none⟩ (.slice none 0 0)).setCell ⟨w.heap.size, 10, none⟩ (.slice none 0 0)) = W9 at Hy2 ⊢
  obtain ⟨Hy, Hby⟩ := Hy2
  obtain ⟨y0, y1, y2, y3, y4, y5, y6, y7, y8, y9, y10⟩ := pack_facts Hy
  dsimp only at y0 y1 y2 y3 y4 y5 y6 y7 y8 y9 y10
  refine bodyPost_ret (v := packVal ⟨5, x3, x4, u4, x6, u6, (x7 : Int), x5, [], [], []⟩ ⟨none, 0, none, 0, none, 0⟩) (by simp [results, Tryz.results24, go_sem, y0, y1, y2, y3, y4, y5, y6, y7, y8, y9, y10]) rfl ?_
  exact readPost_mk HD.out.symm (packIn_none _ _ rfl rfl rfl) (fresh_none _ _) Hby
end Go.Proofs.YtnpbokbfkdncmaaGreat
