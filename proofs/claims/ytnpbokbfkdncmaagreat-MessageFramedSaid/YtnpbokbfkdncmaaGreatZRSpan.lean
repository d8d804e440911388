/-
  What the program's reader answers of a span.
-/
import Derived.Test.YtnpbokbfkdncmaaGreatZGM
import Derived.Test.YtnpbokbfkdncmaaGreatZSpCutOwn
namespace Go.Proofs.YtnpbokbfkdncmaaGreat
set_option linter.unusedSimpArgs false
set_option linter.unusedVariables false
open Go.RowKit Ru

theorem rspan_end {w W : World} {g g0 : Nat} {Q : Nat → Prop} {A : Option Addr} {n c : Nat} {rest : List UInt8} {t : TypeId} {cs : Array Value} (s : SpanD) (Rz : Whole W g0 t cs) (hc : cs.size = 8) (Rw : Whole W g 91 #[.slice A n c]) (hsl : Sl W A n c rest) (hne : g < g0)
    (hblk : ∀ a, A = some a → rest ≠ [] → g0 < a.block) (hQ : ∀ q, Q q → q < g0) (hg : w.grownBy W (some g)) (hk : w.heap.size ≤ g0) :
    Whole (setSpan W g0 s) g0 t (spanCells s) ∧ RdPost w g Q (spanVal s) rest (.returned (spanVal s)) (setSpan W g0 s) := by
  refine ⟨Rz.span hc s, rdPost_mk rfl ⟨A, n, c, ?_, ?_, fun a e hne9 => ⟨by have := hblk a e hne9; omega, fun hq => by have := hblk a e hne9; have := hQ _ hq; omega⟩⟩ rfl ?_⟩
  · exact ((((((((Rw.far (p := ⟨g0, 0, none⟩) (show g ≠ g0 by omega) _).far (p := ⟨g0, 1, none⟩) (show g ≠ g0 by omega) _).far (p := ⟨g0, 2, none⟩) (show g ≠ g0 by omega) _).far (p := ⟨g0, 3, none⟩) (show g ≠ g0 by omega) _).far (p := ⟨g0, 4, none⟩) (show g ≠ g0 by omega) _).far (p := ⟨g0, 5, none⟩) (show g ≠ g0 by omega) _).far (p := ⟨g0, 6, none⟩) (show g ≠ g0 by omega) _).far (p := ⟨g0, 7, none⟩) (show g ≠ g0 by omega) _)
  · exact ((((((((hsl.farg (fun a e hne9 => by have := hblk a e hne9; omega) 0 _).farg (fun a e hne9 => by have := hblk a e hne9; omega) 1 _).farg (fun a e hne9 => by have := hblk a e hne9; omega) 2 _).farg (fun a e hne9 => by have := hblk a e hne9; omega) 3 _).farg (fun a e hne9 => by have := hblk a e hne9; omega) 4 _).farg (fun a e hne9 => by have := hblk a e hne9; omega) 5 _).farg (fun a e hne9 => by have := hblk a e hne9; omega) 6 _).farg (fun a e hne9 => by have := hblk a e hne9; omega) 7 _)
  · exact (grown_new (grown_new (grown_new (grown_new (grown_new (grown_new (grown_new (grown_new hg hk 0 _) hk 1 _) hk 2 _) hk 3 _) hk 4 _) hk 5 _) hk 6 _) hk 7 _)
set_option maxRecDepth 100000 in
set_option maxHeartbeats 4000000 in
theorem rspan_any (g : Nat) (Q : Nat → Prop) (l : List UInt8) (w : World) (h : Rd w g Q l) (hQ : ∀ q, Q q → q < w.heap.size) (hl : l.length ≤ 100000) :
    Calls Tryz.prog 59 #[.pointer (some ⟨g, 0, none⟩)] w (RdPost w g Q (spanVal (cutSpanF l).2.1) (cutSpanF l).2.2) := by
  obtain ⟨A, n, c, hw, hs, ha⟩ := h
  have hlt := hw.lt
  have y0 := hw.cell 0 (.slice A n c) rfl
  have Hc := hid_ (cutown_any A n c l (w.alloc (.cells (spanCells SpanD.zero) 44)) (hs.below ((Below.refl _ _).alloc (Nat.le_refl _) _)) (by rw [← hs.len]; omega))
  have Hw := hid_ (hw.alloc (.cells (spanCells SpanD.zero) 44))
  have R0 := hid_ (whole_new w 44 (spanCells SpanD.zero))
  have HQ := hid_ hQ
  clear hs ha hw hQ hl
  generalize hs : (cutSpanF l).2.1 = s at *
  generalize hr : (cutSpanF l).2.2 = rest at *
  have HS := hid_ hs
  have HR := hid_ hr
  clear hs hr
  go_enter Tryz.func59, Tryz.ntmps59
  go_wp2_with fail
  refine Calls.mono Hc.out ?_
  rintro e w2 ⟨A2, n2, c2, rfl, ho, hb⟩
  rw [HS.out, HR.out] at *
  have Ho := hid_ ho
  have W2 := hid_ (Hw.out.below hb Hw.out.lt)
  have R2 := hid_ (R0.out.below hb R0.out.lt)
  have G2 := hid_ (grown_trans (grown_alloc (grown_refl w (some g)) (.cells (spanCells SpanD.zero) 44)) (grown_below hb (Nat.le_refl _) (some g)))
  have hz2 : w.heap.size < w2.heap.size := R2.out.lt
  clear ho hb
  have hne : g ≠ w.heap.size := by omega
  have hne2 : g ≠ w2.heap.size := by omega
  have hne3 : w.heap.size ≠ w2.heap.size := by omega
  have hne4 : w2.heap.size ≠ g := by omega
  have hg2 : g < w2.heap.size := by omega
  have hne5 : w.heap.size ≠ g := by omega
  have f0 := W2.out.free 0
  have k0 := W2.out.cell 0 _ rfl
  have r0 : ∀ o, w2.frozen? ⟨w.heap.size, o, none⟩ = false := fun o => R2.out.free o
  obtain ⟨z0, z1, z2, z3, z4, z5, z6, z7⟩ := R2.out.box
  generalize (cutSpanF l).1 = kk at *
  go_wp2_with fail
  have hblk : ∀ a, A2 = some a → rest ≠ [] → w.heap.size < a.block := by
    rintro a rfl hne9
    have hpos : 0 < n2 := by rw [← Ho.out.sl.len]; exact List.length_pos_iff.2 hne9
    obtain ⟨g9, e9, h9, -⟩ := Ho.out.place hpos
    cases e9
    simp at h9
    show w.heap.size < g9
    omega
  have hsl : Sl (w2.setCell ⟨g, 0, none⟩ (.slice A2 n2 c2)) A2 n2 c2 rest := Ho.out.sl.farg (fun a e hne9 => by have := hblk a e hne9; omega) 0 _
  have Rw : Whole (w2.setCell ⟨g, 0, none⟩ (.slice A2 n2 c2)) g 91 #[.slice A2 n2 c2] := W2.out.store 0 _
  have Hy : Whole ((((((((((w2.setCell ⟨g, 0, none⟩ (.slice A2 n2 c2)).setCell ⟨w.heap.size, 0, none⟩ (.int .u64 (s.trace : Nat))).setCell ⟨w.heap.size, 1, none⟩ (.int .u64 (s.id : Nat))).setCell ⟨w.heap.size, 2, none⟩ (.int .u64 (s.parent : Nat))).setCell ⟨w.heap.size, 3, none⟩ (.int .u64 (s.start : Nat))).setCell ⟨w.heap.size, 4, none⟩ (.int .u64 (s.len : Nat))).setCell ⟨w.heap.size, 5, none⟩ (.string s.service)).setCell ⟨w.heap.size, 6, none⟩ (.string s.name)).setCell ⟨w.heap.size, 7, none⟩ (.bool s.fail))) w.heap.size 44 (spanCells s) ∧ RdPost w g Q (spanVal s) rest (.returned (spanVal s)) ((((((((((w2.setCell ⟨g, 0, none⟩ (.slice A2 n2 c2)).setCell ⟨w.heap.size, 0, none⟩ (.int .u64 (s.trace : Nat))).setCell ⟨w.heap.size, 1, none⟩ (.int .u64 (s.id : Nat))).setCell ⟨w.heap.size, 2, none⟩ (.int .u64 (s.parent : Nat))).setCell ⟨w.heap.size, 3, none⟩ (.int .u64 (s.start : Nat))).setCell ⟨w.heap.size, 4, none⟩ (.int .u64 (s.len : Nat))).setCell ⟨w.heap.size, 5, none⟩ (.string s.service)).setCell ⟨w.heap.size, 6, none⟩ (.string s.name)).setCell ⟨w.heap.size, 7, none⟩ (.bool s.fail))) :=
    rspan_end s (R2.out.far (p := ⟨g, 0, none⟩) hne.symm _) rfl Rw hsl (by omega) hblk (fun q hq => HQ.out q hq) (grown_trans G2.out (grown_set _ _ _ _)) (Nat.le_refl _)
  clear hsl Rw hblk z0 z1 z2 z3 z4 z5 z6 z7 r0 f0 k0 y0
  generalize (((((((((w2.setCell ⟨g, 0, none⟩ (.slice A2 n2 c2)).setCell ⟨w.heap.size, 0, none⟩ (.int .u64 (s.trace : Nat))).setCell ⟨w.heap.size, 1, none⟩ (.int .u64 (s.id : Nat))).setCell ⟨w.heap.size, 2, none⟩ (.int .u64 (s.parent : Nat))).setCell ⟨w.heap.size, 3, none⟩ (.int .u64 (s.start : Nat))).setCell ⟨w.heap.size, 4, none⟩ (.int .u64 (s.len : Nat))).setCell ⟨w.heap.size, 5, none⟩ (.string s.service)).setCell ⟨w.heap.size, 6, none⟩ (.string s.name)).setCell ⟨w.heap.size, 7, none⟩ (.bool s.fail)) = W9 at Hy ⊢
  obtain ⟨Hy1, -, Hr9, Hg9⟩ := Hy
  have hz9 := Hy1.lt
  obtain ⟨y0, y1, y2, y3, y4, y5, y6, y7⟩ := Hy1.box
  refine bodyPost_ret (v := spanVal s) (by simp [results, Tryz.results59, go_sem, y0, y1, y2, y3, y4, y5, y6, y7, hz9]) rfl ?_
  exact rdPost_mk rfl (Hr9.alloc _) rfl (grown_alloc Hg9 _)
end Go.Proofs.YtnpbokbfkdncmaaGreat
