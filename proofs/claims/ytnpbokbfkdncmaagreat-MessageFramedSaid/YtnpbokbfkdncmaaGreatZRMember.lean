/-
  What the program's reader answers of a member.
-/
import Derived.Test.YtnpbokbfkdncmaaGreatZGM
namespace Go.Proofs.YtnpbokbfkdncmaaGreat
set_option linter.unusedSimpArgs false
set_option linter.unusedVariables false
open Go.RowKit Ru

set_option maxHeartbeats 2000000 in
theorem rmember_any (g : Nat) (Q : Nat → Prop) (l : List UInt8) (w : World) (h : Rd w g Q l) :
    Calls Tryz.prog 60 #[.pointer (some ⟨g, 0, none⟩)] w (RdPost w g Q (memVal (memAt l)) (l.drop 17)) := by
  have H := hid_ (h.bar (.cells #[.int .u64 0, .int .u64 0, .int .i64 0] 64) w.heap.size rfl)
  have R0 := hid_ (whole_new w 64 #[.int .u64 0, .int .u64 0, .int .i64 0])
  have hlt := h.lt
  have G0 := hid_ (grown_alloc (grown_refl w (some g)) (.cells #[.int .u64 0, .int .u64 0, .int .i64 0] 64))
  have Hm := hid_ (show memAt l = ⟨numB l 8, numB (l.drop 8) 8, (hd ((l.drop 8).drop 8) : Nat)⟩ by unfold memAt; rw [List.drop_drop])
  generalize memAt l = mm at *
  clear h
  go_enter Tryz.func60, Tryz.ntmps60
  go_wp2_with fail
  refine Calls.mono (rnumber_any g _ l _ H.out) ?_
  rintro e w1 ⟨rfl, hr1, hg1⟩
  have H1 := hid_ hr1
  have R1 := hid_ (R0.out.grown hg1 (by intro e; injection e with e; omega))
  have G1 := hid_ (grown_trans G0.out hg1)
  clear hr1 hg1
  generalize numB l 8 = x1 at *
  go_wp2_with fail
  refine Calls.mono (rnumber_any g _ _ _ H1.out) ?_
  rintro e w2 ⟨rfl, hr2, hg2⟩
  have H2 := hid_ hr2
  have R2 := hid_ (R1.out.grown hg2 (by intro e; injection e with e; omega))
  have G2 := hid_ (grown_trans G1.out hg2)
  clear hr2 hg2
  generalize numB (l.drop 8) 8 = x2 at *
  go_wp2_with fail
  refine Calls.mono (octet_any g _ _ _ H2.out) ?_
  rintro e w3 ⟨rfl, hr3, hg3⟩
  have H3 := hid_ hr3
  have R3 := hid_ (R2.out.grown hg3 (by intro e; injection e with e; omega))
  have G3 := hid_ (grown_trans G2.out hg3)
  clear hr3 hg3
  have Hd := hid_ (show ((l.drop 8).drop 8).drop 1 = l.drop 17 by rw [List.drop_drop, List.drop_drop])
  have hx3 := hd_lt ((l.drop 8).drop 8)
  generalize hd ((l.drop 8).drop 8) = x3 at *
  have y0 := R3.out.cell 0 _ rfl
  have y1 := R3.out.cell 1 _ rfl
  have y2 := R3.out.cell 2 _ rfl
  have f0 := R3.out.free 0
  have f1 := R3.out.free 1
  have f2 := R3.out.free 2
  have hne : g ≠ w.heap.size := by omega
  go_wp2_with fail
  refine bodyPost_ret (v := .agg #[.int .u64 (x1 : Nat), .int .u64 (x2 : Nat), .int .i64 (x3 : Nat)]) (by simp [results, Tryz.results60, go_sem, y0, y1, y2]) rfl ?_
  exact rdPost_mk (by rw [Hm.out]) (((((H3.out.store (.inr rfl) hne.symm 0 _).store (.inr rfl) hne.symm 1 _).store (.inr rfl) hne.symm 2 _).sub (fun _ h => .inl h))) Hd.out (grown_new (grown_new (grown_new G3.out (Nat.le_refl _) 0 _) (Nat.le_refl _) 1 _) (Nat.le_refl _) 2 _)
end Go.Proofs.YtnpbokbfkdncmaaGreat
