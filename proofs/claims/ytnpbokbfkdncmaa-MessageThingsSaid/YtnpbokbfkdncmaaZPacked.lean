/-
  The packet of a thing, with the thing's own lists.
-/
import Derived.Test.YtnpbokbfkdncmaaZGA
import Derived.BigQuiet
import Derived.StillTailTactics
namespace Go.Proofs.Ytnpbokbfkdncmaa
set_option linter.unusedSimpArgs false
set_option linter.unusedVariables false
open Go.RowKit
abbrev vSpans (tr : Nat) (hand : Bool) (A : Option Addr) (n c : Nat) : Value := .iface 43 (.agg #[.int .u64 (tr : Nat), .bool hand, .slice A n c])
abbrev vMembers (A : Option Addr) (n c : Nat) : Value := .iface 46 (.agg #[.slice A n c])
abbrev vAsk (tr bn bd : Nat) (v : Int) : Value := .iface 49 (.agg #[.int .u64 (tr : Nat), .int .u64 (bn : Nat), .int .u64 (bd : Nat), .int .i64 v])
abbrev vReply (tr bn bd : Nat) (ok : Bool) (sn sd : Nat) (v : Int) (took : Bool) : Value := .iface 52 (.agg #[.int .u64 (tr : Nat), .int .u64 (bn : Nat), .int .u64 (bd : Nat), .bool ok, .int .u64 (sn : Nat), .int .u64 (sd : Nat), .int .i64 v, .bool took])
abbrev vTold (tr : Nat) (v : Int) : Value := .iface 55 (.agg #[.int .u64 (tr : Nat), .int .i64 v])
abbrev vStored (tr bn bd : Nat) (A : Option Addr) (n c : Nat) : Value := .iface 58 (.agg #[.int .u64 (tr : Nat), .int .u64 (bn : Nat), .int .u64 (bd : Nat), .slice A n c])
abbrev vAcked (tr : Nat) (A : Option Addr) (n c : Nat) : Value := .iface 61 (.agg #[.int .u64 (tr : Nat), .slice A n c])
theorem whole_11 {w : World} {g : Nat} {T : TypeId} {c0 c1 c2 c3 c4 c5 c6 c7 c8 c9 c10 : Value} (h : Whole w g T #[c0, c1, c2, c3, c4, c5, c6, c7, c8, c9, c10]) (v0 v1 v2 v3 v4 v5 v6 v7 v8 v9 v10 : Value) : Whole (((((((((((w.setCell ⟨g, 0, none⟩ v0).setCell ⟨g, 1, none⟩ v1).setCell ⟨g, 2, none⟩ v2).setCell ⟨g, 3, none⟩ v3).setCell ⟨g, 4, none⟩ v4).setCell ⟨g, 5, none⟩ v5).setCell ⟨g, 6, none⟩ v6).setCell ⟨g, 7, none⟩ v7).setCell ⟨g, 8, none⟩ v8).setCell ⟨g, 9, none⟩ v9).setCell ⟨g, 10, none⟩ v10) g T #[v0, v1, v2, v3, v4, v5, v6, v7, v8, v9, v10] := by
  have h11 := (((((((((((h.store 0 v0).store 1 v1).store 2 v2).store 3 v3).store 4 v4).store 5 v5).store 6 v6).store 7 v7).store 8 v8).store 9 v9).store 10 v10)
  have e : ((((((((((((#[c0, c1, c2, c3, c4, c5, c6, c7, c8, c9, c10] : Array Value).setIfInBounds 0 v0).setIfInBounds 1 v1).setIfInBounds 2 v2).setIfInBounds 3 v3).setIfInBounds 4 v4).setIfInBounds 5 v5).setIfInBounds 6 v6).setIfInBounds 7 v7).setIfInBounds 8 v8).setIfInBounds 9 v9).setIfInBounds 10 v10) = #[v0, v1, v2, v3, v4, v5, v6, v7, v8, v9, v10] := by simp
  rw [e] at h11
  exact h11
theorem below_11 {B : Nat} {a w : World} (h : Below B a w) {g : Nat} (hg : B ≤ g) (v0 v1 v2 v3 v4 v5 v6 v7 v8 v9 v10 : Value) : Below B a (((((((((((w.setCell ⟨g, 0, none⟩ v0).setCell ⟨g, 1, none⟩ v1).setCell ⟨g, 2, none⟩ v2).setCell ⟨g, 3, none⟩ v3).setCell ⟨g, 4, none⟩ v4).setCell ⟨g, 5, none⟩ v5).setCell ⟨g, 6, none⟩ v6).setCell ⟨g, 7, none⟩ v7).setCell ⟨g, 8, none⟩ v8).setCell ⟨g, 9, none⟩ v9).setCell ⟨g, 10, none⟩ v10) := (((((((((((h.setCell (p := ⟨g, 0, none⟩) hg v0).setCell (p := ⟨g, 1, none⟩) hg v1).setCell (p := ⟨g, 2, none⟩) hg v2).setCell (p := ⟨g, 3, none⟩) hg v3).setCell (p := ⟨g, 4, none⟩) hg v4).setCell (p := ⟨g, 5, none⟩) hg v5).setCell (p := ⟨g, 6, none⟩) hg v6).setCell (p := ⟨g, 7, none⟩) hg v7).setCell (p := ⟨g, 8, none⟩) hg v8).setCell (p := ⟨g, 9, none⟩) hg v9).setCell (p := ⟨g, 10, none⟩) hg v10)
theorem either_t (x y : Int) (w : World) : Calls Try.prog 39 #[.bool true, .int .i64 x, .int .i64 y] w fun e w' => e = .returned (.int .i64 x) ∧ w = w' := by
  go_enter Try.func39, Try.ntmps39
  go_wp2_with fail
  go_ret
  exact ⟨rfl, rfl⟩
theorem either_f (x y : Int) (w : World) : Calls Try.prog 39 #[.bool false, .int .i64 x, .int .i64 y] w fun e w' => e = .returned (.int .i64 y) ∧ w = w' := by
  go_enter Try.func39, Try.ntmps39
  go_wp2_with fail
  go_ret
  exact ⟨rfl, rfl⟩
set_option maxRecDepth 100000 in
set_option maxHeartbeats 2000000 in
theorem pck1_any (tr : Nat) (A : Option Addr) (n c : Nat) (w : World) :
    Calls Try.prog 23 #[vSpans tr false A n c] w fun e w' => e = .returned (.agg #[.int .i64 1, .int .u64 (tr : Nat), .int .u64 0, .int .u64 0, .int .u64 0, .int .u64 0, .int .i64 0, .bool false, .slice A n c, .slice none 0 0, .slice none 0 0]) ∧ Below w.heap.size w w' := by
  have ky := fun v w => isSpans v w
  go_enter Try.func23, Try.ntmps23
  go_wp2_with fail
  obtain ⟨wz, hwz⟩ : ∃ wz, wz = ((w.alloc (.cells #[.int .i64 0, .int .u64 0, .int .u64 0, .int .u64 0, .int .u64 0, .int .u64 0, .int .i64 0, .bool false, .slice none 0 0, .slice none 0 0, .slice none 0 0] 30)).alloc (.cells #[.int .u64 (tr : Nat), .bool false, .slice A n c] 43)) := ⟨_, rfl⟩
  rw [← hwz]
  have B1 : Whole wz w.heap.size 30 #[.int .i64 0, .int .u64 0, .int .u64 0, .int .u64 0, .int .u64 0, .int .u64 0, .int .i64 0, .bool false, .slice none 0 0, .slice none 0 0, .slice none 0 0] := by rw [hwz]; exact (whole_new w _ _).alloc _
  have B2 : Whole wz (w.heap.size + 1) 43 #[.int .u64 (tr : Nat), .bool false, .slice A n c] := by rw [hwz]; exact whole_at _ _ _ _ (by simp)
  have Hb : Below w.heap.size w wz := by rw [hwz]; exact ((Below.refl _ _).alloc (Nat.le_refl _) _).alloc (by simp) _
  have r1 : ∀ o, wz.frozen? ⟨w.heap.size, o, none⟩ = false := fun o => B1.free o
  have y0 := B2.cell 0 _ rfl
  have y1 := B2.cell 1 _ rfl
  have y2 := B2.cell 2 _ rfl
  have x0 := B1.cell 0 _ rfl
  have x1 := B1.cell 1 _ rfl
  have x2 := B1.cell 2 _ rfl
  have x3 := B1.cell 3 _ rfl
  have x4 := B1.cell 4 _ rfl
  have x5 := B1.cell 5 _ rfl
  have x6 := B1.cell 6 _ rfl
  have x7 := B1.cell 7 _ rfl
  have x8 := B1.cell 8 _ rfl
  have x9 := B1.cell 9 _ rfl
  have x10 := B1.cell 10 _ rfl
  have hlt := B1.lt
  have HF := hid_ (show Whole ((((((((((((wz.setCell ⟨w.heap.size, 0, none⟩ (.int .i64 1)).setCell ⟨w.heap.size, 1, none⟩ (.int .u64 (tr : Nat))).setCell ⟨w.heap.size, 2, none⟩ (.int .u64 0)).setCell ⟨w.heap.size, 3, none⟩ (.int .u64 0)).setCell ⟨w.heap.size, 4, none⟩ (.int .u64 0)).setCell ⟨w.heap.size, 5, none⟩ (.int .u64 0)).setCell ⟨w.heap.size, 6, none⟩ (.int .i64 0)).setCell ⟨w.heap.size, 7, none⟩ (.bool false)).setCell ⟨w.heap.size, 8, none⟩ (.slice A n c)).setCell ⟨w.heap.size, 9, none⟩ (.slice none 0 0)).setCell ⟨w.heap.size, 10, none⟩ (.slice none 0 0)).drew) w.heap.size 30 #[.int .i64 1, .int .u64 (tr : Nat), .int .u64 0, .int .u64 0, .int .u64 0, .int .u64 0, .int .i64 0, .bool false, .slice A n c, .slice none 0 0, .slice none 0 0] ∧ Below w.heap.size w ((((((((((((wz.setCell ⟨w.heap.size, 0, none⟩ (.int .i64 1)).setCell ⟨w.heap.size, 1, none⟩ (.int .u64 (tr : Nat))).setCell ⟨w.heap.size, 2, none⟩ (.int .u64 0)).setCell ⟨w.heap.size, 3, none⟩ (.int .u64 0)).setCell ⟨w.heap.size, 4, none⟩ (.int .u64 0)).setCell ⟨w.heap.size, 5, none⟩ (.int .u64 0)).setCell ⟨w.heap.size, 6, none⟩ (.int .i64 0)).setCell ⟨w.heap.size, 7, none⟩ (.bool false)).setCell ⟨w.heap.size, 8, none⟩ (.slice A n c)).setCell ⟨w.heap.size, 9, none⟩ (.slice none 0 0)).setCell ⟨w.heap.size, 10, none⟩ (.slice none 0 0)).drew) from
    ⟨Whole.drew (whole_11 B1 (.int .i64 1) (.int .u64 (tr : Nat)) (.int .u64 0) (.int .u64 0) (.int .u64 0) (.int .u64 0) (.int .i64 0) (.bool false) (.slice A n c) (.slice none 0 0) (.slice none 0 0)), Below.drew (below_11 Hb (Nat.le_refl _) (.int .i64 1) (.int .u64 (tr : Nat)) (.int .u64 0) (.int .u64 0) (.int .u64 0) (.int .u64 0) (.int .i64 0) (.bool false) (.slice A n c) (.slice none 0 0) (.slice none 0 0))⟩)
  clear hwz B1 B2 Hb
  refine wp_region_still_tail 8 (by kernel_rfl) (by kernel_rfl) ?_
  simp only [List.take_succ_cons, List.take_zero, List.drop_succ_cons, List.drop_zero]
  repeat still_step
  still_call (quiet_flip (either_f _ _ _))
  repeat still_step
  refine wpStill_nil ?_
  change wpList _ _ _ _ _ wz.drew
  go_wp2_with fail
  have Hy2 := HF.out
  clear HF r1 hlt y0 y1 y2 x0 x1 x2 x3 x4 x5 x6 x7 x8 x9 x10
  generalize (((((((((((wz.setCell ⟨w.heap.size, 0, none⟩ (.int .i64 1)).setCell ⟨w.heap.size, 1, none⟩ (.int .u64 (tr : Nat))).setCell ⟨w.heap.size, 2, none⟩ (.int .u64 0)).setCell ⟨w.heap.size, 3, none⟩ (.int .u64 0)).setCell ⟨w.heap.size, 4, none⟩ (.int .u64 0)).setCell ⟨w.heap.size, 5, none⟩ (.int .u64 0)).setCell ⟨w.heap.size, 6, none⟩ (.int .i64 0)).setCell ⟨w.heap.size, 7, none⟩ (.bool false)).setCell ⟨w.heap.size, 8, none⟩ (.slice A n c)).setCell ⟨w.heap.size, 9, none⟩ (.slice none 0 0)).setCell ⟨w.heap.size, 10, none⟩ (.slice none 0 0)).drew = W9 at Hy2 ⊢
  obtain ⟨Hy, Hby⟩ := Hy2
  have y0 := Hy.cell 0 _ rfl
  have y1 := Hy.cell 1 _ rfl
  have y2 := Hy.cell 2 _ rfl
  have y3 := Hy.cell 3 _ rfl
  have y4 := Hy.cell 4 _ rfl
  have y5 := Hy.cell 5 _ rfl
  have y6 := Hy.cell 6 _ rfl
  have y7 := Hy.cell 7 _ rfl
  have y8 := Hy.cell 8 _ rfl
  have y9 := Hy.cell 9 _ rfl
  have y10 := Hy.cell 10 _ rfl
  refine bodyPost_ret (v := .agg #[.int .i64 1, .int .u64 (tr : Nat), .int .u64 0, .int .u64 0, .int .u64 0, .int .u64 0, .int .i64 0, .bool false, .slice A n c, .slice none 0 0, .slice none 0 0]) (by simp [results, Try.results23, go_sem, y0, y1, y2, y3, y4, y5, y6, y7, y8, y9, y10]) rfl ⟨rfl, Hby⟩
set_option maxRecDepth 100000 in
set_option maxHeartbeats 2000000 in
theorem pck2_any (tr : Nat) (A : Option Addr) (n c : Nat) (w : World) :
    Calls Try.prog 23 #[vSpans tr true A n c] w fun e w' => e = .returned (.agg #[.int .i64 2, .int .u64 (tr : Nat), .int .u64 0, .int .u64 0, .int .u64 0, .int .u64 0, .int .i64 0, .bool false, .slice A n c, .slice none 0 0, .slice none 0 0]) ∧ Below w.heap.size w w' := by
  have ky := fun v w => isSpans v w
  go_enter Try.func23, Try.ntmps23
  go_wp2_with fail
  obtain ⟨wz, hwz⟩ : ∃ wz, wz = ((w.alloc (.cells #[.int .i64 0, .int .u64 0, .int .u64 0, .int .u64 0, .int .u64 0, .int .u64 0, .int .i64 0, .bool false, .slice none 0 0, .slice none 0 0, .slice none 0 0] 30)).alloc (.cells #[.int .u64 (tr : Nat), .bool true, .slice A n c] 43)) := ⟨_, rfl⟩
  rw [← hwz]
  have B1 : Whole wz w.heap.size 30 #[.int .i64 0, .int .u64 0, .int .u64 0, .int .u64 0, .int .u64 0, .int .u64 0, .int .i64 0, .bool false, .slice none 0 0, .slice none 0 0, .slice none 0 0] := by rw [hwz]; exact (whole_new w _ _).alloc _
  have B2 : Whole wz (w.heap.size + 1) 43 #[.int .u64 (tr : Nat), .bool true, .slice A n c] := by rw [hwz]; exact whole_at _ _ _ _ (by simp)
  have Hb : Below w.heap.size w wz := by rw [hwz]; exact ((Below.refl _ _).alloc (Nat.le_refl _) _).alloc (by simp) _
  have r1 : ∀ o, wz.frozen? ⟨w.heap.size, o, none⟩ = false := fun o => B1.free o
  have y0 := B2.cell 0 _ rfl
  have y1 := B2.cell 1 _ rfl
  have y2 := B2.cell 2 _ rfl
  have x0 := B1.cell 0 _ rfl
  have x1 := B1.cell 1 _ rfl
  have x2 := B1.cell 2 _ rfl
  have x3 := B1.cell 3 _ rfl
  have x4 := B1.cell 4 _ rfl
  have x5 := B1.cell 5 _ rfl
  have x6 := B1.cell 6 _ rfl
  have x7 := B1.cell 7 _ rfl
  have x8 := B1.cell 8 _ rfl
  have x9 := B1.cell 9 _ rfl
  have x10 := B1.cell 10 _ rfl
  have hlt := B1.lt
  have HF := hid_ (show Whole ((((((((((((wz.setCell ⟨w.heap.size, 0, none⟩ (.int .i64 2)).setCell ⟨w.heap.size, 1, none⟩ (.int .u64 (tr : Nat))).setCell ⟨w.heap.size, 2, none⟩ (.int .u64 0)).setCell ⟨w.heap.size, 3, none⟩ (.int .u64 0)).setCell ⟨w.heap.size, 4, none⟩ (.int .u64 0)).setCell ⟨w.heap.size, 5, none⟩ (.int .u64 0)).setCell ⟨w.heap.size, 6, none⟩ (.int .i64 0)).setCell ⟨w.heap.size, 7, none⟩ (.bool false)).setCell ⟨w.heap.size, 8, none⟩ (.slice A n c)).setCell ⟨w.heap.size, 9, none⟩ (.slice none 0 0)).setCell ⟨w.heap.size, 10, none⟩ (.slice none 0 0)).drew) w.heap.size 30 #[.int .i64 2, .int .u64 (tr : Nat), .int .u64 0, .int .u64 0, .int .u64 0, .int .u64 0, .int .i64 0, .bool false, .slice A n c, .slice none 0 0, .slice none 0 0] ∧ Below w.heap.size w ((((((((((((wz.setCell ⟨w.heap.size, 0, none⟩ (.int .i64 2)).setCell ⟨w.heap.size, 1, none⟩ (.int .u64 (tr : Nat))).setCell ⟨w.heap.size, 2, none⟩ (.int .u64 0)).setCell ⟨w.heap.size, 3, none⟩ (.int .u64 0)).setCell ⟨w.heap.size, 4, none⟩ (.int .u64 0)).setCell ⟨w.heap.size, 5, none⟩ (.int .u64 0)).setCell ⟨w.heap.size, 6, none⟩ (.int .i64 0)).setCell ⟨w.heap.size, 7, none⟩ (.bool false)).setCell ⟨w.heap.size, 8, none⟩ (.slice A n c)).setCell ⟨w.heap.size, 9, none⟩ (.slice none 0 0)).setCell ⟨w.heap.size, 10, none⟩ (.slice none 0 0)).drew) from
    ⟨Whole.drew (whole_11 B1 (.int .i64 2) (.int .u64 (tr : Nat)) (.int .u64 0) (.int .u64 0) (.int .u64 0) (.int .u64 0) (.int .i64 0) (.bool false) (.slice A n c) (.slice none 0 0) (.slice none 0 0)), Below.drew (below_11 Hb (Nat.le_refl _) (.int .i64 2) (.int .u64 (tr : Nat)) (.int .u64 0) (.int .u64 0) (.int .u64 0) (.int .u64 0) (.int .i64 0) (.bool false) (.slice A n c) (.slice none 0 0) (.slice none 0 0))⟩)
  clear hwz B1 B2 Hb
  refine wp_region_still_tail 8 (by kernel_rfl) (by kernel_rfl) ?_
  simp only [List.take_succ_cons, List.take_zero, List.drop_succ_cons, List.drop_zero]
  repeat still_step
  still_call (quiet_flip (either_t _ _ _))
  repeat still_step
  refine wpStill_nil ?_
  change wpList _ _ _ _ _ wz.drew
  go_wp2_with fail
  have Hy2 := HF.out
  clear HF r1 hlt y0 y1 y2 x0 x1 x2 x3 x4 x5 x6 x7 x8 x9 x10
  generalize (((((((((((wz.setCell ⟨w.heap.size, 0, none⟩ (.int .i64 2)).setCell ⟨w.heap.size, 1, none⟩ (.int .u64 (tr : Nat))).setCell ⟨w.heap.size, 2, none⟩ (.int .u64 0)).setCell ⟨w.heap.size, 3, none⟩ (.int .u64 0)).setCell ⟨w.heap.size, 4, none⟩ (.int .u64 0)).setCell ⟨w.heap.size, 5, none⟩ (.int .u64 0)).setCell ⟨w.heap.size, 6, none⟩ (.int .i64 0)).setCell ⟨w.heap.size, 7, none⟩ (.bool false)).setCell ⟨w.heap.size, 8, none⟩ (.slice A n c)).setCell ⟨w.heap.size, 9, none⟩ (.slice none 0 0)).setCell ⟨w.heap.size, 10, none⟩ (.slice none 0 0)).drew = W9 at Hy2 ⊢
  obtain ⟨Hy, Hby⟩ := Hy2
  have y0 := Hy.cell 0 _ rfl
  have y1 := Hy.cell 1 _ rfl
  have y2 := Hy.cell 2 _ rfl
  have y3 := Hy.cell 3 _ rfl
  have y4 := Hy.cell 4 _ rfl
  have y5 := Hy.cell 5 _ rfl
  have y6 := Hy.cell 6 _ rfl
  have y7 := Hy.cell 7 _ rfl
  have y8 := Hy.cell 8 _ rfl
  have y9 := Hy.cell 9 _ rfl
  have y10 := Hy.cell 10 _ rfl
  refine bodyPost_ret (v := .agg #[.int .i64 2, .int .u64 (tr : Nat), .int .u64 0, .int .u64 0, .int .u64 0, .int .u64 0, .int .i64 0, .bool false, .slice A n c, .slice none 0 0, .slice none 0 0]) (by simp [results, Try.results23, go_sem, y0, y1, y2, y3, y4, y5, y6, y7, y8, y9, y10]) rfl ⟨rfl, Hby⟩
set_option maxRecDepth 100000 in
set_option maxHeartbeats 2000000 in
theorem pck3_any (A : Option Addr) (n c : Nat) (w : World) :
    Calls Try.prog 23 #[vMembers A n c] w fun e w' => e = .returned (.agg #[.int .i64 3, .int .u64 0, .int .u64 0, .int .u64 0, .int .u64 0, .int .u64 0, .int .i64 0, .bool false, .slice none 0 0, .slice A n c, .slice none 0 0]) ∧ Below w.heap.size w w' := by
  have k0 := fun v w => noSpans_Members v w
  have ky := fun v w => isMembers v w
  go_enter Try.func23, Try.ntmps23
  go_wp2_with fail
  refine bodyPost_ret (v := .agg #[.int .i64 3, .int .u64 0, .int .u64 0, .int .u64 0, .int .u64 0, .int .u64 0, .int .i64 0, .bool false, .slice none 0 0, .slice A n c, .slice none 0 0]) (by simp [results, Try.results23, go_sem]) rfl ⟨rfl, ?_⟩
  exact ((Below.refl _ _).alloc (Nat.le_refl _) _).alloc (by simp) _
set_option maxRecDepth 100000 in
set_option maxHeartbeats 2000000 in
theorem pck4_any (tr bn bd : Nat) (w : World) :
    Calls Try.prog 23 #[vAsk tr bn bd 0] w fun e w' => e = .returned (.agg #[.int .i64 4, .int .u64 (tr : Nat), .int .u64 (bn : Nat), .int .u64 (bd : Nat), .int .u64 0, .int .u64 0, .int .i64 0, .bool false, .slice none 0 0, .slice none 0 0, .slice none 0 0]) ∧ Below w.heap.size w w' := by
  have k0 := fun v w => noSpans_Ask v w
  have k1 := fun v w => noMembers_Ask v w
  have ky := fun v w => isAsk v w
  go_enter Try.func23, Try.ntmps23
  go_wp2_with fail
  obtain ⟨wz, hwz⟩ : ∃ wz, wz = ((w.alloc (.cells #[.int .i64 0, .int .u64 0, .int .u64 0, .int .u64 0, .int .u64 0, .int .u64 0, .int .i64 0, .bool false, .slice none 0 0, .slice none 0 0, .slice none 0 0] 30)).alloc (.cells #[.int .u64 (tr : Nat), .int .u64 (bn : Nat), .int .u64 (bd : Nat), .int .i64 0] 49)) := ⟨_, rfl⟩
  rw [← hwz]
  have B1 : Whole wz w.heap.size 30 #[.int .i64 0, .int .u64 0, .int .u64 0, .int .u64 0, .int .u64 0, .int .u64 0, .int .i64 0, .bool false, .slice none 0 0, .slice none 0 0, .slice none 0 0] := by rw [hwz]; exact (whole_new w _ _).alloc _
  have B2 : Whole wz (w.heap.size + 1) 49 #[.int .u64 (tr : Nat), .int .u64 (bn : Nat), .int .u64 (bd : Nat), .int .i64 0] := by rw [hwz]; exact whole_at _ _ _ _ (by simp)
  have Hb : Below w.heap.size w wz := by rw [hwz]; exact ((Below.refl _ _).alloc (Nat.le_refl _) _).alloc (by simp) _
  have r1 : ∀ o, wz.frozen? ⟨w.heap.size, o, none⟩ = false := fun o => B1.free o
  have y0 := B2.cell 0 _ rfl
  have y1 := B2.cell 1 _ rfl
  have y2 := B2.cell 2 _ rfl
  have y3 := B2.cell 3 _ rfl
  have x0 := B1.cell 0 _ rfl
  have x1 := B1.cell 1 _ rfl
  have x2 := B1.cell 2 _ rfl
  have x3 := B1.cell 3 _ rfl
  have x4 := B1.cell 4 _ rfl
  have x5 := B1.cell 5 _ rfl
  have x6 := B1.cell 6 _ rfl
  have x7 := B1.cell 7 _ rfl
  have x8 := B1.cell 8 _ rfl
  have x9 := B1.cell 9 _ rfl
  have x10 := B1.cell 10 _ rfl
  have hlt := B1.lt
  have HF := hid_ (show Whole ((((((((((((wz.setCell ⟨w.heap.size, 0, none⟩ (.int .i64 4)).setCell ⟨w.heap.size, 1, none⟩ (.int .u64 (tr : Nat))).setCell ⟨w.heap.size, 2, none⟩ (.int .u64 (bn : Nat))).setCell ⟨w.heap.size, 3, none⟩ (.int .u64 (bd : Nat))).setCell ⟨w.heap.size, 4, none⟩ (.int .u64 0)).setCell ⟨w.heap.size, 5, none⟩ (.int .u64 0)).setCell ⟨w.heap.size, 6, none⟩ (.int .i64 0)).setCell ⟨w.heap.size, 7, none⟩ (.bool false)).setCell ⟨w.heap.size, 8, none⟩ (.slice none 0 0)).setCell ⟨w.heap.size, 9, none⟩ (.slice none 0 0)).setCell ⟨w.heap.size, 10, none⟩ (.slice none 0 0)).drew) w.heap.size 30 #[.int .i64 4, .int .u64 (tr : Nat), .int .u64 (bn : Nat), .int .u64 (bd : Nat), .int .u64 0, .int .u64 0, .int .i64 0, .bool false, .slice none 0 0, .slice none 0 0, .slice none 0 0] ∧ Below w.heap.size w ((((((((((((wz.setCell ⟨w.heap.size, 0, none⟩ (.int .i64 4)).setCell ⟨w.heap.size, 1, none⟩ (.int .u64 (tr : Nat))).setCell ⟨w.heap.size, 2, none⟩ (.int .u64 (bn : Nat))).setCell ⟨w.heap.size, 3, none⟩ (.int .u64 (bd : Nat))).setCell ⟨w.heap.size, 4, none⟩ (.int .u64 0)).setCell ⟨w.heap.size, 5, none⟩ (.int .u64 0)).setCell ⟨w.heap.size, 6, none⟩ (.int .i64 0)).setCell ⟨w.heap.size, 7, none⟩ (.bool false)).setCell ⟨w.heap.size, 8, none⟩ (.slice none 0 0)).setCell ⟨w.heap.size, 9, none⟩ (.slice none 0 0)).setCell ⟨w.heap.size, 10, none⟩ (.slice none 0 0)).drew) from
    ⟨Whole.drew (whole_11 B1 (.int .i64 4) (.int .u64 (tr : Nat)) (.int .u64 (bn : Nat)) (.int .u64 (bd : Nat)) (.int .u64 0) (.int .u64 0) (.int .i64 0) (.bool false) (.slice none 0 0) (.slice none 0 0) (.slice none 0 0)), Below.drew (below_11 Hb (Nat.le_refl _) (.int .i64 4) (.int .u64 (tr : Nat)) (.int .u64 (bn : Nat)) (.int .u64 (bd : Nat)) (.int .u64 0) (.int .u64 0) (.int .i64 0) (.bool false) (.slice none 0 0) (.slice none 0 0) (.slice none 0 0))⟩)
  clear hwz B1 B2 Hb
  refine wp_region_still_tail 11 (by kernel_rfl) (by kernel_rfl) ?_
  simp only [List.take_succ_cons, List.take_zero, List.drop_succ_cons, List.drop_zero]
  repeat still_step
  still_call (quiet_flip (either_t _ _ _))
  repeat still_step
  refine wpStill_nil ?_
  change wpList _ _ _ _ _ wz.drew
  go_wp2_with fail
  have Hy2 := HF.out
  clear HF r1 hlt y0 y1 y2 y3 x0 x1 x2 x3 x4 x5 x6 x7 x8 x9 x10
  generalize (((((((((((wz.setCell ⟨w.heap.size, 0, none⟩ (.int .i64 4)).setCell ⟨w.heap.size, 1, none⟩ (.int .u64 (tr : Nat))).setCell ⟨w.heap.size, 2, none⟩ (.int .u64 (bn : Nat))).setCell ⟨w.heap.size, 3, none⟩ (.int .u64 (bd : Nat))).setCell ⟨w.heap.size, 4, none⟩ (.int .u64 0)).setCell ⟨w.heap.size, 5, none⟩ (.int .u64 0)).setCell ⟨w.heap.size, 6, none⟩ (.int .i64 0)).setCell ⟨w.heap.size, 7, none⟩ (.bool false)).setCell ⟨w.heap.size, 8, none⟩ (.slice none 0 0)).setCell ⟨w.heap.size, 9, none⟩ (.slice none 0 0)).setCell ⟨w.heap.size, 10, none⟩ (.slice none 0 0)).drew = W9 at Hy2 ⊢
  obtain ⟨Hy, Hby⟩ := Hy2
  have y0 := Hy.cell 0 _ rfl
  have y1 := Hy.cell 1 _ rfl
  have y2 := Hy.cell 2 _ rfl
  have y3 := Hy.cell 3 _ rfl
  have y4 := Hy.cell 4 _ rfl
  have y5 := Hy.cell 5 _ rfl
  have y6 := Hy.cell 6 _ rfl
  have y7 := Hy.cell 7 _ rfl
  have y8 := Hy.cell 8 _ rfl
  have y9 := Hy.cell 9 _ rfl
  have y10 := Hy.cell 10 _ rfl
  refine bodyPost_ret (v := .agg #[.int .i64 4, .int .u64 (tr : Nat), .int .u64 (bn : Nat), .int .u64 (bd : Nat), .int .u64 0, .int .u64 0, .int .i64 0, .bool false, .slice none 0 0, .slice none 0 0, .slice none 0 0]) (by simp [results, Try.results23, go_sem, y0, y1, y2, y3, y4, y5, y6, y7, y8, y9, y10]) rfl ⟨rfl, Hby⟩
set_option maxRecDepth 100000 in
set_option maxHeartbeats 2000000 in
theorem pck6_any (tr bn bd : Nat) (v : Int) (w : World) (hv : v ≠ 0) :
    Calls Try.prog 23 #[vAsk tr bn bd v] w fun e w' => e = .returned (.agg #[.int .i64 6, .int .u64 (tr : Nat), .int .u64 (bn : Nat), .int .u64 (bd : Nat), .int .u64 0, .int .u64 0, .int .i64 v, .bool false, .slice none 0 0, .slice none 0 0, .slice none 0 0]) ∧ Below w.heap.size w w' := by
  have k0 := fun v w => noSpans_Ask v w
  have k1 := fun v w => noMembers_Ask v w
  have ky := fun v w => isAsk v w
  go_enter Try.func23, Try.ntmps23
  go_wp2_with fail
  have hv1 : (v == 0) = false := beq_eq_false_iff_ne.2 hv
  obtain ⟨wz, hwz⟩ : ∃ wz, wz = ((w.alloc (.cells #[.int .i64 0, .int .u64 0, .int .u64 0, .int .u64 0, .int .u64 0, .int .u64 0, .int .i64 0, .bool false, .slice none 0 0, .slice none 0 0, .slice none 0 0] 30)).alloc (.cells #[.int .u64 (tr : Nat), .int .u64 (bn : Nat), .int .u64 (bd : Nat), .int .i64 v] 49)) := ⟨_, rfl⟩
  rw [← hwz]
  have B1 : Whole wz w.heap.size 30 #[.int .i64 0, .int .u64 0, .int .u64 0, .int .u64 0, .int .u64 0, .int .u64 0, .int .i64 0, .bool false, .slice none 0 0, .slice none 0 0, .slice none 0 0] := by rw [hwz]; exact (whole_new w _ _).alloc _
  have B2 : Whole wz (w.heap.size + 1) 49 #[.int .u64 (tr : Nat), .int .u64 (bn : Nat), .int .u64 (bd : Nat), .int .i64 v] := by rw [hwz]; exact whole_at _ _ _ _ (by simp)
  have Hb : Below w.heap.size w wz := by rw [hwz]; exact ((Below.refl _ _).alloc (Nat.le_refl _) _).alloc (by simp) _
  have r1 : ∀ o, wz.frozen? ⟨w.heap.size, o, none⟩ = false := fun o => B1.free o
  have y0 := B2.cell 0 _ rfl
  have y1 := B2.cell 1 _ rfl
  have y2 := B2.cell 2 _ rfl
  have y3 := B2.cell 3 _ rfl
  have x0 := B1.cell 0 _ rfl
  have x1 := B1.cell 1 _ rfl
  have x2 := B1.cell 2 _ rfl
  have x3 := B1.cell 3 _ rfl
  have x4 := B1.cell 4 _ rfl
  have x5 := B1.cell 5 _ rfl
  have x6 := B1.cell 6 _ rfl
  have x7 := B1.cell 7 _ rfl
  have x8 := B1.cell 8 _ rfl
  have x9 := B1.cell 9 _ rfl
  have x10 := B1.cell 10 _ rfl
  have hlt := B1.lt
  have HF := hid_ (show Whole ((((((((((((wz.setCell ⟨w.heap.size, 0, none⟩ (.int .i64 6)).setCell ⟨w.heap.size, 1, none⟩ (.int .u64 (tr : Nat))).setCell ⟨w.heap.size, 2, none⟩ (.int .u64 (bn : Nat))).setCell ⟨w.heap.size, 3, none⟩ (.int .u64 (bd : Nat))).setCell ⟨w.heap.size, 4, none⟩ (.int .u64 0)).setCell ⟨w.heap.size, 5, none⟩ (.int .u64 0)).setCell ⟨w.heap.size, 6, none⟩ (.int .i64 v)).setCell ⟨w.heap.size, 7, none⟩ (.bool false)).setCell ⟨w.heap.size, 8, none⟩ (.slice none 0 0)).setCell ⟨w.heap.size, 9, none⟩ (.slice none 0 0)).setCell ⟨w.heap.size, 10, none⟩ (.slice none 0 0)).drew) w.heap.size 30 #[.int .i64 6, .int .u64 (tr : Nat), .int .u64 (bn : Nat), .int .u64 (bd : Nat), .int .u64 0, .int .u64 0, .int .i64 v, .bool false, .slice none 0 0, .slice none 0 0, .slice none 0 0] ∧ Below w.heap.size w ((((((((((((wz.setCell ⟨w.heap.size, 0, none⟩ (.int .i64 6)).setCell ⟨w.heap.size, 1, none⟩ (.int .u64 (tr : Nat))).setCell ⟨w.heap.size, 2, none⟩ (.int .u64 (bn : Nat))).setCell ⟨w.heap.size, 3, none⟩ (.int .u64 (bd : Nat))).setCell ⟨w.heap.size, 4, none⟩ (.int .u64 0)).setCell ⟨w.heap.size, 5, none⟩ (.int .u64 0)).setCell ⟨w.heap.size, 6, none⟩ (.int .i64 v)).setCell ⟨w.heap.size, 7, none⟩ (.bool false)).setCell ⟨w.heap.size, 8, none⟩ (.slice none 0 0)).setCell ⟨w.heap.size, 9, none⟩ (.slice none 0 0)).setCell ⟨w.heap.size, 10, none⟩ (.slice none 0 0)).drew) from
    ⟨Whole.drew (whole_11 B1 (.int .i64 6) (.int .u64 (tr : Nat)) (.int .u64 (bn : Nat)) (.int .u64 (bd : Nat)) (.int .u64 0) (.int .u64 0) (.int .i64 v) (.bool false) (.slice none 0 0) (.slice none 0 0) (.slice none 0 0)), Below.drew (below_11 Hb (Nat.le_refl _) (.int .i64 6) (.int .u64 (tr : Nat)) (.int .u64 (bn : Nat)) (.int .u64 (bd : Nat)) (.int .u64 0) (.int .u64 0) (.int .i64 v) (.bool false) (.slice none 0 0) (.slice none 0 0) (.slice none 0 0))⟩)
  clear hwz B1 B2 Hb
  refine wp_region_still_tail 11 (by kernel_rfl) (by kernel_rfl) ?_
  simp only [List.take_succ_cons, List.take_zero, List.drop_succ_cons, List.drop_zero]
  repeat still_step
  still_call (quiet_flip (either_f _ _ _))
  repeat still_step
  refine wpStill_nil ?_
  change wpList _ _ _ _ _ wz.drew
  go_wp2_with fail
  have Hy2 := HF.out
  clear HF r1 hlt y0 y1 y2 y3 x0 x1 x2 x3 x4 x5 x6 x7 x8 x9 x10
  generalize (((((((((((wz.setCell ⟨w.heap.size, 0, none⟩ (.int .i64 6)).setCell ⟨w.heap.size, 1, none⟩ (.int .u64 (tr : Nat))).setCell ⟨w.heap.size, 2, none⟩ (.int .u64 (bn : Nat))).setCell ⟨w.heap.size, 3, none⟩ (.int .u64 (bd : Nat))).setCell ⟨w.heap.size, 4, none⟩ (.int .u64 0)).setCell ⟨w.heap.size, 5, none⟩ (.int .u64 0)).setCell ⟨w.heap.size, 6, none⟩ (.int .i64 v)).setCell ⟨w.heap.size, 7, none⟩ (.bool false)).setCell ⟨w.heap.size, 8, none⟩ (.slice none 0 0)).setCell ⟨w.heap.size, 9, none⟩ (.slice none 0 0)).setCell ⟨w.heap.size, 10, none⟩ (.slice none 0 0)).drew = W9 at Hy2 ⊢
  obtain ⟨Hy, Hby⟩ := Hy2
  have y0 := Hy.cell 0 _ rfl
  have y1 := Hy.cell 1 _ rfl
  have y2 := Hy.cell 2 _ rfl
  have y3 := Hy.cell 3 _ rfl
  have y4 := Hy.cell 4 _ rfl
  have y5 := Hy.cell 5 _ rfl
  have y6 := Hy.cell 6 _ rfl
  have y7 := Hy.cell 7 _ rfl
  have y8 := Hy.cell 8 _ rfl
  have y9 := Hy.cell 9 _ rfl
  have y10 := Hy.cell 10 _ rfl
  refine bodyPost_ret (v := .agg #[.int .i64 6, .int .u64 (tr : Nat), .int .u64 (bn : Nat), .int .u64 (bd : Nat), .int .u64 0, .int .u64 0, .int .i64 v, .bool false, .slice none 0 0, .slice none 0 0, .slice none 0 0]) (by simp [results, Try.results23, go_sem, y0, y1, y2, y3, y4, y5, y6, y7, y8, y9, y10]) rfl ⟨rfl, Hby⟩
set_option maxRecDepth 100000 in
set_option maxHeartbeats 2000000 in
theorem pck5_any (tr bn bd : Nat) (ok : Bool) (sn sd : Nat) (v : Int) (w : World) :
    Calls Try.prog 23 #[vReply tr bn bd ok sn sd v false] w fun e w' => e = .returned (.agg #[.int .i64 5, .int .u64 (tr : Nat), .int .u64 (bn : Nat), .int .u64 (bd : Nat), .int .u64 (sn : Nat), .int .u64 (sd : Nat), .int .i64 v, .bool ok, .slice none 0 0, .slice none 0 0, .slice none 0 0]) ∧ Below w.heap.size w w' := by
  have k0 := fun v w => noSpans_Reply v w
  have k1 := fun v w => noMembers_Reply v w
  have k2 := fun v w => noAsk_Reply v w
  have ky := fun v w => isReply v w
  go_enter Try.func23, Try.ntmps23
  go_wp2_with fail
  obtain ⟨wz, hwz⟩ : ∃ wz, wz = ((w.alloc (.cells #[.int .i64 0, .int .u64 0, .int .u64 0, .int .u64 0, .int .u64 0, .int .u64 0, .int .i64 0, .bool false, .slice none 0 0, .slice none 0 0, .slice none 0 0] 30)).alloc (.cells #[.int .u64 (tr : Nat), .int .u64 (bn : Nat), .int .u64 (bd : Nat), .bool ok, .int .u64 (sn : Nat), .int .u64 (sd : Nat), .int .i64 v, .bool false] 52)) := ⟨_, rfl⟩
  rw [← hwz]
  have B1 : Whole wz w.heap.size 30 #[.int .i64 0, .int .u64 0, .int .u64 0, .int .u64 0, .int .u64 0, .int .u64 0, .int .i64 0, .bool false, .slice none 0 0, .slice none 0 0, .slice none 0 0] := by rw [hwz]; exact (whole_new w _ _).alloc _
  have B2 : Whole wz (w.heap.size + 1) 52 #[.int .u64 (tr : Nat), .int .u64 (bn : Nat), .int .u64 (bd : Nat), .bool ok, .int .u64 (sn : Nat), .int .u64 (sd : Nat), .int .i64 v, .bool false] := by rw [hwz]; exact whole_at _ _ _ _ (by simp)
  have Hb : Below w.heap.size w wz := by rw [hwz]; exact ((Below.refl _ _).alloc (Nat.le_refl _) _).alloc (by simp) _
  have r1 : ∀ o, wz.frozen? ⟨w.heap.size, o, none⟩ = false := fun o => B1.free o
  have y0 := B2.cell 0 _ rfl
  have y1 := B2.cell 1 _ rfl
  have y2 := B2.cell 2 _ rfl
  have y3 := B2.cell 3 _ rfl
  have y4 := B2.cell 4 _ rfl
  have y5 := B2.cell 5 _ rfl
  have y6 := B2.cell 6 _ rfl
  have y7 := B2.cell 7 _ rfl
  have x0 := B1.cell 0 _ rfl
  have x1 := B1.cell 1 _ rfl
  have x2 := B1.cell 2 _ rfl
  have x3 := B1.cell 3 _ rfl
  have x4 := B1.cell 4 _ rfl
  have x5 := B1.cell 5 _ rfl
  have x6 := B1.cell 6 _ rfl
  have x7 := B1.cell 7 _ rfl
  have x8 := B1.cell 8 _ rfl
  have x9 := B1.cell 9 _ rfl
  have x10 := B1.cell 10 _ rfl
  have hlt := B1.lt
  have HF := hid_ (show Whole ((((((((((((wz.setCell ⟨w.heap.size, 0, none⟩ (.int .i64 5)).setCell ⟨w.heap.size, 1, none⟩ (.int .u64 (tr : Nat))).setCell ⟨w.heap.size, 2, none⟩ (.int .u64 (bn : Nat))).setCell ⟨w.heap.size, 3, none⟩ (.int .u64 (bd : Nat))).setCell ⟨w.heap.size, 4, none⟩ (.int .u64 (sn : Nat))).setCell ⟨w.heap.size, 5, none⟩ (.int .u64 (sd : Nat))).setCell ⟨w.heap.size, 6, none⟩ (.int .i64 v)).setCell ⟨w.heap.size, 7, none⟩ (.bool ok)).setCell ⟨w.heap.size, 8, none⟩ (.slice none 0 0)).setCell ⟨w.heap.size, 9, none⟩ (.slice none 0 0)).setCell ⟨w.heap.size, 10, none⟩ (.slice none 0 0)).drew) w.heap.size 30 #[.int .i64 5, .int .u64 (tr : Nat), .int .u64 (bn : Nat), .int .u64 (bd : Nat), .int .u64 (sn : Nat), .int .u64 (sd : Nat), .int .i64 v, .bool ok, .slice none 0 0, .slice none 0 0, .slice none 0 0] ∧ Below w.heap.size w ((((((((((((wz.setCell ⟨w.heap.size, 0, none⟩ (.int .i64 5)).setCell ⟨w.heap.size, 1, none⟩ (.int .u64 (tr : Nat))).setCell ⟨w.heap.size, 2, none⟩ (.int .u64 (bn : Nat))).setCell ⟨w.heap.size, 3, none⟩ (.int .u64 (bd : Nat))).setCell ⟨w.heap.size, 4, none⟩ (.int .u64 (sn : Nat))).setCell ⟨w.heap.size, 5, none⟩ (.int .u64 (sd : Nat))).setCell ⟨w.heap.size, 6, none⟩ (.int .i64 v)).setCell ⟨w.heap.size, 7, none⟩ (.bool ok)).setCell ⟨w.heap.size, 8, none⟩ (.slice none 0 0)).setCell ⟨w.heap.size, 9, none⟩ (.slice none 0 0)).setCell ⟨w.heap.size, 10, none⟩ (.slice none 0 0)).drew) from
    ⟨Whole.drew (whole_11 B1 (.int .i64 5) (.int .u64 (tr : Nat)) (.int .u64 (bn : Nat)) (.int .u64 (bd : Nat)) (.int .u64 (sn : Nat)) (.int .u64 (sd : Nat)) (.int .i64 v) (.bool ok) (.slice none 0 0) (.slice none 0 0) (.slice none 0 0)), Below.drew (below_11 Hb (Nat.le_refl _) (.int .i64 5) (.int .u64 (tr : Nat)) (.int .u64 (bn : Nat)) (.int .u64 (bd : Nat)) (.int .u64 (sn : Nat)) (.int .u64 (sd : Nat)) (.int .i64 v) (.bool ok) (.slice none 0 0) (.slice none 0 0) (.slice none 0 0))⟩)
  clear hwz B1 B2 Hb
  refine wp_region_still_tail 14 (by kernel_rfl) (by kernel_rfl) ?_
  simp only [List.take_succ_cons, List.take_zero, List.drop_succ_cons, List.drop_zero]
  repeat still_step
  still_call (quiet_flip (either_f _ _ _))
  repeat still_step
  refine wpStill_nil ?_
  change wpList _ _ _ _ _ wz.drew
  go_wp2_with fail
  have Hy2 := HF.out
  clear HF r1 hlt y0 y1 y2 y3 y4 y5 y6 y7 x0 x1 x2 x3 x4 x5 x6 x7 x8 x9 x10
  generalize (((((((((((wz.setCell ⟨w.heap.size, 0, none⟩ (.int .i64 5)).setCell ⟨w.heap.size, 1, none⟩ (.int .u64 (tr : Nat))).setCell ⟨w.heap.size, 2, none⟩ (.int .u64 (bn : Nat))).setCell ⟨w.heap.size, 3, none⟩ (.int .u64 (bd : Nat))).setCell ⟨w.heap.size, 4, none⟩ (.int .u64 (sn : Nat))).setCell ⟨w.heap.size, 5, none⟩ (.int .u64 (sd : Nat))).setCell ⟨w.heap.size, 6, none⟩ (.int .i64 v)).setCell ⟨w.heap.size, 7, none⟩ (.bool ok)).setCell ⟨w.heap.size, 8, none⟩ (.slice none 0 0)).setCell ⟨w.heap.size, 9, none⟩ (.slice none 0 0)).setCell ⟨w.heap.size, 10, none⟩ (.slice none 0 0)).drew = W9 at Hy2 ⊢
  obtain ⟨Hy, Hby⟩ := Hy2
  have y0 := Hy.cell 0 _ rfl
  have y1 := Hy.cell 1 _ rfl
  have y2 := Hy.cell 2 _ rfl
  have y3 := Hy.cell 3 _ rfl
  have y4 := Hy.cell 4 _ rfl
  have y5 := Hy.cell 5 _ rfl
  have y6 := Hy.cell 6 _ rfl
  have y7 := Hy.cell 7 _ rfl
  have y8 := Hy.cell 8 _ rfl
  have y9 := Hy.cell 9 _ rfl
  have y10 := Hy.cell 10 _ rfl
  refine bodyPost_ret (v := .agg #[.int .i64 5, .int .u64 (tr : Nat), .int .u64 (bn : Nat), .int .u64 (bd : Nat), .int .u64 (sn : Nat), .int .u64 (sd : Nat), .int .i64 v, .bool ok, .slice none 0 0, .slice none 0 0, .slice none 0 0]) (by simp [results, Try.results23, go_sem, y0, y1, y2, y3, y4, y5, y6, y7, y8, y9, y10]) rfl ⟨rfl, Hby⟩
set_option maxRecDepth 100000 in
set_option maxHeartbeats 2000000 in
theorem pck7_any (tr bn bd : Nat) (ok : Bool) (sn sd : Nat) (v : Int) (w : World) :
    Calls Try.prog 23 #[vReply tr bn bd ok sn sd v true] w fun e w' => e = .returned (.agg #[.int .i64 7, .int .u64 (tr : Nat), .int .u64 (bn : Nat), .int .u64 (bd : Nat), .int .u64 (sn : Nat), .int .u64 (sd : Nat), .int .i64 v, .bool ok, .slice none 0 0, .slice none 0 0, .slice none 0 0]) ∧ Below w.heap.size w w' := by
  have k0 := fun v w => noSpans_Reply v w
  have k1 := fun v w => noMembers_Reply v w
  have k2 := fun v w => noAsk_Reply v w
  have ky := fun v w => isReply v w
  go_enter Try.func23, Try.ntmps23
  go_wp2_with fail
  obtain ⟨wz, hwz⟩ : ∃ wz, wz = ((w.alloc (.cells #[.int .i64 0, .int .u64 0, .int .u64 0, .int .u64 0, .int .u64 0, .int .u64 0, .int .i64 0, .bool false, .slice none 0 0, .slice none 0 0, .slice none 0 0] 30)).alloc (.cells #[.int .u64 (tr : Nat), .int .u64 (bn : Nat), .int .u64 (bd : Nat), .bool ok, .int .u64 (sn : Nat), .int .u64 (sd : Nat), .int .i64 v, .bool true] 52)) := ⟨_, rfl⟩
  rw [← hwz]
  have B1 : Whole wz w.heap.size 30 #[.int .i64 0, .int .u64 0, .int .u64 0, .int .u64 0, .int .u64 0, .int .u64 0, .int .i64 0, .bool false, .slice none 0 0, .slice none 0 0, .slice none 0 0] := by rw [hwz]; exact (whole_new w _ _).alloc _
  have B2 : Whole wz (w.heap.size + 1) 52 #[.int .u64 (tr : Nat), .int .u64 (bn : Nat), .int .u64 (bd : Nat), .bool ok, .int .u64 (sn : Nat), .int .u64 (sd : Nat), .int .i64 v, .bool true] := by rw [hwz]; exact whole_at _ _ _ _ (by simp)
  have Hb : Below w.heap.size w wz := by rw [hwz]; exact ((Below.refl _ _).alloc (Nat.le_refl _) _).alloc (by simp) _
  have r1 : ∀ o, wz.frozen? ⟨w.heap.size, o, none⟩ = false := fun o => B1.free o
  have y0 := B2.cell 0 _ rfl
  have y1 := B2.cell 1 _ rfl
  have y2 := B2.cell 2 _ rfl
  have y3 := B2.cell 3 _ rfl
  have y4 := B2.cell 4 _ rfl
  have y5 := B2.cell 5 _ rfl
  have y6 := B2.cell 6 _ rfl
  have y7 := B2.cell 7 _ rfl
  have x0 := B1.cell 0 _ rfl
  have x1 := B1.cell 1 _ rfl
  have x2 := B1.cell 2 _ rfl
  have x3 := B1.cell 3 _ rfl
  have x4 := B1.cell 4 _ rfl
  have x5 := B1.cell 5 _ rfl
  have x6 := B1.cell 6 _ rfl
  have x7 := B1.cell 7 _ rfl
  have x8 := B1.cell 8 _ rfl
  have x9 := B1.cell 9 _ rfl
  have x10 := B1.cell 10 _ rfl
  have hlt := B1.lt
  have HF := hid_ (show Whole ((((((((((((wz.setCell ⟨w.heap.size, 0, none⟩ (.int .i64 7)).setCell ⟨w.heap.size, 1, none⟩ (.int .u64 (tr : Nat))).setCell ⟨w.heap.size, 2, none⟩ (.int .u64 (bn : Nat))).setCell ⟨w.heap.size, 3, none⟩ (.int .u64 (bd : Nat))).setCell ⟨w.heap.size, 4, none⟩ (.int .u64 (sn : Nat))).setCell ⟨w.heap.size, 5, none⟩ (.int .u64 (sd : Nat))).setCell ⟨w.heap.size, 6, none⟩ (.int .i64 v)).setCell ⟨w.heap.size, 7, none⟩ (.bool ok)).setCell ⟨w.heap.size, 8, none⟩ (.slice none 0 0)).setCell ⟨w.heap.size, 9, none⟩ (.slice none 0 0)).setCell ⟨w.heap.size, 10, none⟩ (.slice none 0 0)).drew) w.heap.size 30 #[.int .i64 7, .int .u64 (tr : Nat), .int .u64 (bn : Nat), .int .u64 (bd : Nat), .int .u64 (sn : Nat), .int .u64 (sd : Nat), .int .i64 v, .bool ok, .slice none 0 0, .slice none 0 0, .slice none 0 0] ∧ Below w.heap.size w ((((((((((((wz.setCell ⟨w.heap.size, 0, none⟩ (.int .i64 7)).setCell ⟨w.heap.size, 1, none⟩ (.int .u64 (tr : Nat))).setCell ⟨w.heap.size, 2, none⟩ (.int .u64 (bn : Nat))).setCell ⟨w.heap.size, 3, none⟩ (.int .u64 (bd : Nat))).setCell ⟨w.heap.size, 4, none⟩ (.int .u64 (sn : Nat))).setCell ⟨w.heap.size, 5, none⟩ (.int .u64 (sd : Nat))).setCell ⟨w.heap.size, 6, none⟩ (.int .i64 v)).setCell ⟨w.heap.size, 7, none⟩ (.bool ok)).setCell ⟨w.heap.size, 8, none⟩ (.slice none 0 0)).setCell ⟨w.heap.size, 9, none⟩ (.slice none 0 0)).setCell ⟨w.heap.size, 10, none⟩ (.slice none 0 0)).drew) from
    ⟨Whole.drew (whole_11 B1 (.int .i64 7) (.int .u64 (tr : Nat)) (.int .u64 (bn : Nat)) (.int .u64 (bd : Nat)) (.int .u64 (sn : Nat)) (.int .u64 (sd : Nat)) (.int .i64 v) (.bool ok) (.slice none 0 0) (.slice none 0 0) (.slice none 0 0)), Below.drew (below_11 Hb (Nat.le_refl _) (.int .i64 7) (.int .u64 (tr : Nat)) (.int .u64 (bn : Nat)) (.int .u64 (bd : Nat)) (.int .u64 (sn : Nat)) (.int .u64 (sd : Nat)) (.int .i64 v) (.bool ok) (.slice none 0 0) (.slice none 0 0) (.slice none 0 0))⟩)
  clear hwz B1 B2 Hb
  refine wp_region_still_tail 14 (by kernel_rfl) (by kernel_rfl) ?_
  simp only [List.take_succ_cons, List.take_zero, List.drop_succ_cons, List.drop_zero]
  repeat still_step
  still_call (quiet_flip (either_t _ _ _))
  repeat still_step
  refine wpStill_nil ?_
  change wpList _ _ _ _ _ wz.drew
  go_wp2_with fail
  have Hy2 := HF.out
  clear HF r1 hlt y0 y1 y2 y3 y4 y5 y6 y7 x0 x1 x2 x3 x4 x5 x6 x7 x8 x9 x10
  generalize (((((((((((wz.setCell ⟨w.heap.size, 0, none⟩ (.int .i64 7)).setCell ⟨w.heap.size, 1, none⟩ (.int .u64 (tr : Nat))).setCell ⟨w.heap.size, 2, none⟩ (.int .u64 (bn : Nat))).setCell ⟨w.heap.size, 3, none⟩ (.int .u64 (bd : Nat))).setCell ⟨w.heap.size, 4, none⟩ (.int .u64 (sn : Nat))).setCell ⟨w.heap.size, 5, none⟩ (.int .u64 (sd : Nat))).setCell ⟨w.heap.size, 6, none⟩ (.int .i64 v)).setCell ⟨w.heap.size, 7, none⟩ (.bool ok)).setCell ⟨w.heap.size, 8, none⟩ (.slice none 0 0)).setCell ⟨w.heap.size, 9, none⟩ (.slice none 0 0)).setCell ⟨w.heap.size, 10, none⟩ (.slice none 0 0)).drew = W9 at Hy2 ⊢
  obtain ⟨Hy, Hby⟩ := Hy2
  have y0 := Hy.cell 0 _ rfl
  have y1 := Hy.cell 1 _ rfl
  have y2 := Hy.cell 2 _ rfl
  have y3 := Hy.cell 3 _ rfl
  have y4 := Hy.cell 4 _ rfl
  have y5 := Hy.cell 5 _ rfl
  have y6 := Hy.cell 6 _ rfl
  have y7 := Hy.cell 7 _ rfl
  have y8 := Hy.cell 8 _ rfl
  have y9 := Hy.cell 9 _ rfl
  have y10 := Hy.cell 10 _ rfl
  refine bodyPost_ret (v := .agg #[.int .i64 7, .int .u64 (tr : Nat), .int .u64 (bn : Nat), .int .u64 (bd : Nat), .int .u64 (sn : Nat), .int .u64 (sd : Nat), .int .i64 v, .bool ok, .slice none 0 0, .slice none 0 0, .slice none 0 0]) (by simp [results, Try.results23, go_sem, y0, y1, y2, y3, y4, y5, y6, y7, y8, y9, y10]) rfl ⟨rfl, Hby⟩
set_option maxRecDepth 100000 in
set_option maxHeartbeats 2000000 in
theorem pck8_any (tr : Nat) (v : Int) (w : World) :
    Calls Try.prog 23 #[vTold tr v] w fun e w' => e = .returned (.agg #[.int .i64 8, .int .u64 (tr : Nat), .int .u64 0, .int .u64 0, .int .u64 0, .int .u64 0, .int .i64 v, .bool false, .slice none 0 0, .slice none 0 0, .slice none 0 0]) ∧ Below w.heap.size w w' := by
  have k0 := fun v w => noSpans_Told v w
  have k1 := fun v w => noMembers_Told v w
  have k2 := fun v w => noAsk_Told v w
  have k3 := fun v w => noReply_Told v w
  have ky := fun v w => isTold v w
  go_enter Try.func23, Try.ntmps23
  go_wp2_with fail
  refine bodyPost_ret (v := .agg #[.int .i64 8, .int .u64 (tr : Nat), .int .u64 0, .int .u64 0, .int .u64 0, .int .u64 0, .int .i64 v, .bool false, .slice none 0 0, .slice none 0 0, .slice none 0 0]) (by simp [results, Try.results23, go_sem]) rfl ⟨rfl, ?_⟩
  exact ((Below.refl _ _).alloc (Nat.le_refl _) _).alloc (by simp) _
set_option maxRecDepth 100000 in
set_option maxHeartbeats 2000000 in
theorem pck9_any (tr bn bd : Nat) (A : Option Addr) (n c : Nat) (w : World) :
    Calls Try.prog 23 #[vStored tr bn bd A n c] w fun e w' => e = .returned (.agg #[.int .i64 9, .int .u64 (tr : Nat), .int .u64 (bn : Nat), .int .u64 (bd : Nat), .int .u64 0, .int .u64 0, .int .i64 0, .bool false, .slice A n c, .slice none 0 0, .slice none 0 0]) ∧ Below w.heap.size w w' := by
  have k0 := fun v w => noSpans_Stored v w
  have k1 := fun v w => noMembers_Stored v w
  have k2 := fun v w => noAsk_Stored v w
  have k3 := fun v w => noReply_Stored v w
  have k4 := fun v w => noTold_Stored v w
  have ky := fun v w => isStored v w
  go_enter Try.func23, Try.ntmps23
  go_wp2_with fail
  refine bodyPost_ret (v := .agg #[.int .i64 9, .int .u64 (tr : Nat), .int .u64 (bn : Nat), .int .u64 (bd : Nat), .int .u64 0, .int .u64 0, .int .i64 0, .bool false, .slice A n c, .slice none 0 0, .slice none 0 0]) (by simp [results, Try.results23, go_sem]) rfl ⟨rfl, ?_⟩
  exact ((Below.refl _ _).alloc (Nat.le_refl _) _).alloc (by simp) _
set_option maxRecDepth 100000 in
set_option maxHeartbeats 2000000 in
theorem pck10_any (tr : Nat) (A : Option Addr) (n c : Nat) (w : World) :
    Calls Try.prog 23 #[vAcked tr A n c] w fun e w' => e = .returned (.agg #[.int .i64 10, .int .u64 (tr : Nat), .int .u64 0, .int .u64 0, .int .u64 0, .int .u64 0, .int .i64 0, .bool false, .slice none 0 0, .slice none 0 0, .slice A n c]) ∧ Below w.heap.size w w' := by
  have k0 := fun v w => noSpans_Acked v w
  have k1 := fun v w => noMembers_Acked v w
  have k2 := fun v w => noAsk_Acked v w
  have k3 := fun v w => noReply_Acked v w
  have k4 := fun v w => noTold_Acked v w
  have k5 := fun v w => noStored_Acked v w
  have ky := fun v w => isAcked v w
  go_enter Try.func23, Try.ntmps23
  go_wp2_with fail
  refine bodyPost_ret (v := .agg #[.int .i64 10, .int .u64 (tr : Nat), .int .u64 0, .int .u64 0, .int .u64 0, .int .u64 0, .int .i64 0, .bool false, .slice none 0 0, .slice none 0 0, .slice A n c]) (by simp [results, Try.results23, go_sem]) rfl ⟨rfl, ?_⟩
  exact ((Below.refl _ _).alloc (Nat.le_refl _) _).alloc (by simp) _
end Go.Proofs.Ytnpbokbfkdncmaa
