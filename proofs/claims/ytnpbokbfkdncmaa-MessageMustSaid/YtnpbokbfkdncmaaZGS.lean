/-
  What Of answers of a packet that is not right: nothing.
-/
import Derived.Test.YtnpbokbfkdncmaaZGA
import Derived.Test.YtnpbokbfkdncmaaZGL
import Derived.Test.YtnpbokbfkdncmaaZGM
import Derived.Test.YtnpbokbfkdncmaaZPacked
import Derived.Tactics
import Derived.Tactics2
import Derived.Defers
import Derived.Recover
import Derived.Laws.Pointers
import Derived.BigQuiet
import Derived.Laws.StructEq
namespace Go.Proofs.Ytnpbokbfkdncmaa
set_option linter.unusedSimpArgs false
set_option linter.unusedVariables false
open Go.RowKit Ru
set_option maxRecDepth 100000 in
set_option maxHeartbeats 4000000 in
theorem ofno_any (p : PackD) (s : PackS) (w : World) (hp : PackIn w p s) (hw : p.Wf) (hm : p.spans.length ≤ 1000000) (hr : rightP p = false) :
    Calls Try.prog 7 #[packVal p s] w fun e w' => e = .returned (.tuple #[.nilIface, .int .i64 6]) ∧ Below w.heap.size w w' := by
  have Ha := hid_ (show Below w.heap.size w (w.alloc (.cells (packCells p s) 30)) from (Below.refl _ _).alloc (Nat.le_refl _) _)
  have Hri := hid_ (fun (W : World) (hb : Below w.heap.size w W) => packright_any p s W (hp.below hb) hw hm)
  rw [hr, show kindP false = 6 from rfl] at Hri
  have e6 : ((6 : Int) != 0) = true := by decide
  clear hp hw hm hr
  go_enter Try.func7, Try.ntmps7
  go_wp2_with fail
  refine Calls.mono (Hri.out _ Ha.out) ?_
  rintro e w1 ⟨rfl, hb1⟩
  have Hb1 := hid_ (Ha.out.trans (hb1.mono Ha.out.size))
  clear hb1
  go_wp2_with fail
  go_ret2
  exact ⟨rfl, Hb1.out⟩
end Go.Proofs.Ytnpbokbfkdncmaa

/-
  Caught: what MustAsk answers of an Ask; of nothing, and of any other thing, it panics, and that is told.
-/
namespace Go.Proofs.Ytnpbokbfkdncmaa
set_option linter.unusedSimpArgs false
set_option linter.unusedVariables false
open Go.RowKit

theorem fall_panicking (p : Addr) (b : Bool) (u : TypeId) (pv : Value) (older : List PanicEntry) (w : World) (hc : w.cell? p = some (.bool b)) (hz : w.frozen? p = false) :
    CallsD Try.prog 40 #[.pointer (some p)] (.panicking ({ v := .iface u pv, recovered := false } :: older)) w fun e u' w' =>
      e = .returned (.tuple #[]) ∧ u' = .panicking ({ v := .iface u pv, recovered := true } :: older) ∧ w' = w.setCell p (.bool true) := by
  refine callsD_of_wpS Try.func40 rfl fun c₀ cs hu => ?_
  apply wpS_region
  simp [wpOpsS, go_sem, recoverD, hu, Try.ntmps40, Exit.thenS, hc, hz, bodyPostS, results, Try.results40]
theorem fall_idle (p : Addr) (b : Bool) (w : World) (hc : w.cell? p = some (.bool b)) (hz : w.frozen? p = false) :
    CallsD Try.prog 40 #[.pointer (some p)] .returning w fun e u' w' => e = .returned (.tuple #[]) ∧ u' = .returning ∧ w' = w.setCell p (.bool false) := by
  refine callsD_of_wpS Try.func40 rfl fun c₀ cs hu => ?_
  apply wpS_region
  simp [wpOpsS, go_sem, recoverD, hu, Try.ntmps40, Exit.thenS, hc, hz, bodyPostS, results, Try.results40]
  cases c₀
  simp_all
def FallsIn (w : World) (e : Ending) (w' : World) : Prop := ∃ u pv, e = .panicked [{ v := .iface u pv, recovered := false }] ∧ Below w.heap.size w w'
theorem fallsIn_mk {w w' : World} (u : TypeId) (pv : Value) (h : Below w.heap.size w w') : FallsIn w (.panicked [{ v := .iface u pv, recovered := false }]) w' := ⟨u, pv, rfl, h⟩
set_option maxRecDepth 100000 in
set_option maxHeartbeats 2000000 in
theorem mustask_any (tr bn bd : Nat) (v : Int) (w : World) :
    Calls Try.prog 13 #[vAsk tr bn bd v] w fun e w' => e = .returned (.agg #[.int .u64 (tr : Nat), .int .u64 (bn : Nat), .int .u64 (bd : Nat), .int .i64 v]) ∧ Below w.heap.size w w' := by
  have hta : ∀ (v : Value) (w : World), (Instr.typeAssert (.iface 49 v) 20 49 false).run Try.prog w = .ok v w := fun v w => by kernel_rfl
  go_enter Try.func13, Try.ntmps13
  go_wp2_with fail
  refine bodyPost_ret (v := .agg #[.int .u64 (tr : Nat), .int .u64 (bn : Nat), .int .u64 (bd : Nat), .int .i64 v]) (by simp [results, Try.results13, go_sem]) rfl ⟨rfl, ?_⟩
  exact (Below.refl _ _).alloc (Nat.le_refl _) _
set_option maxRecDepth 100000 in
set_option maxHeartbeats 2000000 in
theorem mustask_nil (w : World) : Calls Try.prog 13 #[.nilIface] w (FallsIn w) := by
  go_enter Try.func13, Try.ntmps13
  go_wp2_with fail
  refine ⟨rfl, fallsIn_mk _ _ ?_⟩
  exact (Below.refl _ _).alloc (Nat.le_refl _) _
set_option maxRecDepth 100000 in
set_option maxHeartbeats 2000000 in
theorem mustask_Spans (v : Value) (w : World) : Calls Try.prog 13 #[.iface 43 v] w (FallsIn w) := by
  have hta : ∀ (v : Value) (w : World), (Instr.typeAssert (.iface 43 v) 20 49 false).run Try.prog w = .halt (.panic (.iface 15 (.pointer (some ⟨w.heap.size, 0, none⟩)))) (w.alloc (.cells #[typeHandle Try.prog 20, typeHandle Try.prog 43, typeHandle Try.prog 49, strVal ""] 173)) := fun v w => by kernel_rfl
  go_enter Try.func13, Try.ntmps13
  go_wp2_with fail
  refine ⟨rfl, fallsIn_mk _ _ ?_⟩
  exact ((Below.refl _ _).alloc (Nat.le_refl _) _).alloc (by simp) _
set_option maxRecDepth 100000 in
set_option maxHeartbeats 2000000 in
theorem mustask_Members (v : Value) (w : World) : Calls Try.prog 13 #[.iface 46 v] w (FallsIn w) := by
  have hta : ∀ (v : Value) (w : World), (Instr.typeAssert (.iface 46 v) 20 49 false).run Try.prog w = .halt (.panic (.iface 15 (.pointer (some ⟨w.heap.size, 0, none⟩)))) (w.alloc (.cells #[typeHandle Try.prog 20, typeHandle Try.prog 46, typeHandle Try.prog 49, strVal ""] 173)) := fun v w => by kernel_rfl
  go_enter Try.func13, Try.ntmps13
  go_wp2_with fail
  refine ⟨rfl, fallsIn_mk _ _ ?_⟩
  exact ((Below.refl _ _).alloc (Nat.le_refl _) _).alloc (by simp) _
set_option maxRecDepth 100000 in
set_option maxHeartbeats 2000000 in
theorem mustask_Reply (v : Value) (w : World) : Calls Try.prog 13 #[.iface 52 v] w (FallsIn w) := by
  have hta : ∀ (v : Value) (w : World), (Instr.typeAssert (.iface 52 v) 20 49 false).run Try.prog w = .halt (.panic (.iface 15 (.pointer (some ⟨w.heap.size, 0, none⟩)))) (w.alloc (.cells #[typeHandle Try.prog 20, typeHandle Try.prog 52, typeHandle Try.prog 49, strVal ""] 173)) := fun v w => by kernel_rfl
  go_enter Try.func13, Try.ntmps13
  go_wp2_with fail
  refine ⟨rfl, fallsIn_mk _ _ ?_⟩
  exact ((Below.refl _ _).alloc (Nat.le_refl _) _).alloc (by simp) _
set_option maxRecDepth 100000 in
set_option maxHeartbeats 2000000 in
theorem mustask_Told (v : Value) (w : World) : Calls Try.prog 13 #[.iface 55 v] w (FallsIn w) := by
  have hta : ∀ (v : Value) (w : World), (Instr.typeAssert (.iface 55 v) 20 49 false).run Try.prog w = .halt (.panic (.iface 15 (.pointer (some ⟨w.heap.size, 0, none⟩)))) (w.alloc (.cells #[typeHandle Try.prog 20, typeHandle Try.prog 55, typeHandle Try.prog 49, strVal ""] 173)) := fun v w => by kernel_rfl
  go_enter Try.func13, Try.ntmps13
  go_wp2_with fail
  refine ⟨rfl, fallsIn_mk _ _ ?_⟩
  exact ((Below.refl _ _).alloc (Nat.le_refl _) _).alloc (by simp) _
set_option maxRecDepth 100000 in
set_option maxHeartbeats 2000000 in
theorem mustask_Stored (v : Value) (w : World) : Calls Try.prog 13 #[.iface 58 v] w (FallsIn w) := by
  have hta : ∀ (v : Value) (w : World), (Instr.typeAssert (.iface 58 v) 20 49 false).run Try.prog w = .halt (.panic (.iface 15 (.pointer (some ⟨w.heap.size, 0, none⟩)))) (w.alloc (.cells #[typeHandle Try.prog 20, typeHandle Try.prog 58, typeHandle Try.prog 49, strVal ""] 173)) := fun v w => by kernel_rfl
  go_enter Try.func13, Try.ntmps13
  go_wp2_with fail
  refine ⟨rfl, fallsIn_mk _ _ ?_⟩
  exact ((Below.refl _ _).alloc (Nat.le_refl _) _).alloc (by simp) _
set_option maxRecDepth 100000 in
set_option maxHeartbeats 2000000 in
theorem mustask_Acked (v : Value) (w : World) : Calls Try.prog 13 #[.iface 61 v] w (FallsIn w) := by
  have hta : ∀ (v : Value) (w : World), (Instr.typeAssert (.iface 61 v) 20 49 false).run Try.prog w = .halt (.panic (.iface 15 (.pointer (some ⟨w.heap.size, 0, none⟩)))) (w.alloc (.cells #[typeHandle Try.prog 20, typeHandle Try.prog 61, typeHandle Try.prog 49, strVal ""] 173)) := fun v w => by kernel_rfl
  go_enter Try.func13, Try.ntmps13
  go_wp2_with fail
  refine ⟨rfl, fallsIn_mk _ _ ?_⟩
  exact ((Below.refl _ _).alloc (Nat.le_refl _) _).alloc (by simp) _
set_option maxRecDepth 100000 in
set_option maxHeartbeats 2000000 in
theorem mustask_Ptr (v : Value) (w : World) : Calls Try.prog 13 #[.iface 65 v] w (FallsIn w) := by
  have hta : ∀ (v : Value) (w : World), (Instr.typeAssert (.iface 65 v) 20 49 false).run Try.prog w = .halt (.panic (.iface 15 (.pointer (some ⟨w.heap.size, 0, none⟩)))) (w.alloc (.cells #[typeHandle Try.prog 20, typeHandle Try.prog 65, typeHandle Try.prog 49, strVal ""] 173)) := fun v w => by kernel_rfl
  go_enter Try.func13, Try.ntmps13
  go_wp2_with fail
  refine ⟨rfl, fallsIn_mk _ _ ?_⟩
  exact ((Below.refl _ _).alloc (Nat.le_refl _) _).alloc (by simp) _
set_option maxRecDepth 100000 in
set_option maxHeartbeats 2000000 in
theorem caught_falls (m : Value) (hm : ∀ W, Calls Try.prog 13 #[m] W (FallsIn W)) (w : World) :
    Calls Try.prog 28 #[m] w fun e w' => e = .returned (.tuple #[zAsk, .bool true]) ∧ Below w.heap.size w w' := by
  have hmf : ∀ (fn : Fn) (first cap : Array Value) (w : World), (Instr.makeFunc fn first cap).run Try.prog w = .ok (.func fn first cap) w := fun _ _ _ _ => rfl
  have A0 := hid_ (show Whole ((w.alloc (.cells #[.int .u64 0, .int .u64 0, .int .u64 0, .int .i64 0] 49)).alloc (.cells #[.bool false] 4)) w.heap.size 49 #[.int .u64 0, .int .u64 0, .int .u64 0, .int .i64 0] from (whole_new w _ _).alloc _)
  have B0 := hid_ (show Whole ((w.alloc (.cells #[.int .u64 0, .int .u64 0, .int .u64 0, .int .i64 0] 49)).alloc (.cells #[.bool false] 4)) (w.heap.size + 1) 4 #[.bool false] from whole_at _ _ _ _ (by simp))
  have Ha := hid_ (show Below w.heap.size w ((w.alloc (.cells #[.int .u64 0, .int .u64 0, .int .u64 0, .int .i64 0] 49)).alloc (.cells #[.bool false] 4)) from ((Below.refl _ _).alloc (Nat.le_refl _) _).alloc (by simp) _)
  go_enter_defers Try.func28, Try.ntmps28
  go_wp2_with (refine Calls.mono (hm _) ?_; rintro e w1 ⟨u, pv, rfl, hb1⟩; have A1 := A0.out.below hb1 A0.out.lt; have B1 := B0.out.below hb1 B0.out.lt; have Hb1 := hid_ (Ha.out.trans (hb1.mono Ha.out.size)); clear hb1; have x0 := A1.cell 0 _ rfl; have x1 := A1.cell 1 _ rfl; have x2 := A1.cell 2 _ rfl; have x3 := A1.cell 3 _ rfl; have y0 := B1.cell 0 _ rfl; have fx := fun o => A1.free o; have fy := fun o => B1.free o)
  refine leaves_cons (f := 40) (args := #[.pointer (some ⟨w.heap.size + 1, 0, none⟩)]) (by simp) (by simp [go_sem]) ?_
  refine (fall_panicking ⟨w.heap.size + 1, 0, none⟩ false u pv [] _ ?_ ?_).mono ?_
  · exact y0
  · exact fy 0
  rintro e u' w'' ⟨rfl, rfl, rfl⟩
  have HF : Whole (w1.setCell ⟨w.heap.size + 1, 0, none⟩ (.bool true)) w.heap.size 49 #[.int .u64 0, .int .u64 0, .int .u64 0, .int .i64 0] ∧ Whole (w1.setCell ⟨w.heap.size + 1, 0, none⟩ (.bool true)) (w.heap.size + 1) 4 #[.bool true] ∧ Below w.heap.size w (w1.setCell ⟨w.heap.size + 1, 0, none⟩ (.bool true)) :=
    ⟨A1.far (p := ⟨w.heap.size + 1, 0, none⟩) (by simp) _, B1.store 0 _, Hb1.out.setCell (p := ⟨w.heap.size + 1, 0, none⟩) (Nat.le_succ _) _⟩
  clear x0 x1 x2 x3 y0 fx fy A1 B1
  generalize w1.setCell ⟨w.heap.size + 1, 0, none⟩ (.bool true) = W9 at HF ⊢
  obtain ⟨hA, hB, hb⟩ := HF
  have x0 := hA.cell 0 _ rfl
  have x1 := hA.cell 1 _ rfl
  have x2 := hA.cell 2 _ rfl
  have x3 := hA.cell 3 _ rfl
  have y0 := hB.cell 0 _ rfl
  simp [Leaves, settle, results, Try.results28, go_sem, x0, x1, x2, x3, y0]
  exact hb
set_option maxRecDepth 100000 in
set_option maxHeartbeats 2000000 in
theorem caught_ask (tr bn bd : Nat) (v : Int) (w : World) :
    Calls Try.prog 28 #[vAsk tr bn bd v] w fun e w' => e = .returned (.tuple #[.agg #[.int .u64 (tr : Nat), .int .u64 (bn : Nat), .int .u64 (bd : Nat), .int .i64 v], .bool false]) ∧ Below w.heap.size w w' := by
  have hmf : ∀ (fn : Fn) (first cap : Array Value) (w : World), (Instr.makeFunc fn first cap).run Try.prog w = .ok (.func fn first cap) w := fun _ _ _ _ => rfl
  have Hm := fun W => mustask_any tr bn bd v W
  have A0 := hid_ (show Whole ((w.alloc (.cells #[.int .u64 0, .int .u64 0, .int .u64 0, .int .i64 0] 49)).alloc (.cells #[.bool false] 4)) w.heap.size 49 #[.int .u64 0, .int .u64 0, .int .u64 0, .int .i64 0] from (whole_new w _ _).alloc _)
  have B0 := hid_ (show Whole ((w.alloc (.cells #[.int .u64 0, .int .u64 0, .int .u64 0, .int .i64 0] 49)).alloc (.cells #[.bool false] 4)) (w.heap.size + 1) 4 #[.bool false] from whole_at _ _ _ _ (by simp))
  have Ha := hid_ (show Below w.heap.size w ((w.alloc (.cells #[.int .u64 0, .int .u64 0, .int .u64 0, .int .i64 0] 49)).alloc (.cells #[.bool false] 4)) from ((Below.refl _ _).alloc (Nat.le_refl _) _).alloc (by simp) _)
  go_enter_defers Try.func28, Try.ntmps28
  go_wp2_with (refine Calls.mono (Hm _) ?_; rintro e w1 ⟨rfl, hb1⟩; have A1 := A0.out.below hb1 A0.out.lt; have B1 := B0.out.below hb1 B0.out.lt; have Hb1 := hid_ (Ha.out.trans (hb1.mono Ha.out.size)); clear hb1; have x0 := A1.cell 0 _ rfl; have x1 := A1.cell 1 _ rfl; have x2 := A1.cell 2 _ rfl; have x3 := A1.cell 3 _ rfl; have y0 := B1.cell 0 _ rfl; have fx := fun o => A1.free o; have fy := fun o => B1.free o)
  refine leaves_cons (f := 40) (args := #[.pointer (some ⟨w.heap.size + 1, 0, none⟩)]) (by simp) (by simp [go_sem]) ?_
  refine (fall_idle ⟨w.heap.size + 1, 0, none⟩ false _ ?_ ?_).mono ?_
  · simp [go_sem, y0, x0, x1, x2, x3, fx, fy]
  · simp [go_sem, fx, fy]
  rintro e u' w'' ⟨rfl, rfl, rfl⟩
  have HF : Whole ((((((w1.setCell ⟨w.heap.size, 0, none⟩ (.int .u64 (tr : Nat))).setCell ⟨w.heap.size, 1, none⟩ (.int .u64 (bn : Nat))).setCell ⟨w.heap.size, 2, none⟩ (.int .u64 (bd : Nat))).setCell ⟨w.heap.size, 3, none⟩ (.int .i64 v)).setCell ⟨w.heap.size + 1, 0, none⟩ (.bool false)).setCell ⟨w.heap.size + 1, 0, none⟩ (.bool false)) w.heap.size 49 #[.int .u64 (tr : Nat), .int .u64 (bn : Nat), .int .u64 (bd : Nat), .int .i64 v] ∧ Whole ((((((w1.setCell ⟨w.heap.size, 0, none⟩ (.int .u64 (tr : Nat))).setCell ⟨w.heap.size, 1, none⟩ (.int .u64 (bn : Nat))).setCell ⟨w.heap.size, 2, none⟩ (.int .u64 (bd : Nat))).setCell ⟨w.heap.size, 3, none⟩ (.int .i64 v)).setCell ⟨w.heap.size + 1, 0, none⟩ (.bool false)).setCell ⟨w.heap.size + 1, 0, none⟩ (.bool false)) (w.heap.size + 1) 4 #[.bool false] ∧ Below w.heap.size w ((((((w1.setCell ⟨w.heap.size, 0, none⟩ (.int .u64 (tr : Nat))).setCell ⟨w.heap.size, 1, none⟩ (.int .u64 (bn : Nat))).setCell ⟨w.heap.size, 2, none⟩ (.int .u64 (bd : Nat))).setCell ⟨w.heap.size, 3, none⟩ (.int .i64 v)).setCell ⟨w.heap.size + 1, 0, none⟩ (.bool false)).setCell ⟨w.heap.size + 1, 0, none⟩ (.bool false)) :=
    ⟨(((((A1.store 0 _).store 1 _).store 2 _).store 3 _).far (p := ⟨w.heap.size + 1, 0, none⟩) (by simp) _).far (p := ⟨w.heap.size + 1, 0, none⟩) (by simp) _,
     (((((B1.far (p := ⟨w.heap.size, 0, none⟩) (by simp) _).far (p := ⟨w.heap.size, 1, none⟩) (by simp) _).far (p := ⟨w.heap.size, 2, none⟩) (by simp) _).far (p := ⟨w.heap.size, 3, none⟩) (by simp) _).store 0 _).store 0 _,
     (((((Hb1.out.setCell (p := ⟨w.heap.size, 0, none⟩) (Nat.le_refl _) _).setCell (p := ⟨w.heap.size, 1, none⟩) (Nat.le_refl _) _).setCell (p := ⟨w.heap.size, 2, none⟩) (Nat.le_refl _) _).setCell (p := ⟨w.heap.size, 3, none⟩) (Nat.le_refl _) _).setCell (p := ⟨w.heap.size + 1, 0, none⟩) (Nat.le_succ _) _).setCell (p := ⟨w.heap.size + 1, 0, none⟩) (Nat.le_succ _) _⟩
  clear x0 x1 x2 x3 y0 fx fy A1 B1
  generalize ((((((w1.setCell ⟨w.heap.size, 0, none⟩ (.int .u64 (tr : Nat))).setCell ⟨w.heap.size, 1, none⟩ (.int .u64 (bn : Nat))).setCell ⟨w.heap.size, 2, none⟩ (.int .u64 (bd : Nat))).setCell ⟨w.heap.size, 3, none⟩ (.int .i64 v)).setCell ⟨w.heap.size + 1, 0, none⟩ (.bool false)).setCell ⟨w.heap.size + 1, 0, none⟩ (.bool false)) = W9 at HF ⊢
  obtain ⟨hA, hB, hb⟩ := HF
  have x0 := hA.cell 0 _ rfl
  have x1 := hA.cell 1 _ rfl
  have x2 := hA.cell 2 _ rfl
  have x3 := hA.cell 3 _ rfl
  have y0 := hB.cell 0 _ rfl
  simp [Leaves, settle, results, Try.results28, go_sem, x0, x1, x2, x3, y0]
  exact hb
set_option maxRecDepth 100000 in
set_option maxHeartbeats 2000000 in
theorem must_falls (m : Value) (hm : ∀ W, Calls Try.prog 13 #[m] W (FallsIn W)) (w : World) :
    Calls Try.prog 12 #[m] w fun e w' => e = .returned (.tuple #[.agg #[.int .u64 0, .int .u64 0, .int .u64 0, .int .i64 0], .bool false]) ∧ Below w.heap.size w w' := by
  have Hc := fun W => caught_falls m hm W
  have A0 := hid_ (show Whole (w.alloc (.cells #[.int .u64 0, .int .u64 0, .int .u64 0, .int .i64 0] 49)) w.heap.size 49 #[.int .u64 0, .int .u64 0, .int .u64 0, .int .i64 0] from whole_new w _ _)
  have Ha := hid_ (show Below w.heap.size w (w.alloc (.cells #[.int .u64 0, .int .u64 0, .int .u64 0, .int .i64 0] 49)) from (Below.refl _ _).alloc (Nat.le_refl _) _)
  go_enter Try.func12, Try.ntmps12
  go_wp2_with fail
  refine Calls.mono (Hc _) ?_
  rintro e w1 ⟨rfl, hb1⟩
  have A1 := A0.out.below hb1 A0.out.lt
  have Hb1 := hid_ (Ha.out.trans (hb1.mono Ha.out.size))
  clear hb1
  have x0 := A1.cell 0 _ rfl
  have x1 := A1.cell 1 _ rfl
  have x2 := A1.cell 2 _ rfl
  have x3 := A1.cell 3 _ rfl
  have fx := fun o => A1.free o
  have hlt := A1.lt
  have HF := hid_ (show Whole (((((w1.setCell ⟨w.heap.size, 0, none⟩ (.int .u64 0)).setCell ⟨w.heap.size, 1, none⟩ (.int .u64 0)).setCell ⟨w.heap.size, 2, none⟩ (.int .u64 0)).setCell ⟨w.heap.size, 3, none⟩ (.int .i64 0)).alloc (.cells #[.int .u64 0, .int .u64 0, .int .u64 0, .int .i64 0] 49)) w.heap.size 49 #[.int .u64 0, .int .u64 0, .int .u64 0, .int .i64 0] ∧ Below w.heap.size w (((((w1.setCell ⟨w.heap.size, 0, none⟩ (.int .u64 0)).setCell ⟨w.heap.size, 1, none⟩ (.int .u64 0)).setCell ⟨w.heap.size, 2, none⟩ (.int .u64 0)).setCell ⟨w.heap.size, 3, none⟩ (.int .i64 0)).alloc (.cells #[.int .u64 0, .int .u64 0, .int .u64 0, .int .i64 0] 49)) from
    ⟨((((A1.store 0 _).store 1 _).store 2 _).store 3 _).alloc _, ((((Hb1.out.setCell (p := ⟨w.heap.size, 0, none⟩) (Nat.le_refl _) _).setCell (p := ⟨w.heap.size, 1, none⟩) (Nat.le_refl _) _).setCell (p := ⟨w.heap.size, 2, none⟩) (Nat.le_refl _) _).setCell (p := ⟨w.heap.size, 3, none⟩) (Nat.le_refl _) _).alloc (by simp; omega) _⟩)
  clear A1 Hb1 A0 Ha
  go_wp2_with fail
  have HF2 := HF.out
  clear HF x0 x1 x2 x3 fx hlt
  generalize (((((w1.setCell ⟨w.heap.size, 0, none⟩ (.int .u64 0)).setCell ⟨w.heap.size, 1, none⟩ (.int .u64 0)).setCell ⟨w.heap.size, 2, none⟩ (.int .u64 0)).setCell ⟨w.heap.size, 3, none⟩ (.int .i64 0)).alloc (.cells #[.int .u64 0, .int .u64 0, .int .u64 0, .int .i64 0] 49)) = W9 at HF2 ⊢
  obtain ⟨hA, hb⟩ := HF2
  have x0 := hA.cell 0 _ rfl
  have x1 := hA.cell 1 _ rfl
  have x2 := hA.cell 2 _ rfl
  have x3 := hA.cell 3 _ rfl
  refine bodyPost_ret (v := .tuple #[.agg #[.int .u64 0, .int .u64 0, .int .u64 0, .int .i64 0], .bool false]) (by simp [results, Try.results12, go_sem, x0, x1, x2, x3]) rfl ⟨rfl, hb⟩
set_option maxRecDepth 100000 in
set_option maxHeartbeats 2000000 in
theorem must_ask (tr bn bd : Nat) (v : Int) (w : World) :
    Calls Try.prog 12 #[vAsk tr bn bd v] w fun e w' => e = .returned (.tuple #[.agg #[.int .u64 (tr : Nat), .int .u64 (bn : Nat), .int .u64 (bd : Nat), .int .i64 v], .bool true]) ∧ Below w.heap.size w w' := by
  have Hc := fun W => caught_ask tr bn bd v W
  have A0 := hid_ (show Whole (w.alloc (.cells #[.int .u64 0, .int .u64 0, .int .u64 0, .int .i64 0] 49)) w.heap.size 49 #[.int .u64 0, .int .u64 0, .int .u64 0, .int .i64 0] from whole_new w _ _)
  have Ha := hid_ (show Below w.heap.size w (w.alloc (.cells #[.int .u64 0, .int .u64 0, .int .u64 0, .int .i64 0] 49)) from (Below.refl _ _).alloc (Nat.le_refl _) _)
  go_enter Try.func12, Try.ntmps12
  go_wp2_with fail
  refine Calls.mono (Hc _) ?_
  rintro e w1 ⟨rfl, hb1⟩
  have A1 := A0.out.below hb1 A0.out.lt
  have Hb1 := hid_ (Ha.out.trans (hb1.mono Ha.out.size))
  clear hb1
  have x0 := A1.cell 0 _ rfl
  have x1 := A1.cell 1 _ rfl
  have x2 := A1.cell 2 _ rfl
  have x3 := A1.cell 3 _ rfl
  have fx := fun o => A1.free o
  have hlt := A1.lt
  have HF := hid_ (show Whole (((((w1.setCell ⟨w.heap.size, 0, none⟩ (.int .u64 (tr : Nat))).setCell ⟨w.heap.size, 1, none⟩ (.int .u64 (bn : Nat))).setCell ⟨w.heap.size, 2, none⟩ (.int .u64 (bd : Nat))).setCell ⟨w.heap.size, 3, none⟩ (.int .i64 v)).alloc (.cells #[.int .u64 (tr : Nat), .int .u64 (bn : Nat), .int .u64 (bd : Nat), .int .i64 v] 49)) w.heap.size 49 #[.int .u64 (tr : Nat), .int .u64 (bn : Nat), .int .u64 (bd : Nat), .int .i64 v] ∧ Below w.heap.size w (((((w1.setCell ⟨w.heap.size, 0, none⟩ (.int .u64 (tr : Nat))).setCell ⟨w.heap.size, 1, none⟩ (.int .u64 (bn : Nat))).setCell ⟨w.heap.size, 2, none⟩ (.int .u64 (bd : Nat))).setCell ⟨w.heap.size, 3, none⟩ (.int .i64 v)).alloc (.cells #[.int .u64 (tr : Nat), .int .u64 (bn : Nat), .int .u64 (bd : Nat), .int .i64 v] 49)) from
    ⟨((((A1.store 0 _).store 1 _).store 2 _).store 3 _).alloc _, ((((Hb1.out.setCell (p := ⟨w.heap.size, 0, none⟩) (Nat.le_refl _) _).setCell (p := ⟨w.heap.size, 1, none⟩) (Nat.le_refl _) _).setCell (p := ⟨w.heap.size, 2, none⟩) (Nat.le_refl _) _).setCell (p := ⟨w.heap.size, 3, none⟩) (Nat.le_refl _) _).alloc (by simp; omega) _⟩)
  clear A1 Hb1 A0 Ha
  go_wp2_with fail
  have HF2 := HF.out
  clear HF x0 x1 x2 x3 fx hlt
  generalize (((((w1.setCell ⟨w.heap.size, 0, none⟩ (.int .u64 (tr : Nat))).setCell ⟨w.heap.size, 1, none⟩ (.int .u64 (bn : Nat))).setCell ⟨w.heap.size, 2, none⟩ (.int .u64 (bd : Nat))).setCell ⟨w.heap.size, 3, none⟩ (.int .i64 v)).alloc (.cells #[.int .u64 (tr : Nat), .int .u64 (bn : Nat), .int .u64 (bd : Nat), .int .i64 v] 49)) = W9 at HF2 ⊢
  obtain ⟨hA, hb⟩ := HF2
  have x0 := hA.cell 0 _ rfl
  have x1 := hA.cell 1 _ rfl
  have x2 := hA.cell 2 _ rfl
  have x3 := hA.cell 3 _ rfl
  refine bodyPost_ret (v := .tuple #[.agg #[.int .u64 (tr : Nat), .int .u64 (bn : Nat), .int .u64 (bd : Nat), .int .i64 v], .bool true]) (by simp [results, Try.results12, go_sem, x0, x1, x2, x3]) rfl ⟨rfl, hb⟩
end Go.Proofs.Ytnpbokbfkdncmaa

/-
  What is no thing: packed, Packet and Trace of a number and of a pointer to an Ask.
-/
namespace Go.Proofs.Ytnpbokbfkdncmaa
set_option linter.unusedSimpArgs false
set_option linter.unusedVariables false
open Go.RowKit Ru
set_option maxRecDepth 100000 in
set_option maxHeartbeats 2000000 in
theorem pckInt_any (v : Value) (w : World) :
    Calls Try.prog 23 #[.iface 3 v] w fun e w' => e = .returned (.agg #[.int .i64 0, .int .u64 0, .int .u64 0, .int .u64 0, .int .u64 0, .int .u64 0, .int .i64 0, .bool false, .slice none 0 0, .slice none 0 0, .slice none 0 0]) ∧ Below w.heap.size w w' := by
  have k0 := fun v w => noSpans_Int v w
  have k1 := fun v w => noMembers_Int v w
  have k2 := fun v w => noAsk_Int v w
  have k3 := fun v w => noReply_Int v w
  have k4 := fun v w => noTold_Int v w
  have k5 := fun v w => noStored_Int v w
  have k6 := fun v w => noAcked_Int v w
  go_enter Try.func23, Try.ntmps23
  go_wp2_with fail
  refine bodyPost_ret (v := .agg #[.int .i64 0, .int .u64 0, .int .u64 0, .int .u64 0, .int .u64 0, .int .u64 0, .int .i64 0, .bool false, .slice none 0 0, .slice none 0 0, .slice none 0 0]) (by simp [results, Try.results23, go_sem]) rfl ⟨rfl, ?_⟩
  exact (Below.refl _ _).alloc (Nat.le_refl _) _
set_option maxRecDepth 100000 in
set_option maxHeartbeats 2000000 in
theorem pckPtr_any (v : Value) (w : World) :
    Calls Try.prog 23 #[.iface 65 v] w fun e w' => e = .returned (.agg #[.int .i64 0, .int .u64 0, .int .u64 0, .int .u64 0, .int .u64 0, .int .u64 0, .int .i64 0, .bool false, .slice none 0 0, .slice none 0 0, .slice none 0 0]) ∧ Below w.heap.size w w' := by
  have k0 := fun v w => noSpans_Ptr v w
  have k1 := fun v w => noMembers_Ptr v w
  have k2 := fun v w => noAsk_Ptr v w
  have k3 := fun v w => noReply_Ptr v w
  have k4 := fun v w => noTold_Ptr v w
  have k5 := fun v w => noStored_Ptr v w
  have k6 := fun v w => noAcked_Ptr v w
  go_enter Try.func23, Try.ntmps23
  go_wp2_with fail
  refine bodyPost_ret (v := .agg #[.int .i64 0, .int .u64 0, .int .u64 0, .int .u64 0, .int .u64 0, .int .u64 0, .int .i64 0, .bool false, .slice none 0 0, .slice none 0 0, .slice none 0 0]) (by simp [results, Try.results23, go_sem]) rfl ⟨rfl, ?_⟩
  exact (Below.refl _ _).alloc (Nat.le_refl _) _
set_option maxRecDepth 100000 in
set_option maxHeartbeats 2000000 in
theorem packetNo_any (V : Value) (hpk : ∀ W, Calls Try.prog 23 #[V] W fun e w' => e = .returned (.agg #[.int .i64 0, .int .u64 0, .int .u64 0, .int .u64 0, .int .u64 0, .int .u64 0, .int .i64 0, .bool false, .slice none 0 0, .slice none 0 0, .slice none 0 0]) ∧ Below W.heap.size W w') (w : World) :
    Calls Try.prog 9 #[V] w fun e w' => e = .returned (.tuple #[.agg #[.int .i64 0, .int .u64 0, .int .u64 0, .int .u64 0, .int .u64 0, .int .u64 0, .int .i64 0, .bool false, .slice none 0 0, .slice none 0 0, .slice none 0 0], .int .i64 6]) ∧ Below w.heap.size w w' := by
  have Hpk := hid_ hpk
  have Hri := hid_ (fun (W : World) => packright_any ⟨0, 0, 0, 0, 0, 0, 0, false, [], [], []⟩ ⟨none, 0, none, 0, none, 0⟩ W (packIn_none _ _ rfl rfl rfl) ⟨by decide, by decide, by decide, by decide, by decide, (fun _ h => by cases h), (fun _ h => by cases h), (fun _ h => by cases h)⟩ (by show ([] : List SpanD).length ≤ _; simp))
  rw [show rightP ⟨0, 0, 0, 0, 0, 0, 0, false, [], [], []⟩ = false from by kernel_rfl, show kindP false = 6 from rfl] at Hri
  have A0 := hid_ (show Whole (w.alloc (.cells #[.int .i64 0, .int .u64 0, .int .u64 0, .int .u64 0, .int .u64 0, .int .u64 0, .int .i64 0, .bool false, .slice none 0 0, .slice none 0 0, .slice none 0 0] 30)) w.heap.size 30 #[.int .i64 0, .int .u64 0, .int .u64 0, .int .u64 0, .int .u64 0, .int .u64 0, .int .i64 0, .bool false, .slice none 0 0, .slice none 0 0, .slice none 0 0] from whole_new w _ _)
  have Ha := hid_ (show Below w.heap.size w (w.alloc (.cells #[.int .i64 0, .int .u64 0, .int .u64 0, .int .u64 0, .int .u64 0, .int .u64 0, .int .i64 0, .bool false, .slice none 0 0, .slice none 0 0, .slice none 0 0] 30)) from (Below.refl _ _).alloc (Nat.le_refl _) _)
  clear hpk
  go_enter Try.func9, Try.ntmps9
  go_wp2_with fail
  refine Calls.mono (Hpk.out _) ?_
  rintro e w1 ⟨rfl, hb1⟩
  have Hb1 := hid_ ((Ha.out.trans (hb1.mono Ha.out.size)).alloc (by have := A0.out.lt; have := hb1.size; simp at this ⊢; omega) (.cells #[.int .i64 0, .int .u64 0, .int .u64 0, .int .u64 0, .int .u64 0, .int .u64 0, .int .i64 0, .bool false, .slice none 0 0, .slice none 0 0, .slice none 0 0] 30))
  have A1 := hid_ ((A0.out.below hb1 A0.out.lt).alloc (.cells #[.int .i64 0, .int .u64 0, .int .u64 0, .int .u64 0, .int .u64 0, .int .u64 0, .int .i64 0, .bool false, .slice none 0 0, .slice none 0 0, .slice none 0 0] 30))
  clear hb1
  go_wp2_with fail
  refine Calls.mono (Hri.out _) ?_
  rintro e w2 ⟨rfl, hb2⟩
  have Hb2 := hid_ (Hb1.out.trans (hb2.mono Hb1.out.size))
  have A2 := A1.out.below hb2 A1.out.lt
  clear hb2
  have e6 : ((6 : Int) != 0) = true := by decide
  have x0 := A2.cell 0 _ rfl
  have x1 := A2.cell 1 _ rfl
  have x2 := A2.cell 2 _ rfl
  have x3 := A2.cell 3 _ rfl
  have x4 := A2.cell 4 _ rfl
  have x5 := A2.cell 5 _ rfl
  have x6 := A2.cell 6 _ rfl
  have x7 := A2.cell 7 _ rfl
  have x8 := A2.cell 8 _ rfl
  have x9 := A2.cell 9 _ rfl
  have x10 := A2.cell 10 _ rfl
  have fx := fun o => A2.free o
  have hlt := A2.lt
  have HF := hid_ (show Whole (((((((((((w2.setCell ⟨w.heap.size, 0, none⟩ (.int .i64 0)).setCell ⟨w.heap.size, 1, none⟩ (.int .u64 0)).setCell ⟨w.heap.size, 2, none⟩ (.int .u64 0)).setCell ⟨w.heap.size, 3, none⟩ (.int .u64 0)).setCell ⟨w.heap.size, 4, none⟩ (.int .u64 0)).setCell ⟨w.heap.size, 5, none⟩ (.int .u64 0)).setCell ⟨w.heap.size, 6, none⟩ (.int .i64 0)).setCell ⟨w.heap.size, 7, none⟩ (.bool false)).setCell ⟨w.heap.size, 8, none⟩ (.slice none 0 0)).setCell ⟨w.heap.size, 9, none⟩ (.slice none 0 0)).setCell ⟨w.heap.size, 10, none⟩ (.slice none 0 0)) w.heap.size 30 #[.int .i64 0, .int .u64 0, .int .u64 0, .int .u64 0, .int .u64 0, .int .u64 0, .int .i64 0, .bool false, .slice none 0 0, .slice none 0 0, .slice none 0 0] ∧ Below w.heap.size w (((((((((((w2.setCell ⟨w.heap.size, 0, none⟩ (.int .i64 0)).setCell ⟨w.heap.size, 1, none⟩ (.int .u64 0)).setCell ⟨w.heap.size, 2, none⟩ (.int .u64 0)).setCell ⟨w.heap.size, 3, none⟩ (.int .u64 0)).setCell ⟨w.heap.size, 4, none⟩ (.int .u64 0)).setCell ⟨w.heap.size, 5, none⟩ (.int .u64 0)).setCell ⟨w.heap.size, 6, none⟩ (.int .i64 0)).setCell ⟨w.heap.size, 7, none⟩ (.bool false)).setCell ⟨w.heap.size, 8, none⟩ (.slice none 0 0)).setCell ⟨w.heap.size, 9, none⟩ (.slice none 0 0)).setCell ⟨w.heap.size, 10, none⟩ (.slice none 0 0)) from
    ⟨whole_11 A2 (.int .i64 0) (.int .u64 0) (.int .u64 0) (.int .u64 0) (.int .u64 0) (.int .u64 0) (.int .i64 0) (.bool false) (.slice none 0 0) (.slice none 0 0) (.slice none 0 0), below_11 Hb2.out (Nat.le_refl _) (.int .i64 0) (.int .u64 0) (.int .u64 0) (.int .u64 0) (.int .u64 0) (.int .u64 0) (.int .i64 0) (.bool false) (.slice none 0 0) (.slice none 0 0) (.slice none 0 0)⟩)
  clear A2 Hb2
  go_wp2_with fail
  have HF2 := HF.out
  clear HF x0 x1 x2 x3 x4 x5 x6 x7 x8 x9 x10 fx hlt
  generalize (((((((((((w2.setCell ⟨w.heap.size, 0, none⟩ (.int .i64 0)).setCell ⟨w.heap.size, 1, none⟩ (.int .u64 0)).setCell ⟨w.heap.size, 2, none⟩ (.int .u64 0)).setCell ⟨w.heap.size, 3, none⟩ (.int .u64 0)).setCell ⟨w.heap.size, 4, none⟩ (.int .u64 0)).setCell ⟨w.heap.size, 5, none⟩ (.int .u64 0)).setCell ⟨w.heap.size, 6, none⟩ (.int .i64 0)).setCell ⟨w.heap.size, 7, none⟩ (.bool false)).setCell ⟨w.heap.size, 8, none⟩ (.slice none 0 0)).setCell ⟨w.heap.size, 9, none⟩ (.slice none 0 0)).setCell ⟨w.heap.size, 10, none⟩ (.slice none 0 0)) = W9 at HF2 ⊢
  obtain ⟨hA, hb⟩ := HF2
  have x0 := hA.cell 0 _ rfl
  have x1 := hA.cell 1 _ rfl
  have x2 := hA.cell 2 _ rfl
  have x3 := hA.cell 3 _ rfl
  have x4 := hA.cell 4 _ rfl
  have x5 := hA.cell 5 _ rfl
  have x6 := hA.cell 6 _ rfl
  have x7 := hA.cell 7 _ rfl
  have x8 := hA.cell 8 _ rfl
  have x9 := hA.cell 9 _ rfl
  have x10 := hA.cell 10 _ rfl
  refine bodyPost_ret (v := .tuple #[.agg #[.int .i64 0, .int .u64 0, .int .u64 0, .int .u64 0, .int .u64 0, .int .u64 0, .int .i64 0, .bool false, .slice none 0 0, .slice none 0 0, .slice none 0 0], .int .i64 6]) (by simp [results, Try.results9, go_sem, x0, x1, x2, x3, x4, x5, x6, x7, x8, x9, x10]) rfl ⟨rfl, hb⟩
set_option maxRecDepth 100000 in
set_option maxHeartbeats 2000000 in
theorem traceInt_any (v : Value) (w : World) :
    Calls Try.prog 10 #[.iface 3 v] w fun e w' => e = .returned (.tuple #[.int .u64 0, .bool false]) ∧ Below w.heap.size w w' := by
  have k2 := fun v w => noMembers_Int v w
  have Hpk := hid_ (fun W => pckInt_any v W)
  have Ha := hid_ (show Below w.heap.size w (w.alloc (.cells #[.slice none 0 0] 46)) from (Below.refl _ _).alloc (Nat.le_refl _) _)
  go_enter Try.func10, Try.ntmps10
  go_wp2_with fail
  refine Calls.mono (Hpk.out _) ?_
  rintro e w1 ⟨rfl, hb1⟩
  have Hb1 := hid_ (Ha.out.trans (hb1.mono Ha.out.size))
  clear hb1
  go_wp2_with fail
  go_quiet (fail)
  go_wp2_with fail
  go_ret2
  exact ⟨rfl, below_drewN (Hb1.out.alloc Hb1.out.size _) _⟩
end Go.Proofs.Ytnpbokbfkdncmaa

/-
  An Ask is itself: what == and != answer.
-/
namespace Go.Proofs.Ytnpbokbfkdncmaa
set_option linter.unusedSimpArgs false
set_option linter.unusedVariables false
open Go.RowKit
set_option maxRecDepth 100000 in
theorem ballot_eqA (a b : Nat) (w : World) : (Op.equalIn 10000 24 (.agg #[.int .u64 (a : Nat), .int .u64 (b : Nat)]) (.agg #[.int .u64 (a : Nat), .int .u64 (b : Nat)])).run Try.prog w = .ok true w := by
  rw [run_equalIn_agg w 9999 24 _ _ (by kernel_rfl) (by kernel_rfl)]
  simp [Program.fieldsOf, Try.underlying24, Op.eqFields, part, go_sem]
set_option maxRecDepth 100000 in
theorem ballot_eqB (a b : Nat) (w : World) : (Op.equalIn 9999 24 (.agg #[.int .u64 (a : Nat), .int .u64 (b : Nat)]) (.agg #[.int .u64 (a : Nat), .int .u64 (b : Nat)])).run Try.prog w = .ok true w := by
  rw [run_equalIn_agg w 9998 24 _ _ (by kernel_rfl) (by kernel_rfl)]
  simp [Program.fieldsOf, Try.underlying24, Op.eqFields, part, go_sem]
theorem ballot_self (a b : Nat) (w : World) : (binOp .eql 24 (.agg #[.int .u64 (a : Nat), .int .u64 (b : Nat)]) (.agg #[.int .u64 (a : Nat), .int .u64 (b : Nat)])).run Try.prog w = .ok (.bool true) w := by
  rw [run_eql_struct, ballot_eqA]
  rfl
theorem ballot_nself (a b : Nat) (w : World) : (binOp .neq 24 (.agg #[.int .u64 (a : Nat), .int .u64 (b : Nat)]) (.agg #[.int .u64 (a : Nat), .int .u64 (b : Nat)])).run Try.prog w = .ok (.bool false) w := by
  rw [run_neq_struct, ballot_eqA]
  rfl
set_option maxRecDepth 100000 in
theorem ask_equalIn (tr bn bd : Nat) (v : Int) (w : World) : (Op.equalIn 10000 49 (.agg #[.int .u64 (tr : Nat), .int .u64 (bn : Nat), .int .u64 (bd : Nat), .int .i64 v]) (.agg #[.int .u64 (tr : Nat), .int .u64 (bn : Nat), .int .u64 (bd : Nat), .int .i64 v])).run Try.prog w = .ok true w := by
  rw [run_equalIn_agg w 9999 49 _ _ (by kernel_rfl) (by kernel_rfl)]
  have hb := fun a b w => ballot_eqB a b w
  simp [Program.fieldsOf, Try.underlying49, Op.eqFields, part, go_sem, hb]
theorem ask_self (tr bn bd : Nat) (v : Int) (w : World) : (binOp .eql 49 (.agg #[.int .u64 (tr : Nat), .int .u64 (bn : Nat), .int .u64 (bd : Nat), .int .i64 v]) (.agg #[.int .u64 (tr : Nat), .int .u64 (bn : Nat), .int .u64 (bd : Nat), .int .i64 v])).run Try.prog w = .ok (.bool true) w := by
  rw [run_eql_struct, ask_equalIn]
  rfl
theorem ask_nself (tr bn bd : Nat) (v : Int) (w : World) : (binOp .neq 49 (.agg #[.int .u64 (tr : Nat), .int .u64 (bn : Nat), .int .u64 (bd : Nat), .int .i64 v]) (.agg #[.int .u64 (tr : Nat), .int .u64 (bn : Nat), .int .u64 (bd : Nat), .int .i64 v])).run Try.prog w = .ok (.bool false) w := by
  rw [run_neq_struct, ask_equalIn]
  rfl
theorem zask_self (w : World) : (binOp .eql 49 zAsk zAsk).run Try.prog w = .ok (.bool true) w := ask_self 0 0 0 0 w
theorem zask_nself (w : World) : (binOp .neq 49 zAsk zAsk).run Try.prog w = .ok (.bool false) w := ask_nself 0 0 0 0 w
end Go.Proofs.Ytnpbokbfkdncmaa
