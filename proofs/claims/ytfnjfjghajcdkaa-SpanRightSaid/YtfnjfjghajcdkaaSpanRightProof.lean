/-
  SpanRight: of any span whose texts have at most 1000 bytes each (above it nothing is asked) the program's Right says what the reference's says; no condition on the input.
  The frame round the walk is written by the guide's own program for this statement.
-/
import Derived.Test.YtfnjfjghajcdkaaRows
import Derived.Test.YtfnjfjghajcdkaaBoxed
import Derived.WalkKit
import Derived.ProofKit
import Derived.OpenShut
import Derived.ShutString
import Derived.ChangeOld
import Derived.Below
namespace Go.Proofs.Ytfnjfjghajcdkaa.spanRight
open Go.ChangeShapes Go.WideShapes Go.ChangeAt Go.RowKit
open Go.ChangeMaps (open_string shut_string)
set_option linter.unusedVariables false

theorem own : ownKnob Try.prog.godebug = none := by kernel_rfl
theorem laidOut : laidOutB Try.prog = true := by kernel_rfl

/-- WHAT THE WALK IS TOLD OF A SLICE OF INTEGERS THAT CAME IN: it is nil; or it leads to a row of 'cap' cells, the numbers 'zs' (the first 'len' are its elements, the rest its spare room), each fitting its kind. -/
def IsRow (k : IntKind) (w : World) (a : Option Addr) (len cap : Nat) (zs : List Int) : Prop :=
  (a = none ∧ len = 0 ∧ cap = 0 ∧ zs = []) ∨
  ∃ x, a = some x ∧ len ≤ cap ∧ cap ≤ maxLen ∧ zs.length = cap ∧ (∀ i, i < zs.length → w.cell? (x.add i) = some (.int k (zs.getD i 0))) ∧ ∀ n ∈ zs, (Lit.int k n).wf = true

open Ru
attribute [local go_sem ↓] Go.wp_at_zero Go.wp_at_succ
set_option maxHeartbeats 2000000 in
theorem walk (v0 : Value) (w : World) (w0 : SpanV w v0) :
    Calls Try.prog 4 #[v0] w fun e w' => e = .returned (.bool true) ∧ Below w.heap.size w w' := by
  obtain ⟨s, hs, rfl⟩ := w0
  have ha := hid_ (fun W => alive_any W)
  have H1 := hid_ (fun W => right_any s W hs)
  have H2 := hid_ (fun W => refright_any s W hs)
  have ek : (rightF s == rightF s) = true := by simp
  have hS0 := hid_ (boxIn_of ((Below.refl w.heap.size w).alloc (Nat.le_refl _) (.cells (spanCells s) 28)) (box_new w s 28))
  have hz1 := hs.service
  have hz2 := hs.name
  clear hs
  by_cases hb0 : 1000 < s.name.size
  · have e2 : decide ((1000 : Int) < (s.name.size : Int)) = true := by simp; omega
    obtain ⟨_, _, x0, x1, x2, x3, x4, x5, x6, x7⟩ := hS0.out
    go_enter Try.func4, Try.ntmps4
    go_wp2_with fail
    go_quiet (fail)
    go_wp2_with fail
    go_ret
    exact ⟨rfl, below_drewN ((Below.refl _ _).alloc (Nat.le_refl _) _) _⟩
  have e2 : decide ((1000 : Int) < (s.name.size : Int)) = false := by simp; omega
  by_cases hb1 : 1000 < s.service.size
  · have e3 : decide ((1000 : Int) < (s.service.size : Int)) = true := by simp; omega
    obtain ⟨_, _, x0, x1, x2, x3, x4, x5, x6, x7⟩ := hS0.out
    go_enter Try.func4, Try.ntmps4
    go_wp2_with fail
    go_quiet (fail)
    go_wp2_with fail
    go_ret
    exact ⟨rfl, below_drewN ((Below.refl _ _).alloc (Nat.le_refl _) _) _⟩
  have e3 : decide ((1000 : Int) < (s.service.size : Int)) = false := by simp; omega
  have hS1 := hS0.out
  go_enter Try.func4, Try.ntmps4
  go_wp2_with fail
  go_region_held3 (BoxIn w w.heap.size s) (first | assumption | (refine boxIn_keep (by assumption) (by assumption)) | (refine boxIn_keep (by assumption) (Below.drew (Below.refl _ _))))
    (first
      | (go_at_call 15; (with_reducible refine Calls.mono (H1.out _) ?_); rintro e w' ⟨rfl, hb'⟩)
      | (go_at_call 16; (with_reducible refine Calls.mono (H2.out _) ?_); rintro e w' ⟨rfl, hb'⟩)
      | (go_at_call 14; (with_reducible refine Calls.mono (ha.out _) ?_); rintro e w' ⟨rfl, hb'⟩))
  all_goals
    go_wp2_with fail
    go_ret
    refine ⟨rfl, ?_⟩
    first | exact And.left (by assumption) | (refine And.left (b := _) (?_ : BoxIn w w.heap.size s _); assumption)

set_option maxRecDepth 100000 in
theorem lifted (os : Os) (started : os.Started) (H : Type) (enc : TypeId × Value → H) :
    ReturnsInHanded {} Try.checked os 4 .any (Rows.spanRightSpec.pre6 enc Try.prog Try.f4 Rows.spanRightRow.domain false) (Rows.spanRightSpec.post enc Try.prog Try.f4 false true false false) := by
  refine returnsInHanded_of_change (C := Try.checked) own started (by kernel_rfl) Try.func4
    (ChangeSpec.witness6 (enc := enc) (C := Try.checked) false ⟨#[], #[(.agg #[.int .u64 0, .int .u64 0, .int .u64 0, .int .u64 0, .int .u64 0, .string ⟨#[]⟩, .string ⟨#[]⟩, .bool false])], []⟩ 8 (by kernel_rfl) (by kernel_rfl) (by kernel_rfl) (by kernel_rfl)) ?_
  intro W base args ds gs before hval0 hW hcnd _
  have hval : ∀ (j : Nat) t v, Try.f4.params[j]? = some t → args[j]? = some v → Value.okWide Try.prog W .any base t v := hval0
  have hW' := hW
  obtain ⟨p, q, hA0, hV, rfl, hfz, hnd⟩ := hW
  have hA : DataW.TrodAll enc Try.prog W 0 (fun _ => true) true Try.f4.params.toList args.toList ds p := hA0
  rw [Try.params4] at hA hval
  obtain ⟨v0, vs0, d0, ds0, p0, q0, hargs, rfl, rfl, h0, r0⟩ := trodAll_cons hA
  obtain ⟨rfl, rfl, rfl⟩ := trodAll_nil r0
  obtain rfl : args = #[v0] := by cases args; simp_all
  obtain ⟨rfl, rfl⟩ := trodVars_none hV
  have k0 := h0
  have lt0 : ∀ x ∈ p0, x.block < W.heap.size := by obtain ⟨m, hm⟩ := k0; exact DataW.trod_lt m _ _ _ hm
  have w0 : SpanV W v0 := open_spanV (hval 0 28 v0 rfl rfl) h0
  clear hA0 hval0
  refine (walk v0 W w0).mono fun e W' ⟨he, bel⟩ => ?_
  subst he
  exact ⟨_, rfl, _, _, _, [], _, [], hW', trodAll_mk1 (shut_bool Try.underlying4 _), (trodAll_cons_mk (Below.trod laidOut (by kernel_rfl) (of_decide_eq_true (by kernel_rfl)) k0 bel lt0) trodAll_mk0), rfl, bel.frame _, fun h => by cases h⟩

theorem over : Rows.spanRightRow.holds Try.pinned (OpenSpec.ofChange Rows.spanRightSpec) :=
  OpenClaim.holds_of_wide 4 Try.f4 rfl rfl rfl rfl rfl rfl rfl ⟨rfl, rfl, rfl, rfl, rfl⟩ rfl rfl rfl rfl rfl (by kernel_rfl) Try.func4 (by kernel_rfl)
    (of_decide_eq_true (by kernel_rfl)) (by unfold Func.isWrapper; first | (rw [if_pos (by decide +kernel)]; kernel_rfl) | (rw [if_neg (by decide +kernel)]; exact ⟨rfl, rfl⟩))
    (fun os started H enc _ => lifted os started H enc)

theorem proved : Rows.SpanRightSaid := over
#print axioms proved
end Go.Proofs.Ytfnjfjghajcdkaa.spanRight
