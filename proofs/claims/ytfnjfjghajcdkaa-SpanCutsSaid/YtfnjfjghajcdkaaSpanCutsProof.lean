/-
  SpanCuts: of any bytes, at most 5000 (above it nothing is asked), the program's Cut answers what the reference's answers; no condition on the input.
  The frame round the walk is written by the guide's own program for this statement.
-/
import Derived.Test.YtfnjfjghajcdkaaRows
import Derived.Test.YtfnjfjghajcdkaaSpAlive
import Derived.Test.YtfnjfjghajcdkaaSame
import Derived.Test.YtfnjfjghajcdkaaSpCutAll
import Derived.Test.YtfnjfjghajcdkaaRefCutAll
import Derived.Test.YtfnjfjghajcdkaaSpanEq
import Derived.WalkKit
import Derived.ProofKit
import Derived.OpenShut
import Derived.ShutString
import Derived.ChangeOld
import Derived.Below
namespace Go.Proofs.Ytfnjfjghajcdkaa.spanCuts
open Go.ChangeShapes Go.WideShapes Go.ChangeAt Go.RowKit
open Go.ChangeMaps (open_string shut_string)
set_option linter.unusedVariables false

theorem own : ownKnob Try.prog.godebug = none := by kernel_rfl
theorem laidOut : laidOutB Try.prog = true := by kernel_rfl

/-- WHAT THE WALK IS TOLD OF A SLICE OF INTEGERS THAT CAME IN: it is nil; or it leads to a row of 'cap' cells, the numbers 'zs' (the first 'len' are its elements, the rest its spare room), each fitting its kind. -/
def IsRow (k : IntKind) (w : World) (a : Option Addr) (len cap : Nat) (zs : List Int) : Prop :=
  (a = none ∧ len = 0 ∧ cap = 0 ∧ zs = []) ∨
  ∃ x, a = some x ∧ len ≤ cap ∧ cap ≤ maxLen ∧ zs.length = cap ∧ (∀ i, i < zs.length → w.cell? (x.add i) = some (.int k (zs.getD i 0))) ∧ ∀ n ∈ zs, (Lit.int k n).wf = true

open Ru
set_option maxHeartbeats 2000000 in
theorem walk (a0 : Option Addr) (len0 cap0 : Nat) (z0 : List Int) (w : World) (w0 : IsRow .u8 w a0 len0 cap0 z0) :
    Calls Try.prog 6 #[.slice a0 len0 cap0] w fun e w' => e = .returned (.bool true) ∧ Below w.heap.size w w' := by
  obtain ⟨l0, hs0⟩ := sl_of_row w0
  have H0 := hid_ hs0
  have ha := hid_ (fun W => alive_any W)
  have kn := fun (a b : SpanD) (w : World) => span_eql a b w
  clear w0 hs0
  by_cases hb0 : 5000 < len0
  · have e1 : decide ((5000 : Int) < (len0 : Int)) = true := by simp; omega
    go_enter Try.func6, Try.ntmps6
    go_wp2_with fail
    refine (ha.out _).mono ?_
    rintro e w' ⟨rfl, hbel⟩
    go_wp2_with fail
    go_ret
    exact ⟨rfl, hbel⟩
  have e1 : decide ((5000 : Int) < (len0 : Int)) = false := by simp; omega
  have Hp := hid_ (cut_any a0 len0 cap0 l0 w H0.out (by omega))
  have Hq := hid_ (fun W (h : Below w.heap.size w W) => refcut_any a0 len0 cap0 l0 W (H0.out.below h))
  have hse := sameF_self (cutSpanF l0).2.1
  have hke : ((cutSpanF l0).1 == (cutSpanF l0).1) = true := by simp
  go_enter Try.func6, Try.ntmps6
  go_wp2_with fail
  refine Calls.mono Hp.out ?_
  rintro e w1 ⟨A1, n1, c1, rfl, hs1, hb1⟩
  have Hs1 := hid_ hs1
  have Hb1 := hid_ hb1
  clear hs1 hb1
  go_wp2_with fail
  refine Calls.mono (Hq.out _ (Hb1.out.alloc Hb1.out.size _)) ?_
  rintro e w2 ⟨A2, n2, c2, rfl, hs2, hb2⟩
  have Hx1 := hid_ ((box_new w1 (cutSpanF l0).2.1 28).below hb2 (by simp))
  have hz1 : w1.heap.size < w2.heap.size := by have := hb2.size; simp at this; omega
  have Hb2 := hid_ ((Hb1.out.alloc Hb1.out.size (.cells (spanCells (cutSpanF l0).2.1) 28)).trans (hb2.mono (by have := Hb1.out.size; simp; omega)))
  obtain rfl : n1 = n2 := by rw [← Hs1.out.len, ← hs2.len]
  have Hsm := hid_ (fun W (h : Below w2.heap.size w2 W) => same_below _ _ _ _ _ _ W (((Hs1.out.below ((Below.refl _ _).alloc (Nat.le_refl _) _)).below hb2).below h) (hs2.below h))
  clear hb2 hs2
  generalize (cutSpanF l0).2.1 = s at *
  generalize (cutSpanF l0).1 = K at *
  obtain ⟨x0, x1, x2, x3, x4, x5, x6, x7⟩ := Hx1.out
  go_wp2_with fail
  refine Calls.mono (Hsm.out _ ((Below.refl _ _).alloc (Nat.le_refl _) _)) ?_
  rintro e w3 ⟨rfl, hb3⟩
  have Hb3 := hid_ ((Hb2.out.alloc Hb2.out.size (.cells (spanCells s) 28)).trans (hb3.mono (by have := Hb2.out.size; simp; omega)))
  clear hb3 x0 x1 x2 x3 x4 x5 x6 x7
  go_wp2_with fail
  refine (ha.out _).mono ?_
  rintro e w4 ⟨rfl, hb4⟩
  go_wp2_with fail
  go_ret
  exact ⟨rfl, Hb3.out.trans (hb4.mono Hb3.out.size)⟩

set_option maxRecDepth 100000 in
theorem lifted (os : Os) (started : os.Started) (H : Type) (enc : TypeId × Value → H) :
    ReturnsInHanded {} Try.checked os 6 .any (Rows.spanCutsSpec.pre6 enc Try.prog Try.f6 Rows.spanCutsRow.domain false) (Rows.spanCutsSpec.post enc Try.prog Try.f6 false true false false) := by
  refine returnsInHanded_of_change (C := Try.checked) own started (by kernel_rfl) Try.func6
    (ChangeSpec.witness6 (enc := enc) (C := Try.checked) false ⟨#[], #[.slice none 0 0], []⟩ 8 (by kernel_rfl) (by kernel_rfl) (by kernel_rfl) (by kernel_rfl)) ?_
  intro W base args ds gs before hval0 hW hcnd _
  have hval : ∀ (j : Nat) t v, Try.f6.params[j]? = some t → args[j]? = some v → Value.okWide Try.prog W .any base t v := hval0
  have hW' := hW
  obtain ⟨p, q, hA0, hV, rfl, hfz, hnd⟩ := hW
  have hA : DataW.TrodAll enc Try.prog W 0 (fun _ => true) true Try.f6.params.toList args.toList ds p := hA0
  rw [Try.params6] at hA hval
  obtain ⟨v0, vs0, d0, ds0, p0, q0, hargs, rfl, rfl, h0, r0⟩ := trodAll_cons hA
  obtain ⟨rfl, rfl, rfl⟩ := trodAll_nil r0
  obtain rfl : args = #[v0] := by cases args; simp_all
  obtain ⟨rfl, rfl⟩ := trodVars_none hV
  obtain ⟨a0, len0, cap0, rfl⟩ := okWide_slice Try.underlying31 (hval 0 31 v0 rfl rfl)
  have k0 := h0
  have lt0 : ∀ x ∈ p0, x.block < W.heap.size := by obtain ⟨m, hm⟩ := k0; exact DataW.trod_lt m _ _ _ hm
  obtain ⟨z0, w0⟩ : ∃ zs, IsRow .u8 W a0 len0 cap0 zs := by
    obtain ⟨fuel, hf⟩ := h0
    rcases open_ints Try.underlying31 Try.underlying5 (by kernel_rfl) hf with ⟨hcs, _⟩ | ⟨x, l, c, zs, hcs, _, hl, hm, hz, _, hcell, hwz⟩
    · simp [Value.cells] at hcs
      obtain ⟨rfl, rfl, rfl⟩ := hcs
      exact ⟨[], .inl ⟨rfl, rfl, rfl, rfl⟩⟩
    · simp [Value.cells] at hcs
      obtain ⟨rfl, rfl, rfl⟩ := hcs
      exact ⟨zs, .inr ⟨_, rfl, hl, hm, by simpa using hz, hcell, hwz⟩⟩
  clear hA0 hval0
  refine (walk a0 len0 cap0 z0 W w0).mono fun e W' ⟨he, bel⟩ => ?_
  subst he
  exact ⟨_, rfl, _, _, _, [], _, [], hW', trodAll_mk1 (shut_bool Try.underlying4 _), (trodAll_cons_mk (Below.trod laidOut (by kernel_rfl) (of_decide_eq_true (by kernel_rfl)) k0 bel lt0) trodAll_mk0), rfl, bel.frame _, fun h => by cases h⟩

theorem over : Rows.spanCutsRow.holds Try.pinned (OpenSpec.ofChange Rows.spanCutsSpec) :=
  OpenClaim.holds_of_wide 6 Try.f6 rfl rfl rfl rfl rfl rfl rfl ⟨rfl, rfl, rfl, rfl, rfl⟩ rfl rfl rfl rfl rfl (by kernel_rfl) Try.func6 (by kernel_rfl)
    (of_decide_eq_true (by kernel_rfl)) (by unfold Func.isWrapper; first | (rw [if_pos (by decide +kernel)]; kernel_rfl) | (rw [if_neg (by decide +kernel)]; exact ⟨rfl, rfl⟩))
    (fun os started H enc _ => lifted os started H enc)

theorem proved : Rows.SpanCutsSaid := over
#print axioms proved
end Go.Proofs.Ytfnjfjghajcdkaa.spanCuts
