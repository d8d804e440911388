/-
  ViewMerges: of whatever two lists of at most 200 members (of longer ones only the chapter's example is asked) the program's Merge answers the list and the kind that the document's does; no condition on the input.
  The frame round the walk is written by the guide's own program for this statement.
-/
import Derived.Test.YteoeghljoaiiiaaZViewOpen
import Derived.Test.YteoeghljoaiiiaaRows
import Derived.WalkKit
import Derived.ProofKit
import Derived.OpenShut
import Derived.ShutString
import Derived.ChangeOld
import Derived.Below
namespace Go.Proofs.Yteoeghljoaiiiaa.viewMerges
set_option linter.unusedSimpArgs false
set_option linter.unusedVariables false
open Go.ChangeShapes Go.WideShapes Go.ChangeAt Go.RowKit
open Go.ChangeMaps (open_string shut_string)
set_option linter.unusedVariables false

theorem own : ownKnob Try.prog.godebug = none := by kernel_rfl
theorem laidOut : laidOutB Try.prog = true := by kernel_rfl

/-- WHAT THE WALK IS TOLD OF A SLICE OF INTEGERS THAT CAME IN: it is nil; or it leads to a row of 'cap' cells, the numbers 'zs' (the first 'len' are its elements, the rest its spare room), each fitting its kind. -/
def IsRow (k : IntKind) (w : World) (a : Option Addr) (len cap : Nat) (zs : List Int) : Prop :=
  (a = none ∧ len = 0 ∧ cap = 0 ∧ zs = []) ∨
  ∃ x, a = some x ∧ len ≤ cap ∧ cap ≤ maxLen ∧ zs.length = cap ∧ (∀ i, i < zs.length → w.cell? (x.add i) = some (.int k (zs.getD i 0))) ∧ ∀ n ∈ zs, (Lit.int k n).wf = true

open Ru Vw
set_option maxRecDepth 100000 in
set_option maxHeartbeats 16000000 in
theorem walk (v0 : Value) (v1 : Value) (w : World) (w0 : Vw.MemsV w v0) (w1 : Vw.MemsV w v1) :
    Calls Try.prog 11 #[v0, v1] w fun e w' => e = .returned (.bool true) ∧ Below w.heap.size w w' := by
  obtain ⟨A, n, c, a, rfl, ha, hwa⟩ := w0
  obtain ⟨A', n', c', b, rfl, hb, hwb⟩ := w1
  have Ha := hid_ ha
  have Hb := hid_ hb
  have HM1 := hid_ (merge_any A A' n n' c c' a b w ha hb hwa hwb)
  have HM2 := hid_ (fun (W : World) (h : Below w.heap.size w W) => rmerge_any A A' n n' c c' a b W (ha.below h) (hb.below h))
  clear ha hb hwa hwb
  by_cases hbig0 : 200 < n
  · have q0 : decide ((n : Int) > 200) = true := decide_eq_true (by omega)
    have r0 : decide ((200 : Int) < (n : Int)) = true := decide_eq_true (by omega)
    have s0 : decide (200 < n) = true := decide_eq_true hbig0
    clear hbig0
    go_enter Try.func11, Try.ntmps11
    go_wp2_with fail
    refine Calls.mono (valive_any _) ?_
    rintro e wz ⟨rfl, hbz⟩
    have HBz := hid_ hbz
    clear hbz
    go_wp2_with fail
    go_ret
    exact ⟨rfl, HBz.out⟩
  have q0 : decide ((n : Int) > 200) = false := decide_eq_false (by omega)
  have r0 : decide ((200 : Int) < (n : Int)) = false := decide_eq_false (by omega)
  have s0 : decide (200 < n) = false := decide_eq_false hbig0
  by_cases hbig1 : 200 < n'
  · have q1 : decide ((n' : Int) > 200) = true := decide_eq_true (by omega)
    have r1 : decide ((200 : Int) < (n' : Int)) = true := decide_eq_true (by omega)
    have s1 : decide (200 < n') = true := decide_eq_true hbig1
    clear hbig1
    go_enter Try.func11, Try.ntmps11
    go_wp2_with fail
    refine Calls.mono (valive_any _) ?_
    rintro e wz ⟨rfl, hbz⟩
    have HBz := hid_ hbz
    clear hbz
    go_wp2_with fail
    go_ret
    exact ⟨rfl, HBz.out⟩
  have q1 : decide ((n' : Int) > 200) = false := decide_eq_false (by omega)
  have r1 : decide ((200 : Int) < (n' : Int)) = false := decide_eq_false (by omega)
  have s1 : decide (200 < n') = false := decide_eq_false hbig1
  go_enter Try.func11, Try.ntmps11
  go_wp2_with fail
  refine Calls.mono HM1.out ?_
  rintro e w1 ⟨A1, n1, c1, r, k, rfl, hr, hi, hb1⟩
  have HR1 := hid_ hr
  have HI1 := hid_ hi
  have HB1 := hid_ hb1
  clear hr hi hb1
  go_wp2_with fail
  refine Calls.mono (HM2.out _ HB1.out) ?_
  rintro e w2 ⟨A2, n2, c2, r', k', rfl, hr, hi, hb2⟩
  obtain ⟨rfl, rfl⟩ := mergeIs_one hi HI1.out
  have HR2 := hid_ hr
  have HB2 := hid_ (HB1.out.trans (hb2.mono HB1.out.size))
  have HS := hid_ (fun (W : World) (h : Below w2.heap.size w2 W) => rsame_any A1 A2 n1 n2 c1 c2 r' r' W ((HR1.out.below hb2).below h) (HR2.out.below h))
  rw [eqM_self] at HS
  have hkk : (k' == k') = true := by simp
  clear hr hi hb2
  go_wp2_with fail
  refine Calls.mono (HS.out _ (Below.refl _ _)) ?_
  rintro e w3 ⟨rfl, hb3⟩
  have HB3 := hid_ (HB2.out.trans (hb3.mono HB2.out.size))
  clear hb3
  go_wp2_with fail
  refine Calls.mono (valive_any _) ?_
  rintro e wz ⟨rfl, hbz⟩
  have HBz := hid_ (HB3.out.trans (hbz.mono HB3.out.size))
  clear hbz
  go_wp2_with fail
  go_ret
  exact ⟨rfl, HBz.out⟩

set_option maxRecDepth 100000 in
theorem lifted (os : Os) (started : os.Started) (H : Type) (enc : TypeId × Value → H) :
    ReturnsInHanded {} Try.checked os 11 .any (Rows.viewMergesSpec.pre6 enc Try.prog Try.f11 Rows.viewMergesRow.domain false) (Rows.viewMergesSpec.post enc Try.prog Try.f11 false true false false) := by
  refine returnsInHanded_of_change (C := Try.checked) own started (by kernel_rfl) Try.func11
    (ChangeSpec.witness6 (enc := enc) (C := Try.checked) false ⟨#[], #[.slice none 0 0, .slice none 0 0], []⟩ 8 (by kernel_rfl) (by kernel_rfl) (by kernel_rfl) (by kernel_rfl)) ?_
  intro W base args ds gs before hval0 hW hcnd _
  have hval : ∀ (j : Nat) t v, Try.f11.params[j]? = some t → args[j]? = some v → Value.okWide Try.prog W .any base t v := hval0
  have hW' := hW
  obtain ⟨p, q, hA0, hV, rfl, hfz, hnd⟩ := hW
  have hA : DataW.TrodAll enc Try.prog W 0 (fun _ => true) true Try.f11.params.toList args.toList ds p := hA0
  rw [Try.params11] at hA hval
  obtain ⟨v0, vs0, d0, ds0, p0, q0, hargs, rfl, rfl, h0, r0⟩ := trodAll_cons hA
  obtain ⟨v1, vs1, d1, ds1, p1, q1, rfl, rfl, rfl, h1, r1⟩ := trodAll_cons r0
  obtain ⟨rfl, rfl, rfl⟩ := trodAll_nil r1
  obtain rfl : args = #[v0, v1] := by cases args; simp_all
  obtain ⟨rfl, rfl⟩ := trodVars_none hV
  have k0 := h0
  have lt0 : ∀ x ∈ p0, x.block < W.heap.size := by obtain ⟨m, hm⟩ := k0; exact DataW.trod_lt m _ _ _ hm
  have w0 : Vw.MemsV W v0 := Vw.open_memsV (hval 0 77 v0 rfl rfl) h0
  have k1 := h1
  have lt1 : ∀ x ∈ p1, x.block < W.heap.size := by obtain ⟨m, hm⟩ := k1; exact DataW.trod_lt m _ _ _ hm
  have w1 : Vw.MemsV W v1 := Vw.open_memsV (hval 1 77 v1 rfl rfl) h1
  clear hA0 hval0
  refine (walk v0 v1 W w0 w1).mono fun e W' ⟨he, bel⟩ => ?_
  subst he
  exact ⟨_, rfl, _, _, _, [], _, [], hW', trodAll_mk1 (shut_bool Try.underlying4 _), (trodAll_cons_mk (Below.trod laidOut (by kernel_rfl) (of_decide_eq_true (by kernel_rfl)) k0 bel lt0) (trodAll_cons_mk (Below.trod laidOut (by kernel_rfl) (of_decide_eq_true (by kernel_rfl)) k1 bel lt1) trodAll_mk0)), rfl, bel.frame _, fun h => by cases h⟩

theorem over : Rows.viewMergesRow.holds Try.pinned (OpenSpec.ofChange Rows.viewMergesSpec) :=
  OpenClaim.holds_of_wide 11 Try.f11 rfl rfl rfl rfl rfl rfl rfl ⟨rfl, rfl, rfl, rfl, rfl⟩ rfl rfl rfl rfl rfl (by kernel_rfl) Try.func11 (by kernel_rfl)
    (of_decide_eq_true (by kernel_rfl)) (by unfold Func.isWrapper; first | (rw [if_pos (by decide +kernel)]; kernel_rfl) | (rw [if_neg (by decide +kernel)]; exact ⟨rfl, rfl⟩))
    (fun os started H enc _ => lifted os started H enc)

theorem proved : Rows.ViewMergesSaid := over
#print axioms proved
end Go.Proofs.Yteoeghljoaiiiaa.viewMerges
