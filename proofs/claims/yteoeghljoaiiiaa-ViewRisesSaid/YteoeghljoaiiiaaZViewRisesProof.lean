/-
  ViewRises: of whatever two views of at most 16 members the merged one has no lesser version than the first, and the same one only if it is the same; of other lists only the chapter's example is asked; no condition on the input.
  The frame round the walk is written by the guide's own program for this statement.
-/
import Derived.Test.YteoeghljoaiiiaaZVwBelow
import Derived.Test.YteoeghljoaiiiaaRows
import Derived.WalkKit
import Derived.ProofKit
import Derived.OpenShut
import Derived.ShutString
import Derived.ChangeOld
import Derived.Below
namespace Go.Proofs.Yteoeghljoaiiiaa.viewRises
set_option linter.unusedSimpArgs false
set_option linter.unusedVariables false
open Go.ChangeShapes Go.WideShapes Go.ChangeAt Go.RowKit
open Go.ChangeMaps (open_string shut_string)
set_option linter.unusedVariables false

theorem own : ownKnob Try.prog.godebug = none := by kernel_rfl
theorem laidOut : laidOutB Try.prog = true := by kernel_rfl

/-- WHAT THE WALK IS TOLD OF A SLICE OF INTEGERS THAT CAME IN: it is nil; or it leads to a row of 'cap' cells, the numbers 'zs' (the first 'len' are its elements, the rest its spare room), each fitting its kind. -/
def IsRow (k : IntKind) (w : World) (a : Option Addr) (len cap : Nat) (zs : List Int) : Prop :=
  (a = none ∧ len = 0 ∧ cap = 0 ∧ zs = []) ∨
  ∃ x, a = some x ∧ len ≤ cap ∧ cap ≤ maxLen ∧ zs.length = cap ∧ (∀ i, i < zs.length → w.cell? (x.add i) = some (.int k (zs.getD i 0))) ∧ ∀ n ∈ zs, (Lit.int k n).wf = true

open Ru Vw
theorem rises_kinds {a b r : List MemberD} {k : Int} (ha : rightV a = true) (hb : rightV b = true) (h : MergeIs a b r k) : (k = 4 ∧ r = []) ∨ (k = 0 ∧ IsMerge a b r ∧ r.length ≤ 16) := by
  rcases h with ⟨h1 | h1, _⟩ | ⟨_, _, mg, h1, h2⟩
  · rw [ha] at h1; cases h1
  · rw [hb] at h1; cases h1
  · rcases h2 with ⟨h2, h3, h4⟩ | ⟨h2, h3, h4⟩
    · exact .inl ⟨h4, h3⟩
    · subst h3
      exact .inr ⟨h4, h1, h2⟩
theorem versV_big {r : List MemberD} (h : rightV r = true) (h2 : ¬ versF r < 18446744073709551616) : versV r = (0, 12) := by
  unfold versV
  rw [if_pos h, if_neg h2]
theorem versV_small {r : List MemberD} (h : rightV r = true) (h2 : versF r < 18446744073709551616) : versV r = (versF r, 0) := by
  unfold versV
  rw [if_pos h, if_pos h2]
theorem vers_alike {a r : List MemberD} (h : versF a ≤ versF r ∧ (versF a = versF r → a = r)) : ((versF a : Int) == (versF r : Int)) = eqF sameM a r := by
  rw [Bool.eq_iff_iff, beq_iff_eq, eqM_iff]
  exact ⟨fun e => h.2 (by omega), fun e => by rw [e]⟩
set_option maxRecDepth 100000 in
set_option maxHeartbeats 16000000 in
theorem walk (v0 : Value) (v1 : Value) (w : World) (w0 : Vw.MemsV w v0) (w1 : Vw.MemsV w v1) :
    Calls Try.prog 14 #[v0, v1] w fun e w' => e = .returned (.bool true) ∧ Below w.heap.size w w' := by
  obtain ⟨A, n, c, a, rfl, ha, hwa⟩ := w0
  obtain ⟨A', n', c', b, rfl, hb, hwb⟩ := w1
  have HRr0 := hid_ (fun (W : World) (h : Below w.heap.size w W) => rright_any A n c a W (ha.below h))
  have HRr1 := hid_ (fun (W : World) (h : Below w.heap.size w W) => rright_any A' n' c' b W (hb.below h))
  have HMer := hid_ (fun (W : World) (h : Below w.heap.size w W) => merge_any A A' n n' c c' a b W (ha.below h) (hb.below h) hwa hwb)
  have HVa := hid_ (fun (W : World) (h : Below w.heap.size w W) => vvers_any A n c a W (ha.below h) hwa)
  have HWf := hid_ (And.intro hwa hwb)
  have HRa := hid_ ha
  clear ha hb hwa hwb
  by_cases hbig0 : 16 < n
  · have q0 : decide ((n : Int) > 16) = true := decide_eq_true (by omega)
    have r0 : decide ((16 : Int) < (n : Int)) = true := decide_eq_true (by omega)
    have s0 : decide (16 < n) = true := decide_eq_true hbig0
    clear hbig0
    go_enter Try.func14, Try.ntmps14
    go_wp2_with fail
    refine Calls.mono (valive_any _) ?_
    rintro e wz ⟨rfl, hbz⟩
    have HBz := hid_ hbz
    clear hbz
    go_wp2_with fail
    go_ret
    exact ⟨rfl, HBz.out⟩
  have q0 : decide ((n : Int) > 16) = false := decide_eq_false (by omega)
  have r0 : decide ((16 : Int) < (n : Int)) = false := decide_eq_false (by omega)
  have s0 : decide (16 < n) = false := decide_eq_false hbig0
  by_cases hbig1 : 16 < n'
  · have q1 : decide ((n' : Int) > 16) = true := decide_eq_true (by omega)
    have r1 : decide ((16 : Int) < (n' : Int)) = true := decide_eq_true (by omega)
    have s1 : decide (16 < n') = true := decide_eq_true hbig1
    clear hbig1
    go_enter Try.func14, Try.ntmps14
    go_wp2_with fail
    refine Calls.mono (valive_any _) ?_
    rintro e wz ⟨rfl, hbz⟩
    have HBz := hid_ hbz
    clear hbz
    go_wp2_with fail
    go_ret
    exact ⟨rfl, HBz.out⟩
  have q1 : decide ((n' : Int) > 16) = false := decide_eq_false (by omega)
  have r1 : decide ((16 : Int) < (n' : Int)) = false := decide_eq_false (by omega)
  have s1 : decide (16 < n') = false := decide_eq_false hbig1
  cases hra : rightV a
  · rw [hra] at HRr0
    unfold kindP at HRr0
    clear hra
    go_enter Try.func14, Try.ntmps14
    go_wp2_with fail
    refine Calls.mono (HRr0.out _ (Below.refl _ _)) ?_
    rintro e wr0 ⟨rfl, hbr0⟩
    have HBr0 := hid_ hbr0
    clear hbr0
    go_wp2_with fail
    refine Calls.mono (valive_any _) ?_
    rintro e wz ⟨rfl, hbz⟩
    have HBz := hid_ (HBr0.out.trans (hbz.mono HBr0.out.size))
    clear hbz
    go_wp2_with fail
    go_ret
    exact ⟨rfl, HBz.out⟩
  rw [hra] at HRr0
  unfold kindP at HRr0
  cases hrb : rightV b
  · rw [hrb] at HRr1
    unfold kindP at HRr1
    clear hra hrb
    go_enter Try.func14, Try.ntmps14
    go_wp2_with fail
    refine Calls.mono (HRr0.out _ (Below.refl _ _)) ?_
    rintro e wr0 ⟨rfl, hbr0⟩
    have HBr0 := hid_ hbr0
    clear hbr0
    go_wp2_with fail
    refine Calls.mono (HRr1.out _ HBr0.out) ?_
    rintro e wr1 ⟨rfl, hbr1⟩
    have HBr1 := hid_ (HBr0.out.trans (hbr1.mono HBr0.out.size))
    clear hbr1
    go_wp2_with fail
    refine Calls.mono (valive_any _) ?_
    rintro e wz ⟨rfl, hbz⟩
    have HBz := hid_ (HBr1.out.trans (hbz.mono HBr1.out.size))
    clear hbz
    go_wp2_with fail
    go_ret
    exact ⟨rfl, HBz.out⟩
  rw [hrb] at HRr1
  unfold kindP at HRr1
  have HRt := hid_ (And.intro hra hrb)
  clear hra hrb
  go_enter Try.func14, Try.ntmps14
  go_wp2_with fail
  refine Calls.mono (HRr0.out _ (Below.refl _ _)) ?_
  rintro e wr0 ⟨rfl, hbr0⟩
  have HBr0 := hid_ hbr0
  clear hbr0
  go_wp2_with fail
  refine Calls.mono (HRr1.out _ HBr0.out) ?_
  rintro e wr1 ⟨rfl, hbr1⟩
  have HBr1 := hid_ (HBr0.out.trans (hbr1.mono HBr0.out.size))
  clear hbr1
  go_wp2_with fail
  refine Calls.mono (HMer.out _ HBr1.out) ?_
  rintro e wmM ⟨AM, nM, cM, rM, kM, rfl, hrM, hiM, hbM⟩
  have HRM := hid_ hrM
  have HIM := hid_ hiM
  have HBM := hid_ (HBr1.out.trans (hbM.mono HBr1.out.size))
  clear hrM hiM
  rcases rises_kinds HRt.out.1 HRt.out.2 HIM.out with ⟨rfl, rfl⟩ | ⟨rfl, him, hlm⟩
  · clear hbM
    go_wp2_with fail
    refine Calls.mono (valive_any _) ?_
    rintro e wz ⟨rfl, hbz⟩
    have HBz := hid_ (HBM.out.trans (hbz.mono HBM.out.size))
    clear hbz
    go_wp2_with fail
    go_ret
    exact ⟨rfl, HBz.out⟩
  · have hrm := right_merged HRt.out.1 HRt.out.2 him hlm
    have hvm := vers_merged HRt.out.1 hrm him
    have hwm := merge_wf him HWf.out.1 HWf.out.2
    have HVm := hid_ (fun (W : World) (h : Below wmM.heap.size wmM W) => vvers_any AM nM cM rM W (HRM.out.below h) hwm)
    have HSm := hid_ (fun (W : World) (h : Below wmM.heap.size wmM W) => rsame_any A AM n nM c cM a rM W ((HRa.out.below HBM.out).below h) (HRM.out.below h))
    have hva := HVa.out wmM HBM.out
    by_cases hbig : versF rM < 18446744073709551616
    · have hba : versF a < 18446744073709551616 := by omega
      rw [versV_small hrm hbig] at HVm
      rw [versV_small HRt.out.1 hba] at hva
      have HVa2 := hid_ hva
      have e1 := vers_alike hvm
      have e2 : decide ((versF a : Int) ≤ (versF rM : Int)) = true := decide_eq_true (by omega)
      have e3 : decide (versF a ≤ versF rM) = true := decide_eq_true hvm.1
      have e4 : (versF a == versF rM) = eqF sameM a rM := by rw [← e1, Bool.eq_iff_iff, beq_iff_eq, beq_iff_eq]; omega
      have hle := hvm.1
      generalize versF a = va at *
      generalize versF rM = vm at *
      generalize eqF sameM a rM = sm at *
      have e5 : (sm == sm) = true := by simp
      clear hbM hva hvm hrm hwm him hbig hba
      go_wp2_with fail
      refine Calls.mono HVa2.out ?_
      rintro e wv1 ⟨rfl, hv1⟩
      have HC1 := hid_ hv1
      have HBv1 := hid_ (HBM.out.trans (hv1.mono HBM.out.size))
      clear hv1
      go_wp2_with fail
      refine Calls.mono (HVm.out _ HC1.out) ?_
      rintro e wv2 ⟨rfl, hv2⟩
      have HC2 := hid_ (HC1.out.trans (hv2.mono HC1.out.size))
      have HBv2 := hid_ (HBM.out.trans (HC2.out.mono HBM.out.size))
      clear hv2
      cases sm
      all_goals
        go_wp2_with fail
        refine Calls.mono (HSm.out _ HC2.out) ?_
        rintro e wv3 ⟨rfl, hv3⟩
        have HBv3 := hid_ (HBv2.out.trans (hv3.mono HBv2.out.size))
        clear hv3
        go_wp2_with fail
        refine Calls.mono (valive_any _) ?_
        rintro e wz ⟨rfl, hbz⟩
        have HBz := hid_ (HBv3.out.trans (hbz.mono HBv3.out.size))
        clear hbz
        go_wp2_with fail
        go_ret
        exact ⟨rfl, HBz.out⟩
    · rw [versV_big hrm hbig] at HVm
      have HVa2 := hid_ hva
      generalize versV a = va at *
      obtain ⟨va1, va2⟩ := va
      clear hbM hva hvm hrm hwm him hbig
      go_wp2_with fail
      refine Calls.mono HVa2.out ?_
      rintro e wv1 ⟨rfl, hv1⟩
      have HC1 := hid_ hv1
      have HBv1 := hid_ (HBM.out.trans (hv1.mono HBM.out.size))
      clear hv1
      go_wp2_with fail
      refine Calls.mono (HVm.out _ HC1.out) ?_
      rintro e wv2 ⟨rfl, hv2⟩
      have HC2 := hid_ (HC1.out.trans (hv2.mono HC1.out.size))
      have HBv2 := hid_ (HBM.out.trans (HC2.out.mono HBM.out.size))
      clear hv2
      go_wp2_with fail
      refine Calls.mono (valive_any _) ?_
      rintro e wz ⟨rfl, hbz⟩
      have HBz := hid_ (HBv2.out.trans (hbz.mono HBv2.out.size))
      clear hbz
      go_wp2_with fail
      go_ret
      exact ⟨rfl, HBz.out⟩

set_option maxRecDepth 100000 in
theorem lifted (os : Os) (started : os.Started) (H : Type) (enc : TypeId × Value → H) :
    ReturnsInHanded {} Try.checked os 14 .any (Rows.viewRisesSpec.pre6 enc Try.prog Try.f14 Rows.viewRisesRow.domain false) (Rows.viewRisesSpec.post enc Try.prog Try.f14 false true false false) := by
  refine returnsInHanded_of_change (C := Try.checked) own started (by kernel_rfl) Try.func14
    (ChangeSpec.witness6 (enc := enc) (C := Try.checked) false ⟨#[], #[.slice none 0 0, .slice none 0 0], []⟩ 8 (by kernel_rfl) (by kernel_rfl) (by kernel_rfl) (by kernel_rfl)) ?_
  intro W base args ds gs before hval0 hW hcnd _
  have hval : ∀ (j : Nat) t v, Try.f14.params[j]? = some t → args[j]? = some v → Value.okWide Try.prog W .any base t v := hval0
  have hW' := hW
  obtain ⟨p, q, hA0, hV, rfl, hfz, hnd⟩ := hW
  have hA : DataW.TrodAll enc Try.prog W 0 (fun _ => true) true Try.f14.params.toList args.toList ds p := hA0
  rw [Try.params14] at hA hval
  obtain ⟨v0, vs0, d0, ds0, p0, q0, hargs, rfl, rfl, h0, r0⟩ := trodAll_cons hA
  obtain ⟨v1, vs1, d1, ds1, p1, q1, rfl, rfl, rfl, h1, r1⟩ := trodAll_cons r0
  obtain ⟨rfl, rfl, rfl⟩ := trodAll_nil r1
  obtain rfl : args = #[v0, v1] := by cases args; simp_all
  obtain ⟨rfl, rfl⟩ := trodVars_none hV
  have k0 := h0
  have lt0 : ∀ x ∈ p0, x.block < W.heap.size := by obtain ⟨m, hm⟩ := k0; exact DataW.trod_lt m _ _ _ hm
  have w0 : Vw.MemsV W v0 := Vw.open_memsV (hval 0 77 v0 rfl rfl) h0
  have k1 := h1
  have lt1 : ∀ x ∈ p1, x.block < W.heap.size := by obtain ⟨m, hm⟩ := k1; exact DataW.trod_lt m _ _ _ hm
  have w1 : Vw.MemsV W v1 := Vw.open_memsV (hval 1 77 v1 rfl rfl) h1
  clear hA0 hval0
  refine (walk v0 v1 W w0 w1).mono fun e W' ⟨he, bel⟩ => ?_
  subst he
  exact ⟨_, rfl, _, _, _, [], _, [], hW', trodAll_mk1 (shut_bool Try.underlying4 _), (trodAll_cons_mk (Below.trod laidOut (by kernel_rfl) (of_decide_eq_true (by kernel_rfl)) k0 bel lt0) (trodAll_cons_mk (Below.trod laidOut (by kernel_rfl) (of_decide_eq_true (by kernel_rfl)) k1 bel lt1) trodAll_mk0)), rfl, bel.frame _, fun h => by cases h⟩

theorem over : Rows.viewRisesRow.holds Try.pinned (OpenSpec.ofChange Rows.viewRisesSpec) :=
  OpenClaim.holds_of_wide 14 Try.f14 rfl rfl rfl rfl rfl rfl rfl ⟨rfl, rfl, rfl, rfl, rfl⟩ rfl rfl rfl rfl rfl (by kernel_rfl) Try.func14 (by kernel_rfl)
    (of_decide_eq_true (by kernel_rfl)) (by unfold Func.isWrapper; first | (rw [if_pos (by decide +kernel)]; kernel_rfl) | (rw [if_neg (by decide +kernel)]; exact ⟨rfl, rfl⟩))
    (fun os started H enc _ => lifted os started H enc)

theorem proved : Rows.ViewRisesSaid := over
#print axioms proved
end Go.Proofs.Yteoeghljoaiiiaa.viewRises
