/-
  ViewVersions: of whatever list of at most 200 members (of longer ones only the chapter's example is asked) the program's Version and Live answer what the document's do; no condition on the input.
  The frame round the walk is written by the guide's own program for this statement.
-/
import Derived.Test.YteoeghljoaiiiaaZViewOpen
import Derived.Test.YteoeghljoaiiiaaRows
import Derived.WalkKit
import Derived.ProofKit
import Derived.OpenShut
import Derived.ShutString
import Derived.ChangeOld
import Derived.Below
namespace Go.Proofs.Yteoeghljoaiiiaa.viewVersions
set_option linter.unusedSimpArgs false
set_option linter.unusedVariables false
open Go.ChangeShapes Go.WideShapes Go.ChangeAt Go.RowKit
open Go.ChangeMaps (open_string shut_string)
set_option linter.unusedVariables false

theorem own : ownKnob Try.prog.godebug = none := by kernel_rfl
theorem laidOut : laidOutB Try.prog = true := by kernel_rfl

/-- WHAT THE WALK IS TOLD OF A SLICE OF INTEGERS THAT CAME IN: it is nil; or it leads to a row of 'cap' cells, the numbers 'zs' (the first 'len' are its elements, the rest its spare room), each fitting its kind. -/
def IsRow (k : IntKind) (w : World) (a : Option Addr) (len cap : Nat) (zs : List Int) : Prop :=
  (a = none ∧ len = 0 ∧ cap = 0 ∧ zs = []) ∨
  ∃ x, a = some x ∧ len ≤ cap ∧ cap ≤ maxLen ∧ zs.length = cap ∧ (∀ i, i < zs.length → w.cell? (x.add i) = some (.int k (zs.getD i 0))) ∧ ∀ n ∈ zs, (Lit.int k n).wf = true

open Ru Vw
set_option maxRecDepth 100000 in
set_option maxHeartbeats 16000000 in
theorem walk (v0 : Value) (w : World) (w0 : Vw.MemsV w v0) :
    Calls Try.prog 12 #[v0] w fun e w' => e = .returned (.bool true) ∧ Below w.heap.size w w' := by
  obtain ⟨A, n, c, a, rfl, ha, hwa⟩ := w0
  have HV1 := hid_ (vvers_any A n c a w ha hwa)
  have HV2 := hid_ (fun (W : World) (h : Below w.heap.size w W) => rvers_any A n c a W (ha.below h) hwa)
  have HL1 := hid_ (fun (W : World) (h : Below w.heap.size w W) => vlive_any A n c a W (ha.below h) hwa)
  have HL2 := hid_ (fun (W : World) (h : Below w.heap.size w W) => rlive_any A n c a W (ha.below h))
  generalize versV a = ver at *
  generalize liveV a = liv at *
  obtain ⟨vn, vk⟩ := ver
  clear ha hwa
  by_cases hbig0 : 200 < n
  · have q0 : decide ((n : Int) > 200) = true := decide_eq_true (by omega)
    have r0 : decide ((200 : Int) < (n : Int)) = true := decide_eq_true (by omega)
    have s0 : decide (200 < n) = true := decide_eq_true hbig0
    clear hbig0
    go_enter Try.func12, Try.ntmps12
    go_wp2_with fail
    refine Calls.mono (valive_any _) ?_
    rintro e wz ⟨rfl, hbz⟩
    have HBz := hid_ hbz
    clear hbz
    go_wp2_with fail
    go_ret
    exact ⟨rfl, HBz.out⟩
  have q0 : decide ((n : Int) > 200) = false := decide_eq_false (by omega)
  have r0 : decide ((200 : Int) < (n : Int)) = false := decide_eq_false (by omega)
  have s0 : decide (200 < n) = false := decide_eq_false hbig0
  go_enter Try.func12, Try.ntmps12
  have k1 : ((vn : Int) == (vn : Int)) = true := by simp
  have k2 : (vk == vk) = true := by simp
  go_wp2_with fail
  refine Calls.mono HV1.out ?_
  rintro e w1 ⟨rfl, hb1⟩
  have HB1 := hid_ hb1
  clear hb1
  go_wp2_with fail
  refine Calls.mono (HV2.out _ HB1.out) ?_
  rintro e w2 ⟨rfl, hb2⟩
  have HB2 := hid_ (HB1.out.trans (hb2.mono HB1.out.size))
  clear hb2
  go_wp2_with fail
  refine Calls.mono (HL1.out _ HB2.out) ?_
  rintro e w3 ⟨A3, n3, c3, rfl, hr3, hb3⟩
  have HR3 := hid_ hr3
  have HB3 := hid_ (HB2.out.trans (hb3.mono HB2.out.size))
  clear hr3 hb3
  go_wp2_with fail
  refine Calls.mono (HL2.out _ HB3.out) ?_
  rintro e w4 ⟨A4, n4, c4, rfl, hr4, hb4⟩
  have HU := hid_ (uints_any A3 A4 n3 n4 c3 c4 liv liv w4 (HR3.out.below hb4) hr4)
  rw [(eqU_iff liv liv).2 rfl] at HU
  have HB4 := hid_ (HB3.out.trans (hb4.mono HB3.out.size))
  clear hr4 hb4
  go_wp2_with fail
  refine Calls.mono HU.out ?_
  rintro e w5 ⟨rfl, hb5⟩
  have HB5 := hid_ (HB4.out.trans (hb5.mono HB4.out.size))
  clear hb5
  go_wp2_with fail
  refine Calls.mono (valive_any _) ?_
  rintro e wz ⟨rfl, hbz⟩
  have HBz := hid_ (HB5.out.trans (hbz.mono HB5.out.size))
  clear hbz
  go_wp2_with fail
  go_ret
  exact ⟨rfl, HBz.out⟩

set_option maxRecDepth 100000 in
theorem lifted (os : Os) (started : os.Started) (H : Type) (enc : TypeId × Value → H) :
    ReturnsInHanded {} Try.checked os 12 .any (Rows.viewVersionsSpec.pre6 enc Try.prog Try.f12 Rows.viewVersionsRow.domain false) (Rows.viewVersionsSpec.post enc Try.prog Try.f12 false true false false) := by
  refine returnsInHanded_of_change (C := Try.checked) own started (by kernel_rfl) Try.func12
    (ChangeSpec.witness6 (enc := enc) (C := Try.checked) false ⟨#[], #[.slice none 0 0], []⟩ 8 (by kernel_rfl) (by kernel_rfl) (by kernel_rfl) (by kernel_rfl)) ?_
  intro W base args ds gs before hval0 hW hcnd _
  have hval : ∀ (j : Nat) t v, Try.f12.params[j]? = some t → args[j]? = some v → Value.okWide Try.prog W .any base t v := hval0
  have hW' := hW
  obtain ⟨p, q, hA0, hV, rfl, hfz, hnd⟩ := hW
  have hA : DataW.TrodAll enc Try.prog W 0 (fun _ => true) true Try.f12.params.toList args.toList ds p := hA0
  rw [Try.params12] at hA hval
  obtain ⟨v0, vs0, d0, ds0, p0, q0, hargs, rfl, rfl, h0, r0⟩ := trodAll_cons hA
  obtain ⟨rfl, rfl, rfl⟩ := trodAll_nil r0
  obtain rfl : args = #[v0] := by cases args; simp_all
  obtain ⟨rfl, rfl⟩ := trodVars_none hV
  have k0 := h0
  have lt0 : ∀ x ∈ p0, x.block < W.heap.size := by obtain ⟨m, hm⟩ := k0; exact DataW.trod_lt m _ _ _ hm
  have w0 : Vw.MemsV W v0 := Vw.open_memsV (hval 0 77 v0 rfl rfl) h0
  clear hA0 hval0
  refine (walk v0 W w0).mono fun e W' ⟨he, bel⟩ => ?_
  subst he
  exact ⟨_, rfl, _, _, _, [], _, [], hW', trodAll_mk1 (shut_bool Try.underlying4 _), (trodAll_cons_mk (Below.trod laidOut (by kernel_rfl) (of_decide_eq_true (by kernel_rfl)) k0 bel lt0) trodAll_mk0), rfl, bel.frame _, fun h => by cases h⟩

theorem over : Rows.viewVersionsRow.holds Try.pinned (OpenSpec.ofChange Rows.viewVersionsSpec) :=
  OpenClaim.holds_of_wide 12 Try.f12 rfl rfl rfl rfl rfl rfl rfl ⟨rfl, rfl, rfl, rfl, rfl⟩ rfl rfl rfl rfl rfl (by kernel_rfl) Try.func12 (by kernel_rfl)
    (of_decide_eq_true (by kernel_rfl)) (by unfold Func.isWrapper; first | (rw [if_pos (by decide +kernel)]; kernel_rfl) | (rw [if_neg (by decide +kernel)]; exact ⟨rfl, rfl⟩))
    (fun os started H enc _ => lifted os started H enc)

theorem proved : Rows.ViewVersionsSaid := over
#print axioms proved
end Go.Proofs.Yteoeghljoaiiiaa.viewVersions
