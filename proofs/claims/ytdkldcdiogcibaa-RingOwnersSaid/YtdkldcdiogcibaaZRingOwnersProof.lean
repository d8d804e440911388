/-
  RingOwners: on whatever ring (a list of at most 300 points that rise; of others only the chapter's example is asked) the owner of a trace is the one that the document names; no condition on the input.
  The frame round the walk is written by the guide's own program for this statement.
-/
import Derived.Test.YtdkldcdiogcibaaZGRE
import Derived.Test.YtdkldcdiogcibaaRows
import Derived.WalkKit
import Derived.ProofKit
import Derived.OpenShut
import Derived.ShutString
import Derived.ChangeOld
import Derived.Below
namespace Go.Proofs.Ytdkldcdiogcibaa.ringOwners
set_option linter.unusedSimpArgs false
set_option linter.unusedVariables false
open Go.ChangeShapes Go.WideShapes Go.ChangeAt Go.RowKit
open Go.ChangeMaps (open_string shut_string)
set_option linter.unusedVariables false

theorem own : ownKnob Try.prog.godebug = none := by kernel_rfl
theorem laidOut : laidOutB Try.prog = true := by kernel_rfl

/-- WHAT THE WALK IS TOLD OF A SLICE OF INTEGERS THAT CAME IN: it is nil; or it leads to a row of 'cap' cells, the numbers 'zs' (the first 'len' are its elements, the rest its spare room), each fitting its kind. -/
def IsRow (k : IntKind) (w : World) (a : Option Addr) (len cap : Nat) (zs : List Int) : Prop :=
  (a = none ∧ len = 0 ∧ cap = 0 ∧ zs = []) ∨
  ∃ x, a = some x ∧ len ≤ cap ∧ cap ≤ maxLen ∧ zs.length = cap ∧ (∀ i, i < zs.length → w.cell? (x.add i) = some (.int k (zs.getD i 0))) ∧ ∀ n ∈ zs, (Lit.int k n).wf = true

open Rg
set_option maxRecDepth 100000 in
set_option maxHeartbeats 8000000 in
theorem walk (v0 : Value) (a1 : Int) (w : World) (w0 : Rg.PtsV w v0) (w1 : (Lit.int .u64 a1).wf = true) :
    Calls Try.prog 8 #[v0, .int .u64 a1] w fun e w' => e = .returned (.bool true) ∧ Below w.heap.size w w' := by
  obtain ⟨A, n, c, l, rfl, hl, hwf⟩ := w0
  obtain ⟨t, rfl, ht⟩ := u64_of w1
  have HL := hid_ hl
  clear hwf w1 ht
  by_cases hbig : 300 < n
  · have e1 : decide ((n : Int) > 300) = true := decide_eq_true (by omega)
    have e2 : decide ((300 : Int) < (n : Int)) = true := decide_eq_true (by omega)
    clear hbig hl
    go_enter Try.func8, Try.ntmps8
    go_wp2_with fail
    refine Calls.mono (alive_any _) ?_
    rintro e w2 ⟨rfl, hb⟩
    go_wp2_with fail
    go_ret
    exact ⟨rfl, hb⟩
  have e1 : decide ((n : Int) > 300) = false := decide_eq_false (by omega)
  have e2 : decide ((300 : Int) < (n : Int)) = false := decide_eq_false (by omega)
  clear hl
  go_enter Try.func8, Try.ntmps8
  go_wp2_with fail
  refine Calls.mono (rises_any A n c l w HL.out) ?_
  rintro e w1 ⟨z, rfl, hs, hb1⟩
  have HS := hid_ hs
  have HB1 := hid_ hb1
  clear hs hb1
  cases z
  · go_wp2_with fail
    refine Calls.mono (alive_any _) ?_
    rintro e w2 ⟨rfl, hb⟩
    have HB2 := hid_ (HB1.out.trans (hb.mono HB1.out.size))
    clear hb
    go_wp2_with fail
    go_ret
    exact ⟨rfl, HB2.out⟩
  · have Hsort := hid_ (HS.out rfl)
    clear HS
    go_wp2_with fail
    refine Calls.mono (own_any A n c l w1 (HL.out.below HB1.out) (by omega)) ?_
    rintro e w2 ⟨A2, n2, c2, rfl, hr2, hb2⟩
    have hn2 : n2 = n := by rw [← hr2.len, HL.out.len]
    subst hn2
    have HR2 := hid_ hr2
    have HB2 := hid_ (HB1.out.trans (hb2.mono HB1.out.size))
    clear hr2 hb2
    have Ho := hid_ (Owner_any A2 n2 c2 l t w2 HR2.out Hsort.out (by omega))
    have Hf := hid_ (fun (W : World) (hw : Below w2.heap.size w2 W) => of_any A n2 c l (mixN t) W (HL.out.below (HB2.out.trans (hw.mono HB2.out.size))))
    have Hm := hid_ (fun (W : World) => refmix_any t W)
    generalize mixN t = h at *
    generalize ownF l h = v at *
    go_wp2_with fail
    refine Calls.mono Ho.out ?_
    rintro e w3 ⟨rfl, hb3⟩
    have HC3 := hid_ hb3
    have HB3 := hid_ (HB2.out.trans (hb3.mono HB2.out.size))
    clear hb3
    go_wp2_with fail
    refine Calls.mono (Hm.out _) ?_
    rintro e w4 ⟨rfl, rfl⟩
    go_wp2_with fail
    refine Calls.mono (Hf.out _ HC3.out) ?_
    rintro e w5 ⟨rfl, rfl⟩
    go_wp2_with fail
    refine Calls.mono (alive_any _) ?_
    rintro e w6 ⟨rfl, hb6⟩
    have HB6 := hid_ (HB3.out.trans (hb6.mono HB3.out.size))
    clear hb6
    go_wp2_with fail
    go_ret
    exact ⟨rfl, HB6.out⟩

set_option maxRecDepth 100000 in
theorem lifted (os : Os) (started : os.Started) (H : Type) (enc : TypeId × Value → H) :
    ReturnsInHanded {} Try.checked os 8 .any (Rows.ringOwnersSpec.pre6 enc Try.prog Try.f8 Rows.ringOwnersRow.domain false) (Rows.ringOwnersSpec.post enc Try.prog Try.f8 false true false false) := by
  refine returnsInHanded_of_change (C := Try.checked) own started (by kernel_rfl) Try.func8
    (ChangeSpec.witness6 (enc := enc) (C := Try.checked) false ⟨#[], #[.slice none 0 0, .int .u64 0], []⟩ 8 (by kernel_rfl) (by kernel_rfl) (by kernel_rfl) (by kernel_rfl)) ?_
  intro W base args ds gs before hval0 hW hcnd _
  have hval : ∀ (j : Nat) t v, Try.f8.params[j]? = some t → args[j]? = some v → Value.okWide Try.prog W .any base t v := hval0
  have hW' := hW
  obtain ⟨p, q, hA0, hV, rfl, hfz, hnd⟩ := hW
  have hA : DataW.TrodAll enc Try.prog W 0 (fun _ => true) true Try.f8.params.toList args.toList ds p := hA0
  rw [Try.params8] at hA hval
  obtain ⟨v0, vs0, d0, ds0, p0, q0, hargs, rfl, rfl, h0, r0⟩ := trodAll_cons hA
  obtain ⟨v1, vs1, d1, ds1, p1, q1, rfl, rfl, rfl, h1, r1⟩ := trodAll_cons r0
  obtain ⟨rfl, rfl, rfl⟩ := trodAll_nil r1
  obtain rfl : args = #[v0, v1] := by cases args; simp_all
  obtain ⟨rfl, rfl⟩ := trodVars_none hV
  have k0 := h0
  have lt0 : ∀ x ∈ p0, x.block < W.heap.size := by obtain ⟨m, hm⟩ := k0; exact DataW.trod_lt m _ _ _ hm
  have w0 : Rg.PtsV W v0 := Rg.open_ptsV (hval 0 56 v0 rfl rfl) h0
  obtain ⟨a1, rfl, rfl, rfl, w1⟩ := open_int Try.underlying60 (hval 1 60 v1 rfl rfl) h1
  clear hA0 hval0
  refine (walk v0 a1 W w0 w1).mono fun e W' ⟨he, bel⟩ => ?_
  subst he
  exact ⟨_, rfl, _, _, _, [], _, [], hW', trodAll_mk1 (shut_bool Try.underlying4 _), (trodAll_cons_mk (Below.trod laidOut (by kernel_rfl) (of_decide_eq_true (by kernel_rfl)) k0 bel lt0) (trodAll_cons_mk (shut_int Try.underlying60 w1) trodAll_mk0)), rfl, bel.frame _, fun h => by cases h⟩

theorem over : Rows.ringOwnersRow.holds Try.pinned (OpenSpec.ofChange Rows.ringOwnersSpec) :=
  OpenClaim.holds_of_wide 8 Try.f8 rfl rfl rfl rfl rfl rfl rfl ⟨rfl, rfl, rfl, rfl, rfl⟩ rfl rfl rfl rfl rfl (by kernel_rfl) Try.func8 (by kernel_rfl)
    (of_decide_eq_true (by kernel_rfl)) (by unfold Func.isWrapper; first | (rw [if_pos (by decide +kernel)]; kernel_rfl) | (rw [if_neg (by decide +kernel)]; exact ⟨rfl, rfl⟩))
    (fun os started H enc _ => lifted os started H enc)

theorem proved : Rows.RingOwnersSaid := over
#print axioms proved
end Go.Proofs.Ytdkldcdiogcibaa.ringOwners
