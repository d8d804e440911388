/-
  BallotNext: of whatever ballot was seen, version and node the program's Next answers as the document's does; no condition on the input.
  The frame round the walk is written by the guide's own program for this statement.
-/
import Derived.Test.YtgmeggilojcoeaaZGBD
import Derived.Test.YtgmeggilojcoeaaRows
import Derived.WalkKit
import Derived.ProofKit
import Derived.OpenShut
import Derived.ShutString
import Derived.ChangeOld
import Derived.Below
namespace Go.Proofs.Ytgmeggilojcoeaa.ballotNext
set_option linter.unusedSimpArgs false
set_option linter.unusedVariables false
open Go.ChangeShapes Go.WideShapes Go.ChangeAt Go.RowKit
open Go.ChangeMaps (open_string shut_string)
set_option linter.unusedVariables false

theorem own : ownKnob Try.prog.godebug = none := by kernel_rfl
theorem laidOut : laidOutB Try.prog = true := by kernel_rfl

/-- WHAT THE WALK IS TOLD OF A SLICE OF INTEGERS THAT CAME IN: it is nil; or it leads to a row of 'cap' cells, the numbers 'zs' (the first 'len' are its elements, the rest its spare room), each fitting its kind. -/
def IsRow (k : IntKind) (w : World) (a : Option Addr) (len cap : Nat) (zs : List Int) : Prop :=
  (a = none ∧ len = 0 ∧ cap = 0 ∧ zs = []) ∨
  ∃ x, a = some x ∧ len ≤ cap ∧ cap ≤ maxLen ∧ zs.length = cap ∧ (∀ i, i < zs.length → w.cell? (x.add i) = some (.int k (zs.getD i 0))) ∧ ∀ n ∈ zs, (Lit.int k n).wf = true

open Rg Bl
set_option maxRecDepth 20000 in
set_option maxHeartbeats 4000000 in
theorem walk (v0 : Value) (a1 : Int) (a2 : Int) (w : World) (w0 : Bl.BalV w v0) (w1 : (Lit.int .u64 a1).wf = true) (w2 : (Lit.int .u64 a2).wf = true) :
    Calls Try.prog 9 #[v0, .int .u64 a1, .int .u64 a2] w fun e w' => e = .returned (.bool true) ∧ Below w.heap.size w w' := by
  obtain ⟨s, ⟨hs1, hs2⟩, rfl⟩ := w0
  obtain ⟨v, rfl, hv⟩ := u64_of w1
  obtain ⟨d, rfl, hd⟩ := u64_of w2
  have HN := hid_ (fun (W : World) => next_any s v d W hs1 hv)
  have HM := hid_ (fun (W : World) => rnext_any s v d W hs1 hv)
  have HA := hid_ (fun W => balive_any W)
  generalize nextD s v d = m at *
  generalize nextK s v d = k at *
  have kn : ∀ w, (binOp .eql 66 (.agg #[.int .u64 (m.pos : Nat), .int .u64 (m.id : Nat)]) (.agg #[.int .u64 (m.pos : Nat), .int .u64 (m.id : Nat)])).run Try.prog w = .ok (.bool true) w := fun w => by rw [← same_self m]; exact bal_eql m m w
  have HB0 := hid_ ((Below.refl w.heap.size w).alloc (Nat.le_refl _) (.cells #[.int .u64 (s.pos : Nat), .int .u64 (s.id : Nat)] 66))
  have HS0 := hid_ (whole_new w 66 #[.int .u64 (s.pos : Nat), .int .u64 (s.id : Nat)])
  clear hs1 hs2 hv hd
  go_enter Try.func9, Try.ntmps9
  go_wp2_with fail
  (with_reducible refine Calls.mono (HN.out _) ?_)
  rintro e w1 ⟨rfl, hb1⟩
  have HB1 := hid_ (Below.alloc (HB0.out.trans (hb1.mono HB0.out.size)) (HB0.out.trans (hb1.mono HB0.out.size)).size (.cells #[.int .u64 (m.pos : Nat), .int .u64 (m.id : Nat)] 66))
  have HS1 := hid_ ((HS0.out.below hb1 HS0.out.lt).alloc (.cells #[.int .u64 (m.pos : Nat), .int .u64 (m.id : Nat)] 66))
  have HW1 := hid_ (whole_new w1 66 #[.int .u64 (m.pos : Nat), .int .u64 (m.id : Nat)])
  have y0 := HS1.out.cell 0 (.int .u64 (s.pos : Nat)) rfl
  have y1 := HS1.out.cell 1 (.int .u64 (s.id : Nat)) rfl
  clear hb1
  go_wp2_with fail
  (with_reducible refine Calls.mono (HM.out _) ?_)
  rintro e w2 ⟨rfl, hb2⟩
  have HB2 := hid_ (Below.alloc (HB1.out.trans (hb2.mono HB1.out.size)) (HB1.out.trans (hb2.mono HB1.out.size)).size (.cells #[.int .u64 (m.pos : Nat), .int .u64 (m.id : Nat)] 66))
  have HW2 := hid_ ((HW1.out.below hb2 HW1.out.lt).alloc (.cells #[.int .u64 (m.pos : Nat), .int .u64 (m.id : Nat)] 66))
  have z0 := HW2.out.cell 0 (.int .u64 (m.pos : Nat)) rfl
  have z1 := HW2.out.cell 1 (.int .u64 (m.id : Nat)) rfl
  clear hb2 y0 y1
  go_wp2_with fail
  (with_reducible refine Calls.mono (HA.out _) ?_)
  rintro e wz ⟨rfl, hbz⟩
  have HBz := hid_ (HB2.out.trans (hbz.mono HB2.out.size))
  clear hbz
  go_wp2_with fail
  go_ret
  exact ⟨rfl, HBz.out⟩

set_option maxRecDepth 100000 in
theorem lifted (os : Os) (started : os.Started) (H : Type) (enc : TypeId × Value → H) :
    ReturnsInHanded {} Try.checked os 9 .any (Rows.ballotNextSpec.pre6 enc Try.prog Try.f9 Rows.ballotNextRow.domain false) (Rows.ballotNextSpec.post enc Try.prog Try.f9 false true false false) := by
  refine returnsInHanded_of_change (C := Try.checked) own started (by kernel_rfl) Try.func9
    (ChangeSpec.witness6 (enc := enc) (C := Try.checked) false ⟨#[], #[(.agg #[.int .u64 0, .int .u64 0]), .int .u64 0, .int .u64 0], []⟩ 8 (by kernel_rfl) (by kernel_rfl) (by kernel_rfl) (by kernel_rfl)) ?_
  intro W base args ds gs before hval0 hW hcnd _
  have hval : ∀ (j : Nat) t v, Try.f9.params[j]? = some t → args[j]? = some v → Value.okWide Try.prog W .any base t v := hval0
  have hW' := hW
  obtain ⟨p, q, hA0, hV, rfl, hfz, hnd⟩ := hW
  have hA : DataW.TrodAll enc Try.prog W 0 (fun _ => true) true Try.f9.params.toList args.toList ds p := hA0
  rw [Try.params9] at hA hval
  obtain ⟨v0, vs0, d0, ds0, p0, q0, hargs, rfl, rfl, h0, r0⟩ := trodAll_cons hA
  obtain ⟨v1, vs1, d1, ds1, p1, q1, rfl, rfl, rfl, h1, r1⟩ := trodAll_cons r0
  obtain ⟨v2, vs2, d2, ds2, p2, q2, rfl, rfl, rfl, h2, r2⟩ := trodAll_cons r1
  obtain ⟨rfl, rfl, rfl⟩ := trodAll_nil r2
  obtain rfl : args = #[v0, v1, v2] := by cases args; simp_all
  obtain ⟨rfl, rfl⟩ := trodVars_none hV
  have k0 := h0
  have lt0 : ∀ x ∈ p0, x.block < W.heap.size := by obtain ⟨m, hm⟩ := k0; exact DataW.trod_lt m _ _ _ hm
  have w0 : Bl.BalV W v0 := Bl.open_balV (hval 0 66 v0 rfl rfl) h0
  obtain ⟨a1, rfl, rfl, rfl, w1⟩ := open_int Try.underlying60 (hval 1 60 v1 rfl rfl) h1
  obtain ⟨a2, rfl, rfl, rfl, w2⟩ := open_int Try.underlying60 (hval 2 60 v2 rfl rfl) h2
  clear hA0 hval0
  refine (walk v0 a1 a2 W w0 w1 w2).mono fun e W' ⟨he, bel⟩ => ?_
  subst he
  exact ⟨_, rfl, _, _, _, [], _, [], hW', trodAll_mk1 (shut_bool Try.underlying4 _), (trodAll_cons_mk (Below.trod laidOut (by kernel_rfl) (of_decide_eq_true (by kernel_rfl)) k0 bel lt0) (trodAll_cons_mk (shut_int Try.underlying60 w1) (trodAll_cons_mk (shut_int Try.underlying60 w2) trodAll_mk0))), rfl, bel.frame _, fun h => by cases h⟩

theorem over : Rows.ballotNextRow.holds Try.pinned (OpenSpec.ofChange Rows.ballotNextSpec) :=
  OpenClaim.holds_of_wide 9 Try.f9 rfl rfl rfl rfl rfl rfl rfl ⟨rfl, rfl, rfl, rfl, rfl⟩ rfl rfl rfl rfl rfl (by kernel_rfl) Try.func9 (by kernel_rfl)
    (of_decide_eq_true (by kernel_rfl)) (by unfold Func.isWrapper; first | (rw [if_pos (by decide +kernel)]; kernel_rfl) | (rw [if_neg (by decide +kernel)]; exact ⟨rfl, rfl⟩))
    (fun os started H enc _ => lifted os started H enc)

theorem proved : Rows.BallotNextSaid := over
#print axioms proved
end Go.Proofs.Ytgmeggilojcoeaa.ballotNext
