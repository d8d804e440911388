/-
  BallotOrder: of whatever two ballots and whatever list of ballots the program's Less and Max answer as the document's do; no condition on the input.
  The frame round the walk is written by the guide's own program for this statement.
-/
import Derived.Test.YtgmeggilojcoeaaZGBD
import Derived.Test.YtgmeggilojcoeaaRows
import Derived.WalkKit
import Derived.ProofKit
import Derived.OpenShut
import Derived.ShutString
import Derived.ChangeOld
import Derived.Below
namespace Go.Proofs.Ytgmeggilojcoeaa.ballotOrder
set_option linter.unusedSimpArgs false
set_option linter.unusedVariables false
open Go.ChangeShapes Go.WideShapes Go.ChangeAt Go.RowKit
open Go.ChangeMaps (open_string shut_string)
set_option linter.unusedVariables false

theorem own : ownKnob Try.prog.godebug = none := by kernel_rfl
theorem laidOut : laidOutB Try.prog = true := by kernel_rfl

/-- WHAT THE WALK IS TOLD OF A SLICE OF INTEGERS THAT CAME IN: it is nil; or it leads to a row of 'cap' cells, the numbers 'zs' (the first 'len' are its elements, the rest its spare room), each fitting its kind. -/
def IsRow (k : IntKind) (w : World) (a : Option Addr) (len cap : Nat) (zs : List Int) : Prop :=
  (a = none ∧ len = 0 ∧ cap = 0 ∧ zs = []) ∨
  ∃ x, a = some x ∧ len ≤ cap ∧ cap ≤ maxLen ∧ zs.length = cap ∧ (∀ i, i < zs.length → w.cell? (x.add i) = some (.int k (zs.getD i 0))) ∧ ∀ n ∈ zs, (Lit.int k n).wf = true

open Rg Bl
set_option maxRecDepth 100000 in
set_option maxHeartbeats 8000000 in
theorem walk (v0 : Value) (v1 : Value) (v2 : Value) (w : World) (w0 : Bl.BalV w v0) (w1 : Bl.BalV w v1) (w2 : Bl.BalsV w v2) :
    Calls Try.prog 8 #[v0, v1, v2] w fun e w' => e = .returned (.bool true) ∧ Below w.heap.size w w' := by
  obtain ⟨a, hwa, rfl⟩ := w0
  obtain ⟨b, hwb, rfl⟩ := w1
  obtain ⟨A, n, c, l, rfl, hl, hwl⟩ := w2
  have hle := hl.le
  have HA := hid_ (fun W => balive_any W)
  have HB0 := hid_ (((Below.refl w.heap.size w).alloc (Nat.le_refl _) (.cells #[.int .u64 (a.pos : Nat), .int .u64 (a.id : Nat)] 66)).alloc (by simp) (.cells #[.int .u64 (b.pos : Nat), .int .u64 (b.id : Nat)] 66))
  by_cases hbig : 1000 < n
  · have q0 : decide ((n : Int) > 1000) = true := decide_eq_true (by omega)
    have r0 : decide ((1000 : Int) < (n : Int)) = true := decide_eq_true (by omega)
    have s0 : decide (1000 < n) = true := decide_eq_true hbig
    clear hbig hl hwl hwa hwb
    go_enter Try.func8, Try.ntmps8
    go_wp2_with fail
    (with_reducible refine Calls.mono (HA.out _) ?_)
    rintro e wz ⟨rfl, hbz⟩
    have HBz := hid_ (HB0.out.trans (hbz.mono HB0.out.size))
    clear hbz
    go_wp2_with fail
    go_ret
    exact ⟨rfl, HBz.out⟩
  · have q0 : decide ((n : Int) > 1000) = false := decide_eq_false (by omega)
    have r0 : decide ((1000 : Int) < (n : Int)) = false := decide_eq_false (by omega)
    have s0 : decide (1000 < n) = false := decide_eq_false hbig
    have HL := hid_ (fun (W : World) => show Calls Try.prog 35 #[.agg #[.int .u64 (a.pos : Nat), .int .u64 (a.id : Nat)], .agg #[.int .u64 (b.pos : Nat), .int .u64 (b.id : Nat)]] W (RetB W.heap.size W (.bool (lessB a b))) from less_any a b W)
    have HK := hid_ (fun (W : World) => show Calls Try.prog 36 #[.agg #[.int .u64 (a.pos : Nat), .int .u64 (a.id : Nat)], .agg #[.int .u64 (b.pos : Nat), .int .u64 (b.id : Nat)]] W (RetB W.heap.size W (.bool (lessB a b))) from rless_any a b W)
    have HM := hid_ (fun (W : World) (hw : Below w.heap.size w W) => max_any A n c l W (hl.below hw))
    have HR := hid_ (fun (W : World) (hw : Below w.heap.size w W) => rmax_any A n c l W (hl.below hw))
    generalize maxF l = m at *
    generalize lessB a b = z at *
    have kn : ∀ w, (binOp .eql 66 (.agg #[.int .u64 (m.pos : Nat), .int .u64 (m.id : Nat)]) (.agg #[.int .u64 (m.pos : Nat), .int .u64 (m.id : Nat)])).run Try.prog w = .ok (.bool true) w := fun w => by rw [← same_self m]; exact bal_eql m m w
    have hz : (z == z) = true := by simp
    have HS := hid_ (show TwoBal w w.heap.size 0 (w.heap.size + 1) a b ((w.alloc (.cells #[.int .u64 (a.pos : Nat), .int .u64 (a.id : Nat)] 66)).alloc (.cells #[.int .u64 (b.pos : Nat), .int .u64 (b.id : Nat)] 66)) from
      ⟨HB0.out, ((whole_new w _ _).alloc _).cell 0 _ rfl, ((whole_new w _ _).alloc _).cell 1 _ rfl, (whole_at _ _ _ _ (by simp)).cell 0 _ rfl, (whole_at _ _ _ _ (by simp)).cell 1 _ rfl⟩)
    have S0 := HS.out
    have S1 := twoBal_keep S0 (Below.drew (Below.refl _ _))
    clear hbig hl hwl hwa hwb
    go_enter Try.func8, Try.ntmps8
    go_wp2_with fail
    go_region_held3 (TwoBal w w.heap.size 0 (w.heap.size + 1) a b) (first | assumption | (refine twoBal_keep (by assumption) (by assumption)) | (refine twoBal_keep (by assumption) (Below.drew (Below.refl _ _))))
      (first
        | (go_at_call 35; (with_reducible refine Calls.mono (HL.out _) ?_); rintro e w' ⟨rfl, hb'⟩)
        | (go_at_call 36; (with_reducible refine Calls.mono (HK.out _) ?_); rintro e w' ⟨rfl, hb'⟩)
        | (go_at_call 37; (with_reducible refine Calls.mono (HM.out _ (And.left (by assumption))) ?_); rintro e w' ⟨rfl, hb'⟩)
        | (go_at_call 38; (with_reducible refine Calls.mono (HR.out _ (And.left (by assumption))) ?_); rintro e w' ⟨rfl, hb'⟩)
        | (go_at_call 34; (with_reducible refine Calls.mono (HA.out _) ?_); rintro e w' ⟨rfl, hb'⟩)
        | fail)
    go_wp2_with fail
    go_ret
    exact ⟨rfl, And.left (by assumption)⟩

set_option maxRecDepth 100000 in
theorem lifted (os : Os) (started : os.Started) (H : Type) (enc : TypeId × Value → H) :
    ReturnsInHanded {} Try.checked os 8 .any (Rows.ballotOrderSpec.pre6 enc Try.prog Try.f8 Rows.ballotOrderRow.domain false) (Rows.ballotOrderSpec.post enc Try.prog Try.f8 false true false false) := by
  refine returnsInHanded_of_change (C := Try.checked) own started (by kernel_rfl) Try.func8
    (ChangeSpec.witness6 (enc := enc) (C := Try.checked) false ⟨#[], #[(.agg #[.int .u64 0, .int .u64 0]), (.agg #[.int .u64 0, .int .u64 0]), .slice none 0 0], []⟩ 8 (by kernel_rfl) (by kernel_rfl) (by kernel_rfl) (by kernel_rfl)) ?_
  intro W base args ds gs before hval0 hW hcnd _
  have hval : ∀ (j : Nat) t v, Try.f8.params[j]? = some t → args[j]? = some v → Value.okWide Try.prog W .any base t v := hval0
  have hW' := hW
  obtain ⟨p, q, hA0, hV, rfl, hfz, hnd⟩ := hW
  have hA : DataW.TrodAll enc Try.prog W 0 (fun _ => true) true Try.f8.params.toList args.toList ds p := hA0
  rw [Try.params8] at hA hval
  obtain ⟨v0, vs0, d0, ds0, p0, q0, hargs, rfl, rfl, h0, r0⟩ := trodAll_cons hA
  obtain ⟨v1, vs1, d1, ds1, p1, q1, rfl, rfl, rfl, h1, r1⟩ := trodAll_cons r0
  obtain ⟨v2, vs2, d2, ds2, p2, q2, rfl, rfl, rfl, h2, r2⟩ := trodAll_cons r1
  obtain ⟨rfl, rfl, rfl⟩ := trodAll_nil r2
  obtain rfl : args = #[v0, v1, v2] := by cases args; simp_all
  obtain ⟨rfl, rfl⟩ := trodVars_none hV
  have k0 := h0
  have lt0 : ∀ x ∈ p0, x.block < W.heap.size := by obtain ⟨m, hm⟩ := k0; exact DataW.trod_lt m _ _ _ hm
  have w0 : Bl.BalV W v0 := Bl.open_balV (hval 0 66 v0 rfl rfl) h0
  have k1 := h1
  have lt1 : ∀ x ∈ p1, x.block < W.heap.size := by obtain ⟨m, hm⟩ := k1; exact DataW.trod_lt m _ _ _ hm
  have w1 : Bl.BalV W v1 := Bl.open_balV (hval 1 66 v1 rfl rfl) h1
  have k2 := h2
  have lt2 : ∀ x ∈ p2, x.block < W.heap.size := by obtain ⟨m, hm⟩ := k2; exact DataW.trod_lt m _ _ _ hm
  have w2 : Bl.BalsV W v2 := Bl.open_balsV (hval 2 67 v2 rfl rfl) h2
  clear hA0 hval0
  refine (walk v0 v1 v2 W w0 w1 w2).mono fun e W' ⟨he, bel⟩ => ?_
  subst he
  exact ⟨_, rfl, _, _, _, [], _, [], hW', trodAll_mk1 (shut_bool Try.underlying4 _), (trodAll_cons_mk (Below.trod laidOut (by kernel_rfl) (of_decide_eq_true (by kernel_rfl)) k0 bel lt0) (trodAll_cons_mk (Below.trod laidOut (by kernel_rfl) (of_decide_eq_true (by kernel_rfl)) k1 bel lt1) (trodAll_cons_mk (Below.trod laidOut (by kernel_rfl) (of_decide_eq_true (by kernel_rfl)) k2 bel lt2) trodAll_mk0))), rfl, bel.frame _, fun h => by cases h⟩

theorem over : Rows.ballotOrderRow.holds Try.pinned (OpenSpec.ofChange Rows.ballotOrderSpec) :=
  OpenClaim.holds_of_wide 8 Try.f8 rfl rfl rfl rfl rfl rfl rfl ⟨rfl, rfl, rfl, rfl, rfl⟩ rfl rfl rfl rfl rfl (by kernel_rfl) Try.func8 (by kernel_rfl)
    (of_decide_eq_true (by kernel_rfl)) (by unfold Func.isWrapper; first | (rw [if_pos (by decide +kernel)]; kernel_rfl) | (rw [if_neg (by decide +kernel)]; exact ⟨rfl, rfl⟩))
    (fun os started H enc _ => lifted os started H enc)

theorem proved : Rows.BallotOrderSaid := over
#print axioms proved
end Go.Proofs.Ytgmeggilojcoeaa.ballotOrder
