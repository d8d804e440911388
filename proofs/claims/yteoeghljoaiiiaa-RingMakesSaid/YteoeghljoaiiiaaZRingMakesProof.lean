/-
  RingMakes: of any members and points the program's Make answers what the document's does (its points, in their order, or its kind), and a member's point stands where the document says; no condition on the input (where there are more than 100 ids, or more than 600 points in all of at most 100 each, only the chapter's example is asked).
  The frame round the walk is written by the guide's own program for this statement.
-/
import Derived.Test.YteoeghljoaiiiaaZGRF
import Derived.Test.YteoeghljoaiiiaaRows
import Derived.WalkKit
import Derived.ProofKit
import Derived.OpenShut
import Derived.ShutString
import Derived.ChangeOld
import Derived.Below
namespace Go.Proofs.Yteoeghljoaiiiaa.ringMakes
set_option linter.unusedSimpArgs false
set_option linter.unusedVariables false
open Go.ChangeShapes Go.WideShapes Go.ChangeAt Go.RowKit
open Go.ChangeMaps (open_string shut_string)
set_option linter.unusedVariables false

theorem own : ownKnob Try.prog.godebug = none := by kernel_rfl
theorem laidOut : laidOutB Try.prog = true := by kernel_rfl

/-- WHAT THE WALK IS TOLD OF A SLICE OF INTEGERS THAT CAME IN: it is nil; or it leads to a row of 'cap' cells, the numbers 'zs' (the first 'len' are its elements, the rest its spare room), each fitting its kind. -/
def IsRow (k : IntKind) (w : World) (a : Option Addr) (len cap : Nat) (zs : List Int) : Prop :=
  (a = none ∧ len = 0 ∧ cap = 0 ∧ zs = []) ∨
  ∃ x, a = some x ∧ len ≤ cap ∧ cap ≤ maxLen ∧ zs.length = cap ∧ (∀ i, i < zs.length → w.cell? (x.add i) = some (.int k (zs.getD i 0))) ∧ ∀ n ∈ zs, (Lit.int k n).wf = true

open Rg
open Go.Sort
set_option maxRecDepth 100000 in
set_option maxHeartbeats 3000000 in
theorem walk (a0 : Option Addr) (len0 cap0 : Nat) (z0 : List Int) (a1 : Int) (w : World) (w0 : IsRow .u64 w a0 len0 cap0 z0) (w1 : (Lit.int .i64 a1).wf = true) :
    Calls Try.prog 7 #[.slice a0 len0 cap0, .int .i64 a1] w fun e w' => e = .returned (.bool true) ∧ Below w.heap.size w w' := by
  obtain ⟨ids, hids, hbd, hpl⟩ := nums_of w0
  have Hids := hid_ hids
  have HL := hid_ hids.len
  clear w1 hbd w0
  by_cases hbig : 100 < len0
  · have e1 : decide ((len0 : Int) > 100) = true := decide_eq_true (by omega)
    have e2 : decide ((100 : Int) < (len0 : Int)) = true := decide_eq_true (by omega)
    clear hbig hids hpl
    go_enter Try.func7, Try.ntmps7
    go_wp2_with fail
    refine Calls.mono (alive_any _) ?_
    rintro e w2 ⟨rfl, hb⟩
    go_wp2_with fail
    go_ret
    exact ⟨rfl, hb⟩
  have e1 : decide ((len0 : Int) > 100) = false := decide_eq_false (by omega)
  have e2 : decide ((100 : Int) < (len0 : Int)) = false := decide_eq_false (by omega)
  clear hids
  go_enter Try.func7, Try.ntmps7
  go_wp2_with fail
  · refine Calls.mono (alive_any _) ?_
    rintro e w2 ⟨rfl, hb⟩
    go_wp2_with fail
    go_ret
    exact ⟨rfl, hb⟩
  all_goals
    refine Calls.mono (make_all a0 len0 cap0 ids a1 w Hids.out) ?_
    rintro e w1 ⟨A1, N1, c1, r1, k1, rfl, hr1, hm1, hb1⟩
    have HR1 := hid_ hr1
    have HM1 := hid_ hm1
    have HB1 := hid_ hb1
    clear hr1 hm1 hb1
    go_wp2_with fail
    refine Calls.mono (rmake_all a0 len0 cap0 ids a1 w1 (Hids.out.below HB1.out)) ?_
    rintro e w2 ⟨A2, N2, c2, r2, k2, rfl, hr2, hm2, hb2⟩
    obtain ⟨rfl, rfl⟩ := makeIs_one HM1.out hm2
    have hN : N1 = N2 := by rw [← HR1.out.len, ← hr2.len]
    subst hN
    have Hsame := hid_ (fun (W : World) (hw : Below w2.heap.size w2 W) => same_any A1 A2 N1 c1 c2 r1 W (HR1.out.below (hb2.trans (hw.mono hb2.size))) (hr2.below hw))
    have HB2 := hid_ (HB1.out.trans (hb2.mono HB1.out.size))
    clear HR1 HM1 hr2 hm2 hb2
    have ek : (k1 == k1) = true := by simp
    have Hal := hid_ (fun (W : World) => alive_any W)
    by_cases hz : len0 = 0
    · have e3 : ((len0 : Int) == 0) = true := by simp [hz]
      have e4 : (len0 == 0) = true := by simp [hz]
      have HZ := hid_ hz
      clear hz
      go_wp2_with fail
      have cS : ∀ p : Regrown, Calls Try.prog 35 #[.slice A1 N1 c1, .slice A2 N1 c2] (grow (redrawn w2 p.d) p.os) fun e w'' => e = .returned (.bool true) ∧ ∃ p : Regrown, w'' = grow (redrawn w2 p.d) p.os := fun p => quiet_below_of_draws (Hsame.out _ (below_regrown _ _ _))
      have cA : ∀ p : Regrown, Calls Try.prog 32 #[] (grow (redrawn w2 p.d) p.os) fun e w'' => e = .returned (.bool true) ∧ ∃ p : Regrown, w'' = grow (redrawn w2 p.d) p.os := fun p => Calls.regrown_of (Hal.out _)
      refine wp_region_quiet_below (by first | assumption | kernel_rfl) (by kernel_rfl) ?_
      quiet_step (first | (with_reducible exact cS _) | (with_reducible exact cA _))
      quiet_step (first | (with_reducible exact cS _) | (with_reducible exact cA _))
      quiet_step (first | (with_reducible exact cS _) | (with_reducible exact cA _))
      quiet_step (first | (with_reducible exact cS _) | (with_reducible exact cA _))
      quiet_step (first | (with_reducible exact cS _) | (with_reducible exact cA _))
      quiet_step (first | (with_reducible exact cS _) | (with_reducible exact cA _))
      quiet_step (first | (with_reducible exact cS _) | (with_reducible exact cA _))
      quiet_step (first | (with_reducible exact cS _) | (with_reducible exact cA _))
      quiet_step (first | (with_reducible exact cS _) | (with_reducible exact cA _))
      quiet_step (first | (with_reducible exact cS _) | (with_reducible exact cA _))
      quiet_step (first | (with_reducible exact cS _) | (with_reducible exact cA _))
      quiet_step (first | (with_reducible exact cS _) | (with_reducible exact cA _))
      quiet_step (first | (with_reducible exact cS _) | (with_reducible exact cA _))
      iterate 9 (with_reducible refine wpQuiet_step (fun K hK => ?_); go_simp; with_reducible refine hK _ ?_; clear hK K)
      quiet_step (first | (with_reducible exact cS _) | (with_reducible exact cA _))
      quiet_step (first | (with_reducible exact cS _) | (with_reducible exact cA _))
      quiet_step (first | (with_reducible exact cS _) | (with_reducible exact cA _))
      quiet_step (first | (with_reducible exact cS _) | (with_reducible exact cA _))
      quiet_step (first | (with_reducible exact cS _) | (with_reducible exact cA _))
      quiet_step (first | (with_reducible exact cS _) | (with_reducible exact cA _))
      refine wpQuiet_nil ?_
      intro _ hw'
      obtain ⟨⟨dq, osq⟩, hw''⟩ := hw'
      subst hw''
      go_wp2_with fail
      go_ret
      exact ⟨rfl, HB2.out.trans (Below.mono (below_regrown _ _ _) HB2.out.size)⟩
    · have e3 : ((len0 : Int) == 0) = false := by simp; omega
      have e4 : (len0 == 0) = false := by simp; omega
      have hl0 : 0 < ids.length := by rw [HL.out]; omega
      obtain ⟨b, off, rfl, hblk, hc⟩ := num_at (Hids.out.below HB2.out) hl0
      rw [Nat.add_zero] at hc
      have Hat1 := hid_ (fun (W : World) => at_any ids[0] 1 (by omega) W)
      have Hat2 := hid_ (fun (W : World) => refat_any ids[0] 1 (by omega) W)
      generalize ids[0] = x at *
      generalize atN x 1 = y at *
      have m1 : (0 : Int) < (len0 : Int) := by omega
      have ey : (y == y) = true := by simp
      have HC := hid_ hc
      go_wp2_with fail
      have m2 : 0 < len0 := by omega
      have S0 : NumIn w2 b off x w2 := ⟨Below.refl _ _, hc⟩
      go_region_held3 (NumIn w2 b off x) (first | assumption | refine numIn_keep (by assumption) (by assumption) | refine numIn_keep (by assumption) (Below.drew (Below.refl _ _)) | refine numIn_keep (by assumption) (below_drewN (Below.refl _ _) _))
        (first
          | (go_at_call 35; (with_reducible refine Calls.mono (Hsame.out _ (by first | exact Below.refl _ _ | exact Below.drew (Below.refl _ _))) ?_); rintro e w' ⟨rfl, q, rfl⟩)
          | (go_at_call 36; (with_reducible refine Calls.mono (Hat1.out _) ?_); rintro e w' ⟨rfl, rfl⟩)
          | (go_at_call 37; (with_reducible refine Calls.mono (Hat2.out _) ?_); rintro e w' ⟨rfl, rfl⟩)
          | (go_at_call 32; (with_reducible refine Calls.mono (Hal.out _) ?_); rintro e w' ⟨rfl, hb'⟩)
          | fail)
      go_wp2_with fail
      go_ret
      exact ⟨rfl, HB2.out.trans (Below.mono (And.left (by assumption)) HB2.out.size)⟩

set_option maxRecDepth 100000 in
theorem lifted (os : Os) (started : os.Started) (H : Type) (enc : TypeId × Value → H) :
    ReturnsInHanded {} Try.checked os 7 .any (Rows.ringMakesSpec.pre6 enc Try.prog Try.f7 Rows.ringMakesRow.domain false) (Rows.ringMakesSpec.post enc Try.prog Try.f7 false true false false) := by
  refine returnsInHanded_of_change (C := Try.checked) own started (by kernel_rfl) Try.func7
    (ChangeSpec.witness6 (enc := enc) (C := Try.checked) false ⟨#[], #[.slice none 0 0, .int .i64 0], []⟩ 8 (by kernel_rfl) (by kernel_rfl) (by kernel_rfl) (by kernel_rfl)) ?_
  intro W base args ds gs before hval0 hW hcnd _
  have hval : ∀ (j : Nat) t v, Try.f7.params[j]? = some t → args[j]? = some v → Value.okWide Try.prog W .any base t v := hval0
  have hW' := hW
  obtain ⟨p, q, hA0, hV, rfl, hfz, hnd⟩ := hW
  have hA : DataW.TrodAll enc Try.prog W 0 (fun _ => true) true Try.f7.params.toList args.toList ds p := hA0
  rw [Try.params7] at hA hval
  obtain ⟨v0, vs0, d0, ds0, p0, q0, hargs, rfl, rfl, h0, r0⟩ := trodAll_cons hA
  obtain ⟨v1, vs1, d1, ds1, p1, q1, rfl, rfl, rfl, h1, r1⟩ := trodAll_cons r0
  obtain ⟨rfl, rfl, rfl⟩ := trodAll_nil r1
  obtain rfl : args = #[v0, v1] := by cases args; simp_all
  obtain ⟨rfl, rfl⟩ := trodVars_none hV
  obtain ⟨a0, len0, cap0, rfl⟩ := okWide_slice Try.underlying52 (hval 0 52 v0 rfl rfl)
  have k0 := h0
  have lt0 : ∀ x ∈ p0, x.block < W.heap.size := by obtain ⟨m, hm⟩ := k0; exact DataW.trod_lt m _ _ _ hm
  obtain ⟨z0, w0⟩ : ∃ zs, IsRow .u64 W a0 len0 cap0 zs := by
    obtain ⟨fuel, hf⟩ := h0
    rcases open_ints Try.underlying52 Try.underlying60 (by kernel_rfl) hf with ⟨hcs, _⟩ | ⟨x, l, c, zs, hcs, _, hl, hm, hz, _, hcell, hwz⟩
    · simp [Value.cells] at hcs
      obtain ⟨rfl, rfl, rfl⟩ := hcs
      exact ⟨[], .inl ⟨rfl, rfl, rfl, rfl⟩⟩
    · simp [Value.cells] at hcs
      obtain ⟨rfl, rfl, rfl⟩ := hcs
      exact ⟨zs, .inr ⟨_, rfl, hl, hm, by simpa using hz, hcell, hwz⟩⟩
  obtain ⟨a1, rfl, rfl, rfl, w1⟩ := open_int Try.underlying3 (hval 1 3 v1 rfl rfl) h1
  clear hA0 hval0
  refine (walk a0 len0 cap0 z0 a1 W w0 w1).mono fun e W' ⟨he, bel⟩ => ?_
  subst he
  exact ⟨_, rfl, _, _, _, [], _, [], hW', trodAll_mk1 (shut_bool Try.underlying4 _), (trodAll_cons_mk (Below.trod laidOut (by kernel_rfl) (of_decide_eq_true (by kernel_rfl)) k0 bel lt0) (trodAll_cons_mk (shut_int Try.underlying3 w1) trodAll_mk0)), rfl, bel.frame _, fun h => by cases h⟩

theorem over : Rows.ringMakesRow.holds Try.pinned (OpenSpec.ofChange Rows.ringMakesSpec) :=
  OpenClaim.holds_of_wide 7 Try.f7 rfl rfl rfl rfl rfl rfl rfl ⟨rfl, rfl, rfl, rfl, rfl⟩ rfl rfl rfl rfl rfl (by kernel_rfl) Try.func7 (by kernel_rfl)
    (of_decide_eq_true (by kernel_rfl)) (by unfold Func.isWrapper; first | (rw [if_pos (by decide +kernel)]; kernel_rfl) | (rw [if_neg (by decide +kernel)]; exact ⟨rfl, rfl⟩))
    (fun os started H enc _ => lifted os started H enc)

theorem proved : Rows.RingMakesSaid := over
#print axioms proved
end Go.Proofs.Yteoeghljoaiiiaa.ringMakes
