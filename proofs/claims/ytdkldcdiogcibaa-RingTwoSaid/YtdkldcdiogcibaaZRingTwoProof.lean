/-
  RingTwo: on the ring of all members a trace is owned by who owns it among the first n of them or among the others, and by somebody just where there is a member; no condition on the input (where the ids are not right, or more than 10, or the points not 1 to 8, or n is no place in them, only the chapter's example is asked).
  The frame round the walk is written by the guide's own program for this statement.
-/
import Derived.Test.YtdkldcdiogcibaaZGRD
import Derived.Test.YtdkldcdiogcibaaRows
import Derived.WalkKit
import Derived.ProofKit
import Derived.OpenShut
import Derived.ShutString
import Derived.ChangeOld
import Derived.Below
namespace Go.Proofs.Ytdkldcdiogcibaa.ringTwo
set_option linter.unusedSimpArgs false
set_option linter.unusedVariables false
open Go.ChangeShapes Go.WideShapes Go.ChangeAt Go.RowKit
open Go.ChangeMaps (open_string shut_string)
set_option linter.unusedVariables false

theorem own : ownKnob Try.prog.godebug = none := by kernel_rfl
theorem laidOut : laidOutB Try.prog = true := by kernel_rfl

/-- WHAT THE WALK IS TOLD OF A SLICE OF INTEGERS THAT CAME IN: it is nil; or it leads to a row of 'cap' cells, the numbers 'zs' (the first 'len' are its elements, the rest its spare room), each fitting its kind. -/
def IsRow (k : IntKind) (w : World) (a : Option Addr) (len cap : Nat) (zs : List Int) : Prop :=
  (a = none ∧ len = 0 ∧ cap = 0 ∧ zs = []) ∨
  ∃ x, a = some x ∧ len ≤ cap ∧ cap ≤ maxLen ∧ zs.length = cap ∧ (∀ i, i < zs.length → w.cell? (x.add i) = some (.int k (zs.getD i 0))) ∧ ∀ n ∈ zs, (Lit.int k n).wf = true

open Rg
set_option maxRecDepth 100000 in
set_option maxHeartbeats 16000000 in
theorem walk (a0 : Option Addr) (len0 cap0 : Nat) (z0 : List Int) (a1 : Int) (a2 : Int) (a3 : Int) (w : World) (w0 : IsRow .u64 w a0 len0 cap0 z0) (w1 : (Lit.int .i64 a1).wf = true) (w2 : (Lit.int .i64 a2).wf = true) (w3 : (Lit.int .u64 a3).wf = true) :
    Calls Try.prog 12 #[.slice a0 len0 cap0, .int .i64 a1, .int .i64 a2, .int .u64 a3] w fun e w' => e = .returned (.bool true) ∧ Below w.heap.size w w' := by
  obtain ⟨ids, hids, hbd, hpl⟩ := nums_of w0
  have hl := hids.len
  have hle := hids.le
  have HRt := hid_ (right_any a0 len0 cap0 ids w hids)
  by_cases hq0 : riseF 0 ids = false
  · rw [hq0] at HRt
    clear w0 w1 w2 w3
    have HQ := hid_ hq0
    clear hq0
    go_enter Try.func12, Try.ntmps12
    go_wp2_with fail
    refine Calls.mono HRt.out ?_
    rintro e w1 ⟨rfl, q, rfl⟩
    go_wp2_with fail
    refine Calls.mono (alive_any _) ?_
    rintro e w2 ⟨rfl, hb⟩
    go_wp2_with fail
    go_ret
    exact ⟨rfl, (below_drewN (Below.refl _ _) q).trans hb⟩
  have hrs : riseF 0 ids = true := by simpa using hq0
  rw [hrs] at HRt
  clear hq0
  by_cases hq1 : (10 : Int) < (len0 : Int)
  · have e1a : decide ((len0 : Int) > (10 : Int)) = true := decide_eq_true (by omega)
    have e1b : decide ((10 : Int) < (len0 : Int)) = true := decide_eq_true (by omega)
    clear w0 w1 w2 w3
    have HQ := hid_ hq1
    clear hq1
    go_enter Try.func12, Try.ntmps12
    go_wp2_with fail
    refine Calls.mono HRt.out ?_
    rintro e w1 ⟨rfl, q, rfl⟩
    go_wp2_with fail
    refine Calls.mono (alive_any _) ?_
    rintro e w2 ⟨rfl, hb⟩
    go_wp2_with fail
    go_ret
    exact ⟨rfl, (below_drewN (Below.refl _ _) q).trans hb⟩
  have e1a : decide ((len0 : Int) > (10 : Int)) = false := decide_eq_false (by omega)
  have e1b : decide ((10 : Int) < (len0 : Int)) = false := decide_eq_false (by omega)
  by_cases hq2 : a1 < (1 : Int)
  · have e2a : decide (a1 < (1 : Int)) = true := decide_eq_true (by omega)
    clear w0 w1 w2 w3
    have HQ := hid_ hq2
    clear hq2
    go_enter Try.func12, Try.ntmps12
    go_wp2_with fail
    refine Calls.mono HRt.out ?_
    rintro e w1 ⟨rfl, q, rfl⟩
    go_wp2_with fail
    refine Calls.mono (alive_any _) ?_
    rintro e w2 ⟨rfl, hb⟩
    go_wp2_with fail
    go_ret
    exact ⟨rfl, (below_drewN (Below.refl _ _) q).trans hb⟩
  have e2a : decide (a1 < (1 : Int)) = false := decide_eq_false (by omega)
  by_cases hq3 : (8 : Int) < a1
  · have e3a : decide (a1 > (8 : Int)) = true := decide_eq_true (by omega)
    have e3b : decide ((8 : Int) < a1) = true := decide_eq_true (by omega)
    clear w0 w1 w2 w3
    have HQ := hid_ hq3
    clear hq3
    go_enter Try.func12, Try.ntmps12
    go_wp2_with fail
    refine Calls.mono HRt.out ?_
    rintro e w1 ⟨rfl, q, rfl⟩
    go_wp2_with fail
    refine Calls.mono (alive_any _) ?_
    rintro e w2 ⟨rfl, hb⟩
    go_wp2_with fail
    go_ret
    exact ⟨rfl, (below_drewN (Below.refl _ _) q).trans hb⟩
  have e3a : decide (a1 > (8 : Int)) = false := decide_eq_false (by omega)
  have e3b : decide ((8 : Int) < a1) = false := decide_eq_false (by omega)
  by_cases hq4 : a2 < (0 : Int)
  · have e4a : decide (a2 < (0 : Int)) = true := decide_eq_true (by omega)
    clear w0 w1 w2 w3
    have HQ := hid_ hq4
    clear hq4
    go_enter Try.func12, Try.ntmps12
    go_wp2_with fail
    refine Calls.mono HRt.out ?_
    rintro e w1 ⟨rfl, q, rfl⟩
    go_wp2_with fail
    refine Calls.mono (alive_any _) ?_
    rintro e w2 ⟨rfl, hb⟩
    go_wp2_with fail
    go_ret
    exact ⟨rfl, (below_drewN (Below.refl _ _) q).trans hb⟩
  have e4a : decide (a2 < (0 : Int)) = false := decide_eq_false (by omega)
  by_cases hq5 : (len0 : Int) < a2
  · have e5a : decide (a2 > (len0 : Int)) = true := decide_eq_true (by omega)
    have e5b : decide ((len0 : Int) < a2) = true := decide_eq_true (by omega)
    clear w0 w1 w2 w3
    have HQ := hid_ hq5
    clear hq5
    go_enter Try.func12, Try.ntmps12
    go_wp2_with fail
    refine Calls.mono HRt.out ?_
    rintro e w1 ⟨rfl, q, rfl⟩
    go_wp2_with fail
    refine Calls.mono (alive_any _) ?_
    rintro e w2 ⟨rfl, hb⟩
    go_wp2_with fail
    go_ret
    exact ⟨rfl, (below_drewN (Below.refl _ _) q).trans hb⟩
  have e5a : decide (a2 > (len0 : Int)) = false := decide_eq_false (by omega)
  have e5b : decide ((len0 : Int) < a2) = false := decide_eq_false (by omega)
  obtain ⟨p, rfl⟩ : ∃ p : Nat, a1 = (p : Int) := ⟨a1.toNat, by omega⟩
  obtain ⟨n, rfl⟩ : ∃ n : Nat, a2 = (n : Int) := ⟨a2.toNat, by omega⟩
  obtain ⟨t, rfl, ht⟩ := u64_of w3
  clear w1 w2 w3
  have hcap := hids.cap
  have hmax := hids.max
  have hn1 : n ≤ len0 := by omega
  have hp1 : 1 ≤ p := by omega
  have hp2 : p ≤ 8 := by omega
  have hl1 : len0 ≤ 10 := by omega
  have hra := hid_ (hids.upto n hn1)
  have Hr1 := hid_ (rise_sub hrs (List.take_sublist n ids) (Nat.le_refl 0))
  have Hr2 := hid_ (rise_sub hrs (List.drop_sublist n ids) (Nat.le_refl 0))
  have Hids := hid_ hids
  have HL := hid_ hl
  have Hrs := hid_ hrs
  clear hids w0 hbd hrs hl
  by_cases hcn : cap0 = n
  · have q1 : n = len0 := by omega
    subst q1
    have q2 : n = cap0 := hcn.symm
    clear hcn
    subst q2
    have Hrb := hid_ (num_end Hids.out rfl)
    have HM := hid_ hmax
    have HT := hid_ ht
    clear hle hmax ht hcap hn1 hpl
    go_enter Try.func12, Try.ntmps12
    go_wp2_with fail
    refine Calls.mono HRt.out ?_
    rintro e w1 ⟨rfl, q, rfl⟩
    have Hb1 := hid_ (below_drewN (Below.refl w.heap.size w) q)
    generalize w.drewN q = w1 at *
    go_wp2_with fail
    refine Calls.mono (make_any a0 n n (ids.take n) p w1 (hra.out.below Hb1.out) Hr1.out (by omega) (by omega) (by omega)) ?_
    rintro e w2 ⟨A2, N2, c2, r2, rfl, row2, s2, p2, hb2⟩
    have R2 := hid_ (And.intro row2 (And.intro s2 p2))
    have Hb2 := hid_ (Hb1.out.trans (hb2.mono Hb1.out.size))
    have Hc2 := hid_ hb2
    clear row2 s2 p2 hb2
    go_wp2_with fail
    refine Calls.mono (make_any a0 0 0 (ids.drop n) p w2 (Hrb.out.below Hb2.out) Hr2.out (by omega) (by omega) (by omega)) ?_
    rintro e w3 ⟨A3, N3, c3, r3, rfl, row3, s3, p3, hb3⟩
    have R3 := hid_ (And.intro row3 (And.intro s3 p3))
    have Hb3 := hid_ (Hb2.out.trans (hb3.mono Hb2.out.size))
    have Hc3 := hid_ hb3
    clear row3 s3 p3 hb3
    go_wp2_with fail
    refine Calls.mono (make_any a0 n n ids p w3 (Hids.out.below Hb3.out) Hrs.out (by omega) (by omega) (by omega)) ?_
    rintro e w4 ⟨A4, N4, c4, r4, rfl, row4, s4, p4, hb4⟩
    have R4 := hid_ (And.intro row4 (And.intro s4 p4))
    have Hb4 := hid_ (Hb3.out.trans (hb4.mono Hb3.out.size))
    have Hc4 := hid_ hb4
    clear row4 s4 p4 hb4
    have Hlen := hid_ (show ids.length ≤ 16 by rw [HL.out]; omega)
    have Ho4 := hid_ (fun (W : World) (hw : Below w4.heap.size w4 W) => Owner_any A4 N4 c4 r4 t W (R4.out.1.below hw) R4.out.2.1 (ring_small R4.out.1 R4.out.2.2 Hlen.out (by omega)))
    have Ho2 := hid_ (fun (W : World) (hw : Below w2.heap.size w2 W) => Owner_any A2 N2 c2 r2 t W (R2.out.1.below hw) R2.out.2.1 (ring_small R2.out.1 R2.out.2.2 (by have := Hlen.out; rw [List.length_take]; omega) (by omega)))
    have Ho3 := hid_ (fun (W : World) (hw : Below w3.heap.size w3 W) => Owner_any A3 N3 c3 r3 t W (R3.out.1.below hw) R3.out.2.1 (ring_small R3.out.1 R3.out.2.2 (by have := Hlen.out; rw [List.length_drop]; omega) (by omega)))
    have hov := own_two R2.out.2.1 R3.out.2.1 R4.out.2.1 R2.out.2.2 R3.out.2.2 (by rw [List.take_append_drop]; exact R4.out.2.2) (mixN t)
    have hz := own_zero R4.out.2.1 R4.out.2.2 Hrs.out hp1 (mixN t)
    rw [HL.out] at hz
    generalize ownF r4 (mixN t) = o at *
    generalize ownF r2 (mixN t) = oa at *
    generalize ownF r3 (mixN t) = ob at *
    have hz2 : (o = 0 ∧ n = 0) ∨ (o ≠ 0 ∧ 0 < n) := by
      rcases hz with ⟨h1, h2⟩ | ⟨h1, h2⟩
      · refine .inl ⟨h1, ?_⟩
        have := HL.out
        rw [h2] at this
        exact this.symm
      · exact .inr ⟨h1, h2⟩
    clear hz
    have hz3 : ∃ z : Bool, (o != 0) = z ∧ ((o : Int) != 0) = z ∧ decide ((n : Int) > 0) = z ∧ decide ((0 : Int) < (n : Int)) = z ∧ decide (0 < n) = z := by
      rcases hz2 with ⟨h1, h2⟩ | ⟨h1, h2⟩
      · subst h1
        exact ⟨false, by decide, by decide, decide_eq_false (by omega), decide_eq_false (by omega), decide_eq_false (by omega)⟩
      · exact ⟨true, by simpa using h1, by simp; omega, decide_eq_true (by omega), decide_eq_true (by omega), decide_eq_true h2⟩
    clear hz2
    obtain ⟨z, z1, z2, z3, z4, z5⟩ := hz3
    have HZ4 := hid_ z4
    by_cases hoa : o = oa
    · subst hoa
      go_wp2_with fail
      refine Calls.mono (Ho4.out _ (Below.refl _ _)) ?_
      rintro e w5 ⟨rfl, hb5⟩
      have Hb5 := hid_ (Hb4.out.trans (hb5.mono Hb4.out.size))
      have Hc5 := hid_ hb5
      clear hb5
      go_wp2_with fail
      refine Calls.mono (Ho2.out _ (Hc3.out.trans ((Hc4.out.trans (Hc5.out.mono Hc4.out.size)).mono Hc3.out.size))) ?_
      rintro e w6 ⟨rfl, hb6⟩
      have Hb6 := hid_ (Hb5.out.trans (hb6.mono Hb5.out.size))
      clear hb6
      go_wp2_with fail
      refine Calls.mono (alive_any _) ?_
      rintro e w7 ⟨rfl, hb7⟩
      have Hb7 := hid_ (Hb6.out.trans (hb7.mono Hb6.out.size))
      clear hb7
      cases z
      all_goals
        go_wp2_with fail
        go_ret
        exact ⟨by first | rfl | simp, Hb7.out⟩
    · have hob : o = ob := by
        rcases hov with h | h
        · exact absurd h hoa
        · exact h
      subst hob
      have g1 : (o == oa) = false := by simpa using hoa
      have g2 : ((o : Int) == (oa : Int)) = false := by simp; omega
      clear hov
      have HOA := hid_ hoa
      clear hoa
      go_wp2_with fail
      refine Calls.mono (Ho4.out _ (Below.refl _ _)) ?_
      rintro e w5 ⟨rfl, hb5⟩
      have Hb5 := hid_ (Hb4.out.trans (hb5.mono Hb4.out.size))
      have Hc5 := hid_ hb5
      clear hb5
      go_wp2_with fail
      refine Calls.mono (Ho2.out _ (Hc3.out.trans ((Hc4.out.trans (Hc5.out.mono Hc4.out.size)).mono Hc3.out.size))) ?_
      rintro e w6 ⟨rfl, hb6⟩
      have Hb6 := hid_ (Hb5.out.trans (hb6.mono Hb5.out.size))
      have Hc6 := hid_ hb6
      clear hb6
      go_wp2_with fail
      refine Calls.mono (Ho3.out _ (Hc4.out.trans ((Hc5.out.trans (Hc6.out.mono Hc5.out.size)).mono Hc4.out.size))) ?_
      rintro e w7 ⟨rfl, hb7⟩
      have Hb7 := hid_ (Hb6.out.trans (hb7.mono Hb6.out.size))
      clear hb7
      go_wp2_with fail
      refine Calls.mono (alive_any _) ?_
      rintro e w8 ⟨rfl, hb8⟩
      have Hb8 := hid_ (Hb7.out.trans (hb8.mono Hb7.out.size))
      clear hb8
      cases z
      all_goals
        go_wp2_with fail
        go_ret
        exact ⟨by first | rfl | simp, Hb8.out⟩
  · obtain ⟨b, off, rfl⟩ : ∃ b off, a0 = some ⟨b, off, none⟩ := by
      rcases hpl with h | h
      · omega
      · exact h
    have Hrb := hid_ (num_from Hids.out n hn1 hcn)
    have HM := hid_ hmax
    have HT := hid_ ht
    clear hle hmax ht hpl
    go_enter Try.func12, Try.ntmps12
    go_wp2_with fail
    refine Calls.mono HRt.out ?_
    rintro e w1 ⟨rfl, q, rfl⟩
    have Hb1 := hid_ (below_drewN (Below.refl w.heap.size w) q)
    generalize w.drewN q = w1 at *
    go_wp2_with fail
    refine Calls.mono (make_any _ n cap0 (ids.take n) p w1 (hra.out.below Hb1.out) Hr1.out (by omega) (by omega) (by omega)) ?_
    rintro e w2 ⟨A2, N2, c2, r2, rfl, row2, s2, p2, hb2⟩
    have R2 := hid_ (And.intro row2 (And.intro s2 p2))
    have Hb2 := hid_ (Hb1.out.trans (hb2.mono Hb1.out.size))
    have Hc2 := hid_ hb2
    clear row2 s2 p2 hb2
    go_wp2_with fail
    refine Calls.mono (make_any _ _ _ (ids.drop n) p w2 (Hrb.out.below Hb2.out) Hr2.out (by omega) (by omega) (by omega)) ?_
    rintro e w3 ⟨A3, N3, c3, r3, rfl, row3, s3, p3, hb3⟩
    have R3 := hid_ (And.intro row3 (And.intro s3 p3))
    have Hb3 := hid_ (Hb2.out.trans (hb3.mono Hb2.out.size))
    have Hc3 := hid_ hb3
    clear row3 s3 p3 hb3
    go_wp2_with fail
    refine Calls.mono (make_any _ len0 cap0 ids p w3 (Hids.out.below Hb3.out) Hrs.out (by omega) (by omega) (by omega)) ?_
    rintro e w4 ⟨A4, N4, c4, r4, rfl, row4, s4, p4, hb4⟩
    have R4 := hid_ (And.intro row4 (And.intro s4 p4))
    have Hb4 := hid_ (Hb3.out.trans (hb4.mono Hb3.out.size))
    have Hc4 := hid_ hb4
    clear row4 s4 p4 hb4
    have Hlen := hid_ (show ids.length ≤ 16 by rw [HL.out]; omega)
    have Ho4 := hid_ (fun (W : World) (hw : Below w4.heap.size w4 W) => Owner_any A4 N4 c4 r4 t W (R4.out.1.below hw) R4.out.2.1 (ring_small R4.out.1 R4.out.2.2 Hlen.out (by omega)))
    have Ho2 := hid_ (fun (W : World) (hw : Below w2.heap.size w2 W) => Owner_any A2 N2 c2 r2 t W (R2.out.1.below hw) R2.out.2.1 (ring_small R2.out.1 R2.out.2.2 (by have := Hlen.out; rw [List.length_take]; omega) (by omega)))
    have Ho3 := hid_ (fun (W : World) (hw : Below w3.heap.size w3 W) => Owner_any A3 N3 c3 r3 t W (R3.out.1.below hw) R3.out.2.1 (ring_small R3.out.1 R3.out.2.2 (by have := Hlen.out; rw [List.length_drop]; omega) (by omega)))
    have hov := own_two R2.out.2.1 R3.out.2.1 R4.out.2.1 R2.out.2.2 R3.out.2.2 (by rw [List.take_append_drop]; exact R4.out.2.2) (mixN t)
    have hz := own_zero R4.out.2.1 R4.out.2.2 Hrs.out hp1 (mixN t)
    rw [HL.out] at hz
    generalize ownF r4 (mixN t) = o at *
    generalize ownF r2 (mixN t) = oa at *
    generalize ownF r3 (mixN t) = ob at *
    have hz2 : (o = 0 ∧ len0 = 0) ∨ (o ≠ 0 ∧ 0 < len0) := by
      rcases hz with ⟨h1, h2⟩ | ⟨h1, h2⟩
      · refine .inl ⟨h1, ?_⟩
        have := HL.out
        rw [h2] at this
        exact this.symm
      · exact .inr ⟨h1, h2⟩
    clear hz
    have hz3 : ∃ z : Bool, (o != 0) = z ∧ ((o : Int) != 0) = z ∧ decide ((len0 : Int) > 0) = z ∧ decide ((0 : Int) < (len0 : Int)) = z ∧ decide (0 < len0) = z := by
      rcases hz2 with ⟨h1, h2⟩ | ⟨h1, h2⟩
      · subst h1
        exact ⟨false, by decide, by decide, decide_eq_false (by omega), decide_eq_false (by omega), decide_eq_false (by omega)⟩
      · exact ⟨true, by simpa using h1, by simp; omega, decide_eq_true (by omega), decide_eq_true (by omega), decide_eq_true h2⟩
    clear hz2
    obtain ⟨z, z1, z2, z3, z4, z5⟩ := hz3
    have HZ4 := hid_ z4
    by_cases hoa : o = oa
    · subst hoa
      go_wp2_with fail
      refine Calls.mono (Ho4.out _ (Below.refl _ _)) ?_
      rintro e w5 ⟨rfl, hb5⟩
      have Hb5 := hid_ (Hb4.out.trans (hb5.mono Hb4.out.size))
      have Hc5 := hid_ hb5
      clear hb5
      go_wp2_with fail
      refine Calls.mono (Ho2.out _ (Hc3.out.trans ((Hc4.out.trans (Hc5.out.mono Hc4.out.size)).mono Hc3.out.size))) ?_
      rintro e w6 ⟨rfl, hb6⟩
      have Hb6 := hid_ (Hb5.out.trans (hb6.mono Hb5.out.size))
      clear hb6
      go_wp2_with fail
      refine Calls.mono (alive_any _) ?_
      rintro e w7 ⟨rfl, hb7⟩
      have Hb7 := hid_ (Hb6.out.trans (hb7.mono Hb6.out.size))
      clear hb7
      cases z
      all_goals
        go_wp2_with fail
        go_ret
        exact ⟨by first | rfl | simp, Hb7.out⟩
    · have hob : o = ob := by
        rcases hov with h | h
        · exact absurd h hoa
        · exact h
      subst hob
      have g1 : (o == oa) = false := by simpa using hoa
      have g2 : ((o : Int) == (oa : Int)) = false := by simp; omega
      clear hov
      have HOA := hid_ hoa
      clear hoa
      go_wp2_with fail
      refine Calls.mono (Ho4.out _ (Below.refl _ _)) ?_
      rintro e w5 ⟨rfl, hb5⟩
      have Hb5 := hid_ (Hb4.out.trans (hb5.mono Hb4.out.size))
      have Hc5 := hid_ hb5
      clear hb5
      go_wp2_with fail
      refine Calls.mono (Ho2.out _ (Hc3.out.trans ((Hc4.out.trans (Hc5.out.mono Hc4.out.size)).mono Hc3.out.size))) ?_
      rintro e w6 ⟨rfl, hb6⟩
      have Hb6 := hid_ (Hb5.out.trans (hb6.mono Hb5.out.size))
      have Hc6 := hid_ hb6
      clear hb6
      go_wp2_with fail
      refine Calls.mono (Ho3.out _ (Hc4.out.trans ((Hc5.out.trans (Hc6.out.mono Hc5.out.size)).mono Hc4.out.size))) ?_
      rintro e w7 ⟨rfl, hb7⟩
      have Hb7 := hid_ (Hb6.out.trans (hb7.mono Hb6.out.size))
      clear hb7
      go_wp2_with fail
      refine Calls.mono (alive_any _) ?_
      rintro e w8 ⟨rfl, hb8⟩
      have Hb8 := hid_ (Hb7.out.trans (hb8.mono Hb7.out.size))
      clear hb8
      cases z
      all_goals
        go_wp2_with fail
        go_ret
        exact ⟨by first | rfl | simp, Hb8.out⟩

set_option maxRecDepth 100000 in
theorem lifted (os : Os) (started : os.Started) (H : Type) (enc : TypeId × Value → H) :
    ReturnsInHanded {} Try.checked os 12 .any (Rows.ringTwoSpec.pre6 enc Try.prog Try.f12 Rows.ringTwoRow.domain false) (Rows.ringTwoSpec.post enc Try.prog Try.f12 false true false false) := by
  refine returnsInHanded_of_change (C := Try.checked) own started (by kernel_rfl) Try.func12
    (ChangeSpec.witness6 (enc := enc) (C := Try.checked) false ⟨#[], #[.slice none 0 0, .int .i64 0, .int .i64 0, .int .u64 0], []⟩ 8 (by kernel_rfl) (by kernel_rfl) (by kernel_rfl) (by kernel_rfl)) ?_
  intro W base args ds gs before hval0 hW hcnd _
  have hval : ∀ (j : Nat) t v, Try.f12.params[j]? = some t → args[j]? = some v → Value.okWide Try.prog W .any base t v := hval0
  have hW' := hW
  obtain ⟨p, q, hA0, hV, rfl, hfz, hnd⟩ := hW
  have hA : DataW.TrodAll enc Try.prog W 0 (fun _ => true) true Try.f12.params.toList args.toList ds p := hA0
  rw [Try.params12] at hA hval
  obtain ⟨v0, vs0, d0, ds0, p0, q0, hargs, rfl, rfl, h0, r0⟩ := trodAll_cons hA
  obtain ⟨v1, vs1, d1, ds1, p1, q1, rfl, rfl, rfl, h1, r1⟩ := trodAll_cons r0
  obtain ⟨v2, vs2, d2, ds2, p2, q2, rfl, rfl, rfl, h2, r2⟩ := trodAll_cons r1
  obtain ⟨v3, vs3, d3, ds3, p3, q3, rfl, rfl, rfl, h3, r3⟩ := trodAll_cons r2
  obtain ⟨rfl, rfl, rfl⟩ := trodAll_nil r3
  obtain rfl : args = #[v0, v1, v2, v3] := by cases args; simp_all
  obtain ⟨rfl, rfl⟩ := trodVars_none hV
  obtain ⟨a0, len0, cap0, rfl⟩ := okWide_slice Try.underlying52 (hval 0 52 v0 rfl rfl)
  have k0 := h0
  have lt0 : ∀ x ∈ p0, x.block < W.heap.size := by obtain ⟨m, hm⟩ := k0; exact DataW.trod_lt m _ _ _ hm
  obtain ⟨z0, w0⟩ : ∃ zs, IsRow .u64 W a0 len0 cap0 zs := by
    obtain ⟨fuel, hf⟩ := h0
    rcases open_ints Try.underlying52 Try.underlying60 (by kernel_rfl) hf with ⟨hcs, _⟩ | ⟨x, l, c, zs, hcs, _, hl, hm, hz, _, hcell, hwz⟩
    · simp [Value.cells] at hcs
      obtain ⟨rfl, rfl, rfl⟩ := hcs
      exact ⟨[], .inl ⟨rfl, rfl, rfl, rfl⟩⟩
    · simp [Value.cells] at hcs
      obtain ⟨rfl, rfl, rfl⟩ := hcs
      exact ⟨zs, .inr ⟨_, rfl, hl, hm, by simpa using hz, hcell, hwz⟩⟩
  obtain ⟨a1, rfl, rfl, rfl, w1⟩ := open_int Try.underlying3 (hval 1 3 v1 rfl rfl) h1
  obtain ⟨a2, rfl, rfl, rfl, w2⟩ := open_int Try.underlying3 (hval 2 3 v2 rfl rfl) h2
  obtain ⟨a3, rfl, rfl, rfl, w3⟩ := open_int Try.underlying60 (hval 3 60 v3 rfl rfl) h3
  clear hA0 hval0
  refine (walk a0 len0 cap0 z0 a1 a2 a3 W w0 w1 w2 w3).mono fun e W' ⟨he, bel⟩ => ?_
  subst he
  exact ⟨_, rfl, _, _, _, [], _, [], hW', trodAll_mk1 (shut_bool Try.underlying4 _), (trodAll_cons_mk (Below.trod laidOut (by kernel_rfl) (of_decide_eq_true (by kernel_rfl)) k0 bel lt0) (trodAll_cons_mk (shut_int Try.underlying3 w1) (trodAll_cons_mk (shut_int Try.underlying3 w2) (trodAll_cons_mk (shut_int Try.underlying60 w3) trodAll_mk0)))), rfl, bel.frame _, fun h => by cases h⟩

theorem over : Rows.ringTwoRow.holds Try.pinned (OpenSpec.ofChange Rows.ringTwoSpec) :=
  OpenClaim.holds_of_wide 12 Try.f12 rfl rfl rfl rfl rfl rfl rfl ⟨rfl, rfl, rfl, rfl, rfl⟩ rfl rfl rfl rfl rfl (by kernel_rfl) Try.func12 (by kernel_rfl)
    (of_decide_eq_true (by kernel_rfl)) (by unfold Func.isWrapper; first | (rw [if_pos (by decide +kernel)]; kernel_rfl) | (rw [if_neg (by decide +kernel)]; exact ⟨rfl, rfl⟩))
    (fun os started H enc _ => lifted os started H enc)

theorem proved : Rows.RingTwoSaid := over
#print axioms proved
end Go.Proofs.Ytdkldcdiogcibaa.ringTwo
