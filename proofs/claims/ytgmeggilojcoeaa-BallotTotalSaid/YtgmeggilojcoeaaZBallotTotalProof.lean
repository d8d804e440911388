/-
  BallotTotal: of whatever three ballots the program's Less is a strict order that goes on and tells any two that are not the same, and of whatever list its Max is one of them, and above none; no condition on the input.
  The frame round the walk is written by the guide's own program for this statement.
-/
import Derived.Test.YtgmeggilojcoeaaZGBD
import Derived.Test.YtgmeggilojcoeaaRows
import Derived.WalkKit
import Derived.ProofKit
import Derived.OpenShut
import Derived.ShutString
import Derived.ChangeOld
import Derived.Below
namespace Go.Proofs.Ytgmeggilojcoeaa.ballotTotal
set_option linter.unusedSimpArgs false
set_option linter.unusedVariables false
open Go.ChangeShapes Go.WideShapes Go.ChangeAt Go.RowKit
open Go.ChangeMaps (open_string shut_string)
set_option linter.unusedVariables false

theorem own : ownKnob Try.prog.godebug = none := by kernel_rfl
theorem laidOut : laidOutB Try.prog = true := by kernel_rfl

/-- WHAT THE WALK IS TOLD OF A SLICE OF INTEGERS THAT CAME IN: it is nil; or it leads to a row of 'cap' cells, the numbers 'zs' (the first 'len' are its elements, the rest its spare room), each fitting its kind. -/
def IsRow (k : IntKind) (w : World) (a : Option Addr) (len cap : Nat) (zs : List Int) : Prop :=
  (a = none ∧ len = 0 ∧ cap = 0 ∧ zs = []) ∨
  ∃ x, a = some x ∧ len ≤ cap ∧ cap ≤ maxLen ∧ zs.length = cap ∧ (∀ i, i < zs.length → w.cell? (x.add i) = some (.int k (zs.getD i 0))) ∧ ∀ n ∈ zs, (Lit.int k n).wf = true

open Rg Bl Go.Sort
set_option maxRecDepth 100000 in
set_option maxHeartbeats 16000000 in
theorem walk (v0 : Value) (v1 : Value) (v2 : Value) (v3 : Value) (w : World) (w0 : Bl.BalV w v0) (w1 : Bl.BalV w v1) (w2 : Bl.BalV w v2) (w3 : Bl.BalsV w v3) :
    Calls Try.prog 11 #[v0, v1, v2, v3] w fun e w' => e = .returned (.bool true) ∧ Below w.heap.size w w' := by
  obtain ⟨a, hwa, rfl⟩ := w0
  obtain ⟨b, hwb, rfl⟩ := w1
  obtain ⟨c, hwc, rfl⟩ := w2
  obtain ⟨A, n, cp, l, rfl, hl, hwl⟩ := w3
  have hle := hl.le
  have HA := hid_ (fun W => balive_any W)
  have HB0 := hid_ ((((Below.refl w.heap.size w).alloc (Nat.le_refl _) (.cells #[.int .u64 (a.pos : Nat), .int .u64 (a.id : Nat)] 66)).alloc (by simp) (.cells #[.int .u64 (b.pos : Nat), .int .u64 (b.id : Nat)] 66)).alloc (by simp; omega) (.cells #[.int .u64 (c.pos : Nat), .int .u64 (c.id : Nat)] 66))
  by_cases hbig : 200 < n
  · have q0 : decide ((n : Int) > 200) = true := decide_eq_true (by omega)
    have r0 : decide ((200 : Int) < (n : Int)) = true := decide_eq_true (by omega)
    have s0 : decide (200 < n) = true := decide_eq_true hbig
    clear hbig hl hwl hwa hwb hwc
    go_enter Try.func11, Try.ntmps11
    go_wp2_with fail
    (with_reducible refine Calls.mono (HA.out _) ?_)
    rintro e wz ⟨rfl, hbz⟩
    have HBz := hid_ (HB0.out.trans (hbz.mono HB0.out.size))
    clear hbz
    go_wp2_with fail
    go_ret
    exact ⟨rfl, HBz.out⟩
  · have q0 : decide ((n : Int) > 200) = false := decide_eq_false (by omega)
    have r0 : decide ((200 : Int) < (n : Int)) = false := decide_eq_false (by omega)
    have s0 : decide (200 < n) = false := decide_eq_false hbig
    have HR := hid_ hl
    have HL := hid_ hl.len
    have HM := hid_ (fun (W : World) (hw : Below w.heap.size w W) => max_any A n cp l W (hl.below hw))
    have HGe := hid_ (fun (k : Nat) (hk : k < l.length) => max_ge l hk)
    have HIs := hid_ (isF_max l)
    have HLm := hid_ (fun (m z : BalD) (W : World) => show Calls Try.prog 35 #[.agg #[.int .u64 (m.pos : Nat), .int .u64 (m.id : Nat)], .agg #[.int .u64 (z.pos : Nat), .int .u64 (z.id : Nat)]] W (RetB W.heap.size W (.bool (lessB m z))) from less_any m z W)
    have hp := less_two a b
    have kn0 : ∀ w, (binOp .eql 66 (.agg #[.int .u64 (a.pos : Nat), .int .u64 (a.id : Nat)]) (.agg #[.int .u64 (b.pos : Nat), .int .u64 (b.id : Nat)])).run Try.prog w = .ok (.bool (sameB a b)) w := fun w => bal_eql a b w
    have H0 := hid_ (And.intro ((((whole_new w 66 #[.int .u64 (a.pos : Nat), .int .u64 (a.id : Nat)]).alloc (.cells #[.int .u64 (b.pos : Nat), .int .u64 (b.id : Nat)] 66)).alloc (.cells #[.int .u64 (c.pos : Nat), .int .u64 (c.id : Nat)] 66))) (And.intro ((whole_at (w.alloc (.cells #[.int .u64 (a.pos : Nat), .int .u64 (a.id : Nat)] 66)) (w.heap.size + 1) 66 #[.int .u64 (b.pos : Nat), .int .u64 (b.id : Nat)] (by simp)).alloc (.cells #[.int .u64 (c.pos : Nat), .int .u64 (c.id : Nat)] 66)) (whole_at ((w.alloc (.cells #[.int .u64 (a.pos : Nat), .int .u64 (a.id : Nat)] 66)).alloc (.cells #[.int .u64 (b.pos : Nat), .int .u64 (b.id : Nat)] 66)) (w.heap.size + 1 + 1) 66 #[.int .u64 (c.pos : Nat), .int .u64 (c.id : Nat)] (by simp))))
    generalize maxF l = m at *
    obtain ⟨wb, hwb'⟩ : ∃ wb : World, wb = ((w.alloc (.cells #[.int .u64 (a.pos : Nat), .int .u64 (a.id : Nat)] 66)).alloc (.cells #[.int .u64 (b.pos : Nat), .int .u64 (b.id : Nat)] 66)).alloc (.cells #[.int .u64 (c.pos : Nat), .int .u64 (c.id : Nat)] 66) := ⟨_, rfl⟩
    rw [← hwb'] at HB0 H0
    have Lrg : ∀ (x y : BalD) (z : Bool), lessB x y = z → ∀ p : Regrown, Calls Try.prog 35 #[.agg #[.int .u64 (x.pos : Nat), .int .u64 (x.id : Nat)], .agg #[.int .u64 (y.pos : Nat), .int .u64 (y.id : Nat)]] (grow (redrawn wb p.d) p.os) fun e w'' => e = .returned (.bool z) ∧ ∃ p : Regrown, w'' = grow (redrawn wb p.d) p.os := fun x y z h p => by
      subst h
      exact Calls.regrown_of (less_any x y _)
    have HLrg := hid_ Lrg
    have cAA := Lrg a a false (less_self a)
    have HON := hid_ (fun h1 h2 => less_on (a := a) (b := b) (c := c) h1 h2)
    have a0 := cell_regrown (H0.out.1.cell 0 (.int .u64 (a.pos : Nat)) rfl)
    have a1 := cell_regrown (H0.out.1.cell 1 (.int .u64 (a.id : Nat)) rfl)
    have b0 := cell_regrown (H0.out.2.1.cell 0 (.int .u64 (b.pos : Nat)) rfl)
    have b1 := cell_regrown (H0.out.2.1.cell 1 (.int .u64 (b.id : Nat)) rfl)
    have c0 := cell_regrown (H0.out.2.2.cell 0 (.int .u64 (c.pos : Nat)) rfl)
    have c1 := cell_regrown (H0.out.2.2.cell 1 (.int .u64 (c.id : Nat)) rfl)
    clear hbig hl hwl hwa hwb hwc Lrg
    cases hab : lessB a b
    · have cAB := HLrg.out a b false hab
      have hs : sameB a b = !(lessB b a) := by rw [hp.1, hab, Bool.false_or]
      rw [hs] at kn0
      cases hba : lessB b a
      · have cBA := HLrg.out b a false hba
        have cBC := cBA
        have cAC := cBA
        rw [hba] at kn0
        clear hp hab hs hba
        go_enter Try.func11, Try.ntmps11
        go_wp2_with fail
        rw [← hwb']
        clear hwb'
        refine wp_region_quiet_below (by first | assumption | kernel_rfl) (by kernel_rfl) ?_
        iterate 32 (with_reducible refine wpQuiet_step (fun K hK => ?_); go_simp; first | (with_reducible refine hK _ ?_; clear hK K) | (simp only [undef, reduceCtorEq, if_false]; with_reducible refine hK _ ?_; clear hK K) | (apply Exists.intro; refine ⟨fun _ => ?_, hK _ ?_⟩; (first | (with_reducible exact cAA _) | (with_reducible exact cAB _) | (with_reducible exact cBA _) | (with_reducible exact cBC _) | (with_reducible exact cAC _)); clear hK K))
        refine wpQuiet_nil ?_
        intro _ hw'
        obtain ⟨⟨dq, osq⟩, hw''⟩ := hw'
        obtain ⟨w1, hw1⟩ : ∃ w1 : World, w1 = grow (redrawn wb dq) osq := ⟨_, rfl⟩
        have HB1 := hid_ (show Below w.heap.size w w1 by rw [hw1]; exact HB0.out.trans ((below_regrown wb dq osq).mono HB0.out.size))
        rw [← hw1] at hw''
        subst hw''
        clear hw1 a0 a1 b0 b1 c0 c1
        go_wp2_with fail
        (with_reducible refine Calls.mono (HM.out _ HB1.out) ?_)
        rintro e w2 ⟨rfl, hb2⟩
        have HB2 := hid_ (Below.alloc (HB1.out.trans (hb2.mono HB1.out.size)) (HB1.out.trans (hb2.mono HB1.out.size)).size (.cells #[.int .u64 (m.pos : Nat), .int .u64 (m.id : Nat)] 66))
        have HW2 := hid_ (whole_new w2 66 #[.int .u64 (m.pos : Nat), .int .u64 (m.id : Nat)])
        clear hb2
        have HI0 := hid_ (show isF l m 0 = ((n : Int) == 0) by unfold isF; rw [List.take_zero, HL.out, Bool.eq_iff_iff]; simp)
        have HI0' := hid_ (show isF l m 0 = (n == 0) by unfold isF; rw [List.take_zero, HL.out, Bool.eq_iff_iff]; simp)
        go_wp2_with fail
        generalize w2.alloc (.cells #[.int .u64 (m.pos : Nat), .int .u64 (m.id : Nat)] 66) = w3 at *
        go_loopw [10, 11] (fun vs vi wr => ∃ k : Nat, k ≤ n ∧ vi = .int .i64 (k : Nat) ∧ vs = .bool (isF l m k) ∧ Hid (Below w.heap.size w wr) ∧ Hid (Whole wr w2.heap.size 66 (balCells m))) (fun _ vi _ => n - (intOf vi).toNat)
        case atStart => exact ⟨0, Nat.zero_le _, rfl, by first | rw [HI0.out] | rw [HI0'.out], HB2, HW2⟩
        case round =>
          obtain ⟨k, hk, rfl, rfl, HB, HW⟩ := hrel
          by_cases hlt : k < n
          · have hkl : k < l.length := by rw [HL.out]; exact hlt
            obtain ⟨g, off, rfl, hbl, c0, c1⟩ := bal_at (HR.out.below HB.out) hkl
            have x1 : (k : Int) < (n : Int) := by omega
            have x2 : (0 : Int) ≤ (k : Int) := by omega
            have HST := hid_ (isF_succ (m := m) hkl)
            have HLz := hid_ (HLm.out m l[k])
            have hge := HGe.out k hkl
            rw [hge] at HLz
            have HK := hid_ hlt
            have kn : ∀ w, (binOp .eql 66 (.agg #[.int .u64 (l[k].pos : Nat), .int .u64 (l[k].id : Nat)]) (.agg #[.int .u64 (m.pos : Nat), .int .u64 (m.id : Nat)])).run Try.prog w = .ok (.bool (sameB l[k] m)) w := fun w => bal_eql l[k] m w
            generalize l[k] = z at *
            have S0 : TwoBal wr g (off + k * 2) w2.heap.size z m wr := ⟨Below.refl _ _, c0, c1, HW.out.cell 0 _ rfl, HW.out.cell 1 _ rfl⟩
            clear hlt hkl hbl c0 c1 hge
            go_wp2_with fail
            go_region_held3 (TwoBal wr g (off + k * 2) w2.heap.size z m) (first | assumption | (refine twoBal_keep (by assumption) (by assumption)) | (refine twoBal_keep (by assumption) (Below.drew (Below.refl _ _))))
              (first | (go_at_call 35; (with_reducible refine Calls.mono (HLz.out _) ?_); rintro e w' ⟨rfl, hb'⟩) | fail)
            have hS2 : TwoBal wr g (off + k * 2) w2.heap.size z m w' := by assumption
            obtain ⟨wq, hwq⟩ : ∃ wq : World, wq = w' := ⟨_, rfl⟩
            subst hwq
            have HBq := hid_ (HB.out.trans (hS2.1.mono HB.out.size))
            have HWq := hid_ (HW.out.below hS2.1 HW.out.lt)
            obtain ⟨-, y0, y1, v0, v1⟩ := hS2
            cases hz : isF l m k
            · have HF := hid_ (show isF l m (k + 1) = sameB z m by rw [HST.out, hz]; rfl)
              clear hz
              generalize sameB z m = t at *
              go_wp2_with fail
              go_quiet (fail)
              have HBq2 := hid_ (below_drewN HBq.out nq)
              have HWq2 := hid_ (HWq.out.drewN nq)
              go_wp2_with fail
              go_roundw
              case rel => exact ⟨k + 1, by have := HK.out; omega, by go_num, by rw [HF.out], HBq2, HWq2⟩
              case measure => have := HK.out; simp [intOf]; omega
            · have HF := hid_ (show isF l m (k + 1) = true by rw [HST.out, hz]; rfl)
              clear hz
              go_wp2_with fail
              go_quiet (fail)
              have HBq2 := hid_ (below_drewN HBq.out nq)
              have HWq2 := hid_ (HWq.out.drewN nq)
              go_wp2_with fail
              go_roundw
              case rel => exact ⟨k + 1, by have := HK.out; omega, by go_num, by rw [HF.out], HBq2, HWq2⟩
              case measure => have := HK.out; simp [intOf]; omega
          · obtain rfl : k = n := by omega
            have hz : isF l m k = true := by have := HIs.out; rwa [HL.out] at this
            rw [hz]
            clear hz
            go_wp2_with fail
            (with_reducible refine Calls.mono (HA.out _) ?_)
            rintro e wz ⟨rfl, hbz⟩
            have HBz := hid_ (HB.out.trans (hbz.mono HB.out.size))
            clear hbz
            go_wp2_with fail
            go_ret
            exact ⟨rfl, HBz.out⟩
      · have cBA := HLrg.out b a true hba
        have cBC := cBA
        have cAC := cBA
        rw [hba] at kn0
        clear hp hab hs hba
        go_enter Try.func11, Try.ntmps11
        go_wp2_with fail
        rw [← hwb']
        clear hwb'
        refine wp_region_quiet_below (by first | assumption | kernel_rfl) (by kernel_rfl) ?_
        iterate 32 (with_reducible refine wpQuiet_step (fun K hK => ?_); go_simp; first | (with_reducible refine hK _ ?_; clear hK K) | (simp only [undef, reduceCtorEq, if_false]; with_reducible refine hK _ ?_; clear hK K) | (apply Exists.intro; refine ⟨fun _ => ?_, hK _ ?_⟩; (first | (with_reducible exact cAA _) | (with_reducible exact cAB _) | (with_reducible exact cBA _) | (with_reducible exact cBC _) | (with_reducible exact cAC _)); clear hK K))
        refine wpQuiet_nil ?_
        intro _ hw'
        obtain ⟨⟨dq, osq⟩, hw''⟩ := hw'
        obtain ⟨w1, hw1⟩ : ∃ w1 : World, w1 = grow (redrawn wb dq) osq := ⟨_, rfl⟩
        have HB1 := hid_ (show Below w.heap.size w w1 by rw [hw1]; exact HB0.out.trans ((below_regrown wb dq osq).mono HB0.out.size))
        rw [← hw1] at hw''
        subst hw''
        clear hw1 a0 a1 b0 b1 c0 c1
        go_wp2_with fail
        (with_reducible refine Calls.mono (HM.out _ HB1.out) ?_)
        rintro e w2 ⟨rfl, hb2⟩
        have HB2 := hid_ (Below.alloc (HB1.out.trans (hb2.mono HB1.out.size)) (HB1.out.trans (hb2.mono HB1.out.size)).size (.cells #[.int .u64 (m.pos : Nat), .int .u64 (m.id : Nat)] 66))
        have HW2 := hid_ (whole_new w2 66 #[.int .u64 (m.pos : Nat), .int .u64 (m.id : Nat)])
        clear hb2
        have HI0 := hid_ (show isF l m 0 = ((n : Int) == 0) by unfold isF; rw [List.take_zero, HL.out, Bool.eq_iff_iff]; simp)
        have HI0' := hid_ (show isF l m 0 = (n == 0) by unfold isF; rw [List.take_zero, HL.out, Bool.eq_iff_iff]; simp)
        go_wp2_with fail
        generalize w2.alloc (.cells #[.int .u64 (m.pos : Nat), .int .u64 (m.id : Nat)] 66) = w3 at *
        go_loopw [10, 11] (fun vs vi wr => ∃ k : Nat, k ≤ n ∧ vi = .int .i64 (k : Nat) ∧ vs = .bool (isF l m k) ∧ Hid (Below w.heap.size w wr) ∧ Hid (Whole wr w2.heap.size 66 (balCells m))) (fun _ vi _ => n - (intOf vi).toNat)
        case atStart => exact ⟨0, Nat.zero_le _, rfl, by first | rw [HI0.out] | rw [HI0'.out], HB2, HW2⟩
        case round =>
          obtain ⟨k, hk, rfl, rfl, HB, HW⟩ := hrel
          by_cases hlt : k < n
          · have hkl : k < l.length := by rw [HL.out]; exact hlt
            obtain ⟨g, off, rfl, hbl, c0, c1⟩ := bal_at (HR.out.below HB.out) hkl
            have x1 : (k : Int) < (n : Int) := by omega
            have x2 : (0 : Int) ≤ (k : Int) := by omega
            have HST := hid_ (isF_succ (m := m) hkl)
            have HLz := hid_ (HLm.out m l[k])
            have hge := HGe.out k hkl
            rw [hge] at HLz
            have HK := hid_ hlt
            have kn : ∀ w, (binOp .eql 66 (.agg #[.int .u64 (l[k].pos : Nat), .int .u64 (l[k].id : Nat)]) (.agg #[.int .u64 (m.pos : Nat), .int .u64 (m.id : Nat)])).run Try.prog w = .ok (.bool (sameB l[k] m)) w := fun w => bal_eql l[k] m w
            generalize l[k] = z at *
            have S0 : TwoBal wr g (off + k * 2) w2.heap.size z m wr := ⟨Below.refl _ _, c0, c1, HW.out.cell 0 _ rfl, HW.out.cell 1 _ rfl⟩
            clear hlt hkl hbl c0 c1 hge
            go_wp2_with fail
            go_region_held3 (TwoBal wr g (off + k * 2) w2.heap.size z m) (first | assumption | (refine twoBal_keep (by assumption) (by assumption)) | (refine twoBal_keep (by assumption) (Below.drew (Below.refl _ _))))
              (first | (go_at_call 35; (with_reducible refine Calls.mono (HLz.out _) ?_); rintro e w' ⟨rfl, hb'⟩) | fail)
            have hS2 : TwoBal wr g (off + k * 2) w2.heap.size z m w' := by assumption
            obtain ⟨wq, hwq⟩ : ∃ wq : World, wq = w' := ⟨_, rfl⟩
            subst hwq
            have HBq := hid_ (HB.out.trans (hS2.1.mono HB.out.size))
            have HWq := hid_ (HW.out.below hS2.1 HW.out.lt)
            obtain ⟨-, y0, y1, v0, v1⟩ := hS2
            cases hz : isF l m k
            · have HF := hid_ (show isF l m (k + 1) = sameB z m by rw [HST.out, hz]; rfl)
              clear hz
              generalize sameB z m = t at *
              go_wp2_with fail
              go_quiet (fail)
              have HBq2 := hid_ (below_drewN HBq.out nq)
              have HWq2 := hid_ (HWq.out.drewN nq)
              go_wp2_with fail
              go_roundw
              case rel => exact ⟨k + 1, by have := HK.out; omega, by go_num, by rw [HF.out], HBq2, HWq2⟩
              case measure => have := HK.out; simp [intOf]; omega
            · have HF := hid_ (show isF l m (k + 1) = true by rw [HST.out, hz]; rfl)
              clear hz
              go_wp2_with fail
              go_quiet (fail)
              have HBq2 := hid_ (below_drewN HBq.out nq)
              have HWq2 := hid_ (HWq.out.drewN nq)
              go_wp2_with fail
              go_roundw
              case rel => exact ⟨k + 1, by have := HK.out; omega, by go_num, by rw [HF.out], HBq2, HWq2⟩
              case measure => have := HK.out; simp [intOf]; omega
          · obtain rfl : k = n := by omega
            have hz : isF l m k = true := by have := HIs.out; rwa [HL.out] at this
            rw [hz]
            clear hz
            go_wp2_with fail
            (with_reducible refine Calls.mono (HA.out _) ?_)
            rintro e wz ⟨rfl, hbz⟩
            have HBz := hid_ (HB.out.trans (hbz.mono HB.out.size))
            clear hbz
            go_wp2_with fail
            go_ret
            exact ⟨rfl, HBz.out⟩
    · have cAB := HLrg.out a b true hab
      have hba : lessB b a = false := by have := hp.2; rwa [hab, Bool.true_and] at this
      have cBA := HLrg.out b a false hba
      have hs : sameB a b = false := by rw [hp.1, hab]; rfl
      rw [hs] at kn0
      cases hbc : lessB b c
      · have cBC := HLrg.out b c false hbc
        have cAC := cBA
        clear hp hab hs hba hbc
        go_enter Try.func11, Try.ntmps11
        go_wp2_with fail
        rw [← hwb']
        clear hwb'
        refine wp_region_quiet_below (by first | assumption | kernel_rfl) (by kernel_rfl) ?_
        iterate 32 (with_reducible refine wpQuiet_step (fun K hK => ?_); go_simp; first | (with_reducible refine hK _ ?_; clear hK K) | (simp only [undef, reduceCtorEq, if_false]; with_reducible refine hK _ ?_; clear hK K) | (apply Exists.intro; refine ⟨fun _ => ?_, hK _ ?_⟩; (first | (with_reducible exact cAA _) | (with_reducible exact cAB _) | (with_reducible exact cBA _) | (with_reducible exact cBC _) | (with_reducible exact cAC _)); clear hK K))
        refine wpQuiet_nil ?_
        intro _ hw'
        obtain ⟨⟨dq, osq⟩, hw''⟩ := hw'
        obtain ⟨w1, hw1⟩ : ∃ w1 : World, w1 = grow (redrawn wb dq) osq := ⟨_, rfl⟩
        have HB1 := hid_ (show Below w.heap.size w w1 by rw [hw1]; exact HB0.out.trans ((below_regrown wb dq osq).mono HB0.out.size))
        rw [← hw1] at hw''
        subst hw''
        clear hw1 a0 a1 b0 b1 c0 c1
        go_wp2_with fail
        (with_reducible refine Calls.mono (HM.out _ HB1.out) ?_)
        rintro e w2 ⟨rfl, hb2⟩
        have HB2 := hid_ (Below.alloc (HB1.out.trans (hb2.mono HB1.out.size)) (HB1.out.trans (hb2.mono HB1.out.size)).size (.cells #[.int .u64 (m.pos : Nat), .int .u64 (m.id : Nat)] 66))
        have HW2 := hid_ (whole_new w2 66 #[.int .u64 (m.pos : Nat), .int .u64 (m.id : Nat)])
        clear hb2
        have HI0 := hid_ (show isF l m 0 = ((n : Int) == 0) by unfold isF; rw [List.take_zero, HL.out, Bool.eq_iff_iff]; simp)
        have HI0' := hid_ (show isF l m 0 = (n == 0) by unfold isF; rw [List.take_zero, HL.out, Bool.eq_iff_iff]; simp)
        go_wp2_with fail
        generalize w2.alloc (.cells #[.int .u64 (m.pos : Nat), .int .u64 (m.id : Nat)] 66) = w3 at *
        go_loopw [10, 11] (fun vs vi wr => ∃ k : Nat, k ≤ n ∧ vi = .int .i64 (k : Nat) ∧ vs = .bool (isF l m k) ∧ Hid (Below w.heap.size w wr) ∧ Hid (Whole wr w2.heap.size 66 (balCells m))) (fun _ vi _ => n - (intOf vi).toNat)
        case atStart => exact ⟨0, Nat.zero_le _, rfl, by first | rw [HI0.out] | rw [HI0'.out], HB2, HW2⟩
        case round =>
          obtain ⟨k, hk, rfl, rfl, HB, HW⟩ := hrel
          by_cases hlt : k < n
          · have hkl : k < l.length := by rw [HL.out]; exact hlt
            obtain ⟨g, off, rfl, hbl, c0, c1⟩ := bal_at (HR.out.below HB.out) hkl
            have x1 : (k : Int) < (n : Int) := by omega
            have x2 : (0 : Int) ≤ (k : Int) := by omega
            have HST := hid_ (isF_succ (m := m) hkl)
            have HLz := hid_ (HLm.out m l[k])
            have hge := HGe.out k hkl
            rw [hge] at HLz
            have HK := hid_ hlt
            have kn : ∀ w, (binOp .eql 66 (.agg #[.int .u64 (l[k].pos : Nat), .int .u64 (l[k].id : Nat)]) (.agg #[.int .u64 (m.pos : Nat), .int .u64 (m.id : Nat)])).run Try.prog w = .ok (.bool (sameB l[k] m)) w := fun w => bal_eql l[k] m w
            generalize l[k] = z at *
            have S0 : TwoBal wr g (off + k * 2) w2.heap.size z m wr := ⟨Below.refl _ _, c0, c1, HW.out.cell 0 _ rfl, HW.out.cell 1 _ rfl⟩
            clear hlt hkl hbl c0 c1 hge
            go_wp2_with fail
            go_region_held3 (TwoBal wr g (off + k * 2) w2.heap.size z m) (first | assumption | (refine twoBal_keep (by assumption) (by assumption)) | (refine twoBal_keep (by assumption) (Below.drew (Below.refl _ _))))
              (first | (go_at_call 35; (with_reducible refine Calls.mono (HLz.out _) ?_); rintro e w' ⟨rfl, hb'⟩) | fail)
            have hS2 : TwoBal wr g (off + k * 2) w2.heap.size z m w' := by assumption
            obtain ⟨wq, hwq⟩ : ∃ wq : World, wq = w' := ⟨_, rfl⟩
            subst hwq
            have HBq := hid_ (HB.out.trans (hS2.1.mono HB.out.size))
            have HWq := hid_ (HW.out.below hS2.1 HW.out.lt)
            obtain ⟨-, y0, y1, v0, v1⟩ := hS2
            cases hz : isF l m k
            · have HF := hid_ (show isF l m (k + 1) = sameB z m by rw [HST.out, hz]; rfl)
              clear hz
              generalize sameB z m = t at *
              go_wp2_with fail
              go_quiet (fail)
              have HBq2 := hid_ (below_drewN HBq.out nq)
              have HWq2 := hid_ (HWq.out.drewN nq)
              go_wp2_with fail
              go_roundw
              case rel => exact ⟨k + 1, by have := HK.out; omega, by go_num, by rw [HF.out], HBq2, HWq2⟩
              case measure => have := HK.out; simp [intOf]; omega
            · have HF := hid_ (show isF l m (k + 1) = true by rw [HST.out, hz]; rfl)
              clear hz
              go_wp2_with fail
              go_quiet (fail)
              have HBq2 := hid_ (below_drewN HBq.out nq)
              have HWq2 := hid_ (HWq.out.drewN nq)
              go_wp2_with fail
              go_roundw
              case rel => exact ⟨k + 1, by have := HK.out; omega, by go_num, by rw [HF.out], HBq2, HWq2⟩
              case measure => have := HK.out; simp [intOf]; omega
          · obtain rfl : k = n := by omega
            have hz : isF l m k = true := by have := HIs.out; rwa [HL.out] at this
            rw [hz]
            clear hz
            go_wp2_with fail
            (with_reducible refine Calls.mono (HA.out _) ?_)
            rintro e wz ⟨rfl, hbz⟩
            have HBz := hid_ (HB.out.trans (hbz.mono HB.out.size))
            clear hbz
            go_wp2_with fail
            go_ret
            exact ⟨rfl, HBz.out⟩
      · have cBC := HLrg.out b c true hbc
        have cAC := HLrg.out a c true (HON.out hab hbc)
        clear hp hab hs hba hbc
        go_enter Try.func11, Try.ntmps11
        go_wp2_with fail
        rw [← hwb']
        clear hwb'
        refine wp_region_quiet_below (by first | assumption | kernel_rfl) (by kernel_rfl) ?_
        iterate 32 (with_reducible refine wpQuiet_step (fun K hK => ?_); go_simp; first | (with_reducible refine hK _ ?_; clear hK K) | (simp only [undef, reduceCtorEq, if_false]; with_reducible refine hK _ ?_; clear hK K) | (apply Exists.intro; refine ⟨fun _ => ?_, hK _ ?_⟩; (first | (with_reducible exact cAA _) | (with_reducible exact cAB _) | (with_reducible exact cBA _) | (with_reducible exact cBC _) | (with_reducible exact cAC _)); clear hK K))
        refine wpQuiet_nil ?_
        intro _ hw'
        obtain ⟨⟨dq, osq⟩, hw''⟩ := hw'
        obtain ⟨w1, hw1⟩ : ∃ w1 : World, w1 = grow (redrawn wb dq) osq := ⟨_, rfl⟩
        have HB1 := hid_ (show Below w.heap.size w w1 by rw [hw1]; exact HB0.out.trans ((below_regrown wb dq osq).mono HB0.out.size))
        rw [← hw1] at hw''
        subst hw''
        clear hw1 a0 a1 b0 b1 c0 c1
        go_wp2_with fail
        (with_reducible refine Calls.mono (HM.out _ HB1.out) ?_)
        rintro e w2 ⟨rfl, hb2⟩
        have HB2 := hid_ (Below.alloc (HB1.out.trans (hb2.mono HB1.out.size)) (HB1.out.trans (hb2.mono HB1.out.size)).size (.cells #[.int .u64 (m.pos : Nat), .int .u64 (m.id : Nat)] 66))
        have HW2 := hid_ (whole_new w2 66 #[.int .u64 (m.pos : Nat), .int .u64 (m.id : Nat)])
        clear hb2
        have HI0 := hid_ (show isF l m 0 = ((n : Int) == 0) by unfold isF; rw [List.take_zero, HL.out, Bool.eq_iff_iff]; simp)
        have HI0' := hid_ (show isF l m 0 = (n == 0) by unfold isF; rw [List.take_zero, HL.out, Bool.eq_iff_iff]; simp)
        go_wp2_with fail
        generalize w2.alloc (.cells #[.int .u64 (m.pos : Nat), .int .u64 (m.id : Nat)] 66) = w3 at *
        go_loopw [10, 11] (fun vs vi wr => ∃ k : Nat, k ≤ n ∧ vi = .int .i64 (k : Nat) ∧ vs = .bool (isF l m k) ∧ Hid (Below w.heap.size w wr) ∧ Hid (Whole wr w2.heap.size 66 (balCells m))) (fun _ vi _ => n - (intOf vi).toNat)
        case atStart => exact ⟨0, Nat.zero_le _, rfl, by first | rw [HI0.out] | rw [HI0'.out], HB2, HW2⟩
        case round =>
          obtain ⟨k, hk, rfl, rfl, HB, HW⟩ := hrel
          by_cases hlt : k < n
          · have hkl : k < l.length := by rw [HL.out]; exact hlt
            obtain ⟨g, off, rfl, hbl, c0, c1⟩ := bal_at (HR.out.below HB.out) hkl
            have x1 : (k : Int) < (n : Int) := by omega
            have x2 : (0 : Int) ≤ (k : Int) := by omega
            have HST := hid_ (isF_succ (m := m) hkl)
            have HLz := hid_ (HLm.out m l[k])
            have hge := HGe.out k hkl
            rw [hge] at HLz
            have HK := hid_ hlt
            have kn : ∀ w, (binOp .eql 66 (.agg #[.int .u64 (l[k].pos : Nat), .int .u64 (l[k].id : Nat)]) (.agg #[.int .u64 (m.pos : Nat), .int .u64 (m.id : Nat)])).run Try.prog w = .ok (.bool (sameB l[k] m)) w := fun w => bal_eql l[k] m w
            generalize l[k] = z at *
            have S0 : TwoBal wr g (off + k * 2) w2.heap.size z m wr := ⟨Below.refl _ _, c0, c1, HW.out.cell 0 _ rfl, HW.out.cell 1 _ rfl⟩
            clear hlt hkl hbl c0 c1 hge
            go_wp2_with fail
            go_region_held3 (TwoBal wr g (off + k * 2) w2.heap.size z m) (first | assumption | (refine twoBal_keep (by assumption) (by assumption)) | (refine twoBal_keep (by assumption) (Below.drew (Below.refl _ _))))
              (first | (go_at_call 35; (with_reducible refine Calls.mono (HLz.out _) ?_); rintro e w' ⟨rfl, hb'⟩) | fail)
            have hS2 : TwoBal wr g (off + k * 2) w2.heap.size z m w' := by assumption
            obtain ⟨wq, hwq⟩ : ∃ wq : World, wq = w' := ⟨_, rfl⟩
            subst hwq
            have HBq := hid_ (HB.out.trans (hS2.1.mono HB.out.size))
            have HWq := hid_ (HW.out.below hS2.1 HW.out.lt)
            obtain ⟨-, y0, y1, v0, v1⟩ := hS2
            cases hz : isF l m k
            · have HF := hid_ (show isF l m (k + 1) = sameB z m by rw [HST.out, hz]; rfl)
              clear hz
              generalize sameB z m = t at *
              go_wp2_with fail
              go_quiet (fail)
              have HBq2 := hid_ (below_drewN HBq.out nq)
              have HWq2 := hid_ (HWq.out.drewN nq)
              go_wp2_with fail
              go_roundw
              case rel => exact ⟨k + 1, by have := HK.out; omega, by go_num, by rw [HF.out], HBq2, HWq2⟩
              case measure => have := HK.out; simp [intOf]; omega
            · have HF := hid_ (show isF l m (k + 1) = true by rw [HST.out, hz]; rfl)
              clear hz
              go_wp2_with fail
              go_quiet (fail)
              have HBq2 := hid_ (below_drewN HBq.out nq)
              have HWq2 := hid_ (HWq.out.drewN nq)
              go_wp2_with fail
              go_roundw
              case rel => exact ⟨k + 1, by have := HK.out; omega, by go_num, by rw [HF.out], HBq2, HWq2⟩
              case measure => have := HK.out; simp [intOf]; omega
          · obtain rfl : k = n := by omega
            have hz : isF l m k = true := by have := HIs.out; rwa [HL.out] at this
            rw [hz]
            clear hz
            go_wp2_with fail
            (with_reducible refine Calls.mono (HA.out _) ?_)
            rintro e wz ⟨rfl, hbz⟩
            have HBz := hid_ (HB.out.trans (hbz.mono HB.out.size))
            clear hbz
            go_wp2_with fail
            go_ret
            exact ⟨rfl, HBz.out⟩

set_option maxRecDepth 100000 in
theorem lifted (os : Os) (started : os.Started) (H : Type) (enc : TypeId × Value → H) :
    ReturnsInHanded {} Try.checked os 11 .any (Rows.ballotTotalSpec.pre6 enc Try.prog Try.f11 Rows.ballotTotalRow.domain false) (Rows.ballotTotalSpec.post enc Try.prog Try.f11 false true false false) := by
  refine returnsInHanded_of_change (C := Try.checked) own started (by kernel_rfl) Try.func11
    (ChangeSpec.witness6 (enc := enc) (C := Try.checked) false ⟨#[], #[(.agg #[.int .u64 0, .int .u64 0]), (.agg #[.int .u64 0, .int .u64 0]), (.agg #[.int .u64 0, .int .u64 0]), .slice none 0 0], []⟩ 8 (by kernel_rfl) (by kernel_rfl) (by kernel_rfl) (by kernel_rfl)) ?_
  intro W base args ds gs before hval0 hW hcnd _
  have hval : ∀ (j : Nat) t v, Try.f11.params[j]? = some t → args[j]? = some v → Value.okWide Try.prog W .any base t v := hval0
  have hW' := hW
  obtain ⟨p, q, hA0, hV, rfl, hfz, hnd⟩ := hW
  have hA : DataW.TrodAll enc Try.prog W 0 (fun _ => true) true Try.f11.params.toList args.toList ds p := hA0
  rw [Try.params11] at hA hval
  obtain ⟨v0, vs0, d0, ds0, p0, q0, hargs, rfl, rfl, h0, r0⟩ := trodAll_cons hA
  obtain ⟨v1, vs1, d1, ds1, p1, q1, rfl, rfl, rfl, h1, r1⟩ := trodAll_cons r0
  obtain ⟨v2, vs2, d2, ds2, p2, q2, rfl, rfl, rfl, h2, r2⟩ := trodAll_cons r1
  obtain ⟨v3, vs3, d3, ds3, p3, q3, rfl, rfl, rfl, h3, r3⟩ := trodAll_cons r2
  obtain ⟨rfl, rfl, rfl⟩ := trodAll_nil r3
  obtain rfl : args = #[v0, v1, v2, v3] := by cases args; simp_all
  obtain ⟨rfl, rfl⟩ := trodVars_none hV
  have k0 := h0
  have lt0 : ∀ x ∈ p0, x.block < W.heap.size := by obtain ⟨m, hm⟩ := k0; exact DataW.trod_lt m _ _ _ hm
  have w0 : Bl.BalV W v0 := Bl.open_balV (hval 0 66 v0 rfl rfl) h0
  have k1 := h1
  have lt1 : ∀ x ∈ p1, x.block < W.heap.size := by obtain ⟨m, hm⟩ := k1; exact DataW.trod_lt m _ _ _ hm
  have w1 : Bl.BalV W v1 := Bl.open_balV (hval 1 66 v1 rfl rfl) h1
  have k2 := h2
  have lt2 : ∀ x ∈ p2, x.block < W.heap.size := by obtain ⟨m, hm⟩ := k2; exact DataW.trod_lt m _ _ _ hm
  have w2 : Bl.BalV W v2 := Bl.open_balV (hval 2 66 v2 rfl rfl) h2
  have k3 := h3
  have lt3 : ∀ x ∈ p3, x.block < W.heap.size := by obtain ⟨m, hm⟩ := k3; exact DataW.trod_lt m _ _ _ hm
  have w3 : Bl.BalsV W v3 := Bl.open_balsV (hval 3 67 v3 rfl rfl) h3
  clear hA0 hval0
  refine (walk v0 v1 v2 v3 W w0 w1 w2 w3).mono fun e W' ⟨he, bel⟩ => ?_
  subst he
  exact ⟨_, rfl, _, _, _, [], _, [], hW', trodAll_mk1 (shut_bool Try.underlying4 _), (trodAll_cons_mk (Below.trod laidOut (by kernel_rfl) (of_decide_eq_true (by kernel_rfl)) k0 bel lt0) (trodAll_cons_mk (Below.trod laidOut (by kernel_rfl) (of_decide_eq_true (by kernel_rfl)) k1 bel lt1) (trodAll_cons_mk (Below.trod laidOut (by kernel_rfl) (of_decide_eq_true (by kernel_rfl)) k2 bel lt2) (trodAll_cons_mk (Below.trod laidOut (by kernel_rfl) (of_decide_eq_true (by kernel_rfl)) k3 bel lt3) trodAll_mk0)))), rfl, bel.frame _, fun h => by cases h⟩

theorem over : Rows.ballotTotalRow.holds Try.pinned (OpenSpec.ofChange Rows.ballotTotalSpec) :=
  OpenClaim.holds_of_wide 11 Try.f11 rfl rfl rfl rfl rfl rfl rfl ⟨rfl, rfl, rfl, rfl, rfl⟩ rfl rfl rfl rfl rfl (by kernel_rfl) Try.func11 (by kernel_rfl)
    (of_decide_eq_true (by kernel_rfl)) (by unfold Func.isWrapper; first | (rw [if_pos (by decide +kernel)]; kernel_rfl) | (rw [if_neg (by decide +kernel)]; exact ⟨rfl, rfl⟩))
    (fun os started H enc _ => lifted os started H enc)

theorem proved : Rows.BallotTotalSaid := over
#print axioms proved
end Go.Proofs.Ytgmeggilojcoeaa.ballotTotal
