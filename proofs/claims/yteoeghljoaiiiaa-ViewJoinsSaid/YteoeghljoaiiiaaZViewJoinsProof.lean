/-
  ViewJoins: of whatever three views of at most 16 members merging hangs on no order and on no grouping, of one view alone it is that, and each view is below what it is merged into; of other lists only the chapter's example is asked; no condition on the input.
  The frame round the walk is written by the guide's own program for this statement.
-/
import Derived.Test.YteoeghljoaiiiaaZVwBelow
import Derived.Test.YteoeghljoaiiiaaRows
import Derived.WalkKit
import Derived.ProofKit
import Derived.OpenShut
import Derived.ShutString
import Derived.ChangeOld
import Derived.Below
namespace Go.Proofs.Yteoeghljoaiiiaa.viewJoins
set_option linter.unusedSimpArgs false
set_option linter.unusedVariables false
open Go.ChangeShapes Go.WideShapes Go.ChangeAt Go.RowKit
open Go.ChangeMaps (open_string shut_string)
set_option linter.unusedVariables false

theorem own : ownKnob Try.prog.godebug = none := by kernel_rfl
theorem laidOut : laidOutB Try.prog = true := by kernel_rfl

/-- WHAT THE WALK IS TOLD OF A SLICE OF INTEGERS THAT CAME IN: it is nil; or it leads to a row of 'cap' cells, the numbers 'zs' (the first 'len' are its elements, the rest its spare room), each fitting its kind. -/
def IsRow (k : IntKind) (w : World) (a : Option Addr) (len cap : Nat) (zs : List Int) : Prop :=
  (a = none ∧ len = 0 ∧ cap = 0 ∧ zs = []) ∨
  ∃ x, a = some x ∧ len ≤ cap ∧ cap ≤ maxLen ∧ zs.length = cap ∧ (∀ i, i < zs.length → w.cell? (x.add i) = some (.int k (zs.getD i 0))) ∧ ∀ n ∈ zs, (Lit.int k n).wf = true

open Ru Vw
theorem joins_kinds {a b r : List MemberD} {k : Int} (ha : rightV a = true) (hb : rightV b = true) (h : MergeIs a b r k) : ∃ mg, IsMerge a b mg ∧ ((k = 4 ∧ r = [] ∧ 16 < mg.length) ∨ (k = 0 ∧ r = mg ∧ mg.length ≤ 16)) := by
  rcases h with ⟨h1 | h1, _⟩ | ⟨_, _, mg, h1, h2⟩
  · rw [ha] at h1; cases h1
  · rw [hb] at h1; cases h1
  · refine ⟨mg, h1, ?_⟩
    rcases h2 with ⟨h2, h3, h4⟩ | ⟨h2, h3, h4⟩
    · exact .inl ⟨h4, h3, h2⟩
    · exact .inr ⟨h4, h3, h2⟩
theorem joins_self {a r : List MemberD} {k : Int} (ha : rightV a = true) (h : MergeIs a a r k) : r = a ∧ k = 0 := by
  obtain ⟨mg, h1, h2⟩ := joins_kinds ha ha h
  have e := merge_self (right_rising ha) h1
  subst e
  rcases h2 with ⟨h2, h3, h4⟩ | ⟨h2, h3, h4⟩
  · have := rightV_len ha
    omega
  · exact ⟨h3, h2⟩
theorem joins_flip {a b r r' : List MemberD} {k k' : Int} (ha : rightV a = true) (hb : rightV b = true) (h : MergeIs a b r k) (h' : MergeIs b a r' k') : r' = r ∧ k' = k := by
  obtain ⟨mg, h1, h2⟩ := joins_kinds ha hb h
  obtain ⟨mg', h3, h4⟩ := joins_kinds hb ha h'
  have e := merge_comm h1 h3
  subst e
  rcases h2 with ⟨p1, p2, p3⟩ | ⟨p1, p2, p3⟩ <;> rcases h4 with ⟨q1, q2, q3⟩ | ⟨q1, q2, q3⟩
  · exact ⟨by rw [p2, q2], by rw [p1, q1]⟩
  · omega
  · omega
  · exact ⟨by rw [p2, q2], by rw [p1, q1]⟩
theorem joins_on {a b c ab bc r r' : List MemberD} {k k' : Int} (h1 : IsMerge a b ab) (h2 : IsMerge b c bc) (ha : rightV a = true) (hc : rightV c = true) (hab : rightV ab = true) (hbc : rightV bc = true) (h : MergeIs ab c r k) (h' : MergeIs a bc r' k') : r' = r ∧ k' = k := by
  obtain ⟨mg, h3, h4⟩ := joins_kinds hab hc h
  obtain ⟨mg', h5, h6⟩ := joins_kinds ha hbc h'
  have e := merge_assoc h1 h2 h3 h5
  subst e
  rcases h4 with ⟨p1, p2, p3⟩ | ⟨p1, p2, p3⟩ <;> rcases h6 with ⟨q1, q2, q3⟩ | ⟨q1, q2, q3⟩
  · exact ⟨by rw [p2, q2], by rw [p1, q1]⟩
  · omega
  · omega
  · exact ⟨by rw [p2, q2], by rw [p1, q1]⟩
theorem joins_wf {a b r : List MemberD} {k : Int} (ha : rightV a = true) (hb : rightV b = true) (h : MergeIs a b r k) (hwa : ∀ m ∈ a, m.Wf) (hwb : ∀ m ∈ b, m.Wf) : ∀ m ∈ r, m.Wf := by
  obtain ⟨mg, h1, h2⟩ := joins_kinds ha hb h
  rcases h2 with ⟨_, rfl, _⟩ | ⟨_, rfl, _⟩
  · intro m hm; simp at hm
  · exact merge_wf h1 hwa hwb
set_option maxRecDepth 100000 in
set_option maxHeartbeats 32000000 in
theorem walk (v0 : Value) (v1 : Value) (v2 : Value) (w : World) (w0 : Vw.MemsV w v0) (w1 : Vw.MemsV w v1) (w2 : Vw.MemsV w v2) :
    Calls Try.prog 13 #[v0, v1, v2] w fun e w' => e = .returned (.bool true) ∧ Below w.heap.size w w' := by
  obtain ⟨A, n, c, a, rfl, ha, hwa⟩ := w0
  obtain ⟨A', n', c', b, rfl, hb, hwb⟩ := w1
  obtain ⟨A'', n'', c'', d, rfl, hd, hwd⟩ := w2
  have HRr0 := hid_ (fun (W : World) (h : Below w.heap.size w W) => rright_any A n c a W (ha.below h))
  have HRr1 := hid_ (fun (W : World) (h : Below w.heap.size w W) => rright_any A' n' c' b W (hb.below h))
  have HRr2 := hid_ (fun (W : World) (h : Below w.heap.size w W) => rright_any A'' n'' c'' d W (hd.below h))
  have HMeraa := hid_ (fun (W : World) (h : Below w.heap.size w W) => merge_any A A n n c c a a W (ha.below h) (ha.below h) hwa hwa)
  have HMerab := hid_ (fun (W : World) (h : Below w.heap.size w W) => merge_any A A' n n' c c' a b W (ha.below h) (hb.below h) hwa hwb)
  have HMerba := hid_ (fun (W : World) (h : Below w.heap.size w W) => merge_any A' A n' n c' c b a W (hb.below h) (ha.below h) hwb hwa)
  have HMerbc := hid_ (fun (W : World) (h : Below w.heap.size w W) => merge_any A' A'' n' n'' c' c'' b d W (hb.below h) (hd.below h) hwb hwd)
  have HWf := hid_ (And.intro hwa (And.intro hwb hwd))
  have HRa := hid_ ha
  have HRb := hid_ hb
  have HRd := hid_ hd
  clear ha hb hd hwa hwb hwd
  by_cases hbig0 : 16 < n
  · have q0 : decide ((n : Int) > 16) = true := decide_eq_true (by omega)
    have r0 : decide ((16 : Int) < (n : Int)) = true := decide_eq_true (by omega)
    have s0 : decide (16 < n) = true := decide_eq_true hbig0
    clear hbig0
    go_enter Try.func13, Try.ntmps13
    go_wp2_with fail
    refine Calls.mono (valive_any _) ?_
    rintro e wz ⟨rfl, hbz⟩
    have HBz := hid_ hbz
    clear hbz
    go_wp2_with fail
    go_ret
    exact ⟨rfl, HBz.out⟩
  have q0 : decide ((n : Int) > 16) = false := decide_eq_false (by omega)
  have r0 : decide ((16 : Int) < (n : Int)) = false := decide_eq_false (by omega)
  have s0 : decide (16 < n) = false := decide_eq_false hbig0
  by_cases hbig1 : 16 < n'
  · have q1 : decide ((n' : Int) > 16) = true := decide_eq_true (by omega)
    have r1 : decide ((16 : Int) < (n' : Int)) = true := decide_eq_true (by omega)
    have s1 : decide (16 < n') = true := decide_eq_true hbig1
    clear hbig1
    go_enter Try.func13, Try.ntmps13
    go_wp2_with fail
    refine Calls.mono (valive_any _) ?_
    rintro e wz ⟨rfl, hbz⟩
    have HBz := hid_ hbz
    clear hbz
    go_wp2_with fail
    go_ret
    exact ⟨rfl, HBz.out⟩
  have q1 : decide ((n' : Int) > 16) = false := decide_eq_false (by omega)
  have r1 : decide ((16 : Int) < (n' : Int)) = false := decide_eq_false (by omega)
  have s1 : decide (16 < n') = false := decide_eq_false hbig1
  by_cases hbig2 : 16 < n''
  · have q2 : decide ((n'' : Int) > 16) = true := decide_eq_true (by omega)
    have r2 : decide ((16 : Int) < (n'' : Int)) = true := decide_eq_true (by omega)
    have s2 : decide (16 < n'') = true := decide_eq_true hbig2
    clear hbig2
    go_enter Try.func13, Try.ntmps13
    go_wp2_with fail
    refine Calls.mono (valive_any _) ?_
    rintro e wz ⟨rfl, hbz⟩
    have HBz := hid_ hbz
    clear hbz
    go_wp2_with fail
    go_ret
    exact ⟨rfl, HBz.out⟩
  have q2 : decide ((n'' : Int) > 16) = false := decide_eq_false (by omega)
  have r2 : decide ((16 : Int) < (n'' : Int)) = false := decide_eq_false (by omega)
  have s2 : decide (16 < n'') = false := decide_eq_false hbig2
  cases hra : rightV a
  · rw [hra] at HRr0
    unfold kindP at HRr0
    clear hra
    go_enter Try.func13, Try.ntmps13
    go_wp2_with fail
    refine Calls.mono (HRr0.out _ (Below.refl _ _)) ?_
    rintro e wr0 ⟨rfl, hbr0⟩
    have HBr0 := hid_ hbr0
    clear hbr0
    go_wp2_with fail
    refine Calls.mono (valive_any _) ?_
    rintro e wz ⟨rfl, hbz⟩
    have HBz := hid_ (HBr0.out.trans (hbz.mono HBr0.out.size))
    clear hbz
    go_wp2_with fail
    go_ret
    exact ⟨rfl, HBz.out⟩
  rw [hra] at HRr0
  unfold kindP at HRr0
  cases hrb : rightV b
  · rw [hrb] at HRr1
    unfold kindP at HRr1
    clear hra hrb
    go_enter Try.func13, Try.ntmps13
    go_wp2_with fail
    refine Calls.mono (HRr0.out _ (Below.refl _ _)) ?_
    rintro e wr0 ⟨rfl, hbr0⟩
    have HBr0 := hid_ hbr0
    clear hbr0
    go_wp2_with fail
    refine Calls.mono (HRr1.out _ HBr0.out) ?_
    rintro e wr1 ⟨rfl, hbr1⟩
    have HBr1 := hid_ (HBr0.out.trans (hbr1.mono HBr0.out.size))
    clear hbr1
    go_wp2_with fail
    refine Calls.mono (valive_any _) ?_
    rintro e wz ⟨rfl, hbz⟩
    have HBz := hid_ (HBr1.out.trans (hbz.mono HBr1.out.size))
    clear hbz
    go_wp2_with fail
    go_ret
    exact ⟨rfl, HBz.out⟩
  rw [hrb] at HRr1
  unfold kindP at HRr1
  cases hrd : rightV d
  · rw [hrd] at HRr2
    unfold kindP at HRr2
    clear hra hrb hrd
    go_enter Try.func13, Try.ntmps13
    go_wp2_with fail
    refine Calls.mono (HRr0.out _ (Below.refl _ _)) ?_
    rintro e wr0 ⟨rfl, hbr0⟩
    have HBr0 := hid_ hbr0
    clear hbr0
    go_wp2_with fail
    refine Calls.mono (HRr1.out _ HBr0.out) ?_
    rintro e wr1 ⟨rfl, hbr1⟩
    have HBr1 := hid_ (HBr0.out.trans (hbr1.mono HBr0.out.size))
    clear hbr1
    go_wp2_with fail
    refine Calls.mono (HRr2.out _ HBr1.out) ?_
    rintro e wr2 ⟨rfl, hbr2⟩
    have HBr2 := hid_ (HBr1.out.trans (hbr2.mono HBr1.out.size))
    clear hbr2
    go_wp2_with fail
    refine Calls.mono (valive_any _) ?_
    rintro e wz ⟨rfl, hbz⟩
    have HBz := hid_ (HBr2.out.trans (hbz.mono HBr2.out.size))
    clear hbz
    go_wp2_with fail
    go_ret
    exact ⟨rfl, HBz.out⟩
  rw [hrd] at HRr2
  unfold kindP at HRr2
  have HRt := hid_ (And.intro hra (And.intro hrb hrd))
  clear hra hrb hrd
  go_enter Try.func13, Try.ntmps13
  go_wp2_with fail
  refine Calls.mono (HRr0.out _ (Below.refl _ _)) ?_
  rintro e wr0 ⟨rfl, hbr0⟩
  have HBr0 := hid_ hbr0
  clear hbr0
  go_wp2_with fail
  refine Calls.mono (HRr1.out _ HBr0.out) ?_
  rintro e wr1 ⟨rfl, hbr1⟩
  have HBr1 := hid_ (HBr0.out.trans (hbr1.mono HBr0.out.size))
  clear hbr1
  go_wp2_with fail
  refine Calls.mono (HRr2.out _ HBr1.out) ?_
  rintro e wr2 ⟨rfl, hbr2⟩
  have HBr2 := hid_ (HBr1.out.trans (hbr2.mono HBr1.out.size))
  clear hbr2
  go_wp2_with fail
  refine Calls.mono (HMeraa.out _ HBr2.out) ?_
  rintro e wmP ⟨AP, nP, cP, rP, kP, rfl, hrP, hiP, hbP⟩
  have HRP := hid_ hrP
  have HIP := hid_ hiP
  have HBP := hid_ (HBr2.out.trans (hbP.mono HBr2.out.size))
  clear hrP hiP
  obtain ⟨rfl, rfl⟩ := joins_self HRt.out.1 HIP.out
  have HCP := hid_ hbP
  clear hbP
  go_wp2_with fail
  refine Calls.mono (HMerab.out _ HBP.out) ?_
  rintro e wmQ ⟨AQ, nQ, cQ, rQ, kQ, rfl, hrQ, hiQ, hbQ⟩
  have HRQ := hid_ hrQ
  have HIQ := hid_ hiQ
  have HBQ := hid_ (HBP.out.trans (hbQ.mono HBP.out.size))
  clear hrQ hiQ
  have HCQ := hid_ hbQ
  clear hbQ
  go_wp2_with fail
  refine Calls.mono (HMerba.out _ HBQ.out) ?_
  rintro e wmR ⟨AR, nR, cR, rR, kR, rfl, hrR, hiR, hbR⟩
  have HRR := hid_ hrR
  have HIR := hid_ hiR
  have HBR := hid_ (HBQ.out.trans (hbR.mono HBQ.out.size))
  clear hrR hiR
  obtain ⟨rfl, rfl⟩ := joins_flip HRt.out.1 HRt.out.2.1 HIQ.out HIR.out
  have HCR := hid_ hbR
  clear hbR
  go_wp2_with fail
  refine Calls.mono (HMerbc.out _ HBR.out) ?_
  rintro e wmS ⟨AS, nS, cS, rS, kS, rfl, hrS, hiS, hbS⟩
  have HRS := hid_ hrS
  have HIS := hid_ hiS
  have HBS := hid_ (HBR.out.trans (hbS.mono HBR.out.size))
  clear hrS hiS
  have HCS := hid_ hbS
  clear hbS
  have e1 : (kR == kR) = true := by simp
  have e1' : (kR != kR) = false := by simp
  have HRwP := hid_ (HRP.out.below (HCQ.out.trans ((HCR.out.trans (HCS.out.mono HCR.out.size)).mono HCQ.out.size)))
  have HRwQ := hid_ (HRQ.out.below (HCR.out.trans (HCS.out.mono HCR.out.size)))
  have HRwR := hid_ (HRR.out.below HCS.out)
  have HS1 := hid_ (fun (W : World) (h : Below wmS.heap.size wmS W) => vsame_any AP A nP n cP c rP rP W (HRwP.out.below h) ((HRa.out.below HBS.out).below h))
  have HS2 := hid_ (fun (W : World) (h : Below wmS.heap.size wmS W) => vsame_any AQ AR nQ nR cQ cR rR rR W (HRwQ.out.below h) (HRwR.out.below h))
  have HS3 := hid_ (fun (W : World) (h : Below wmS.heap.size wmS W) => rsame_any AQ AR nQ nR cQ cR rR rR W (HRwQ.out.below h) (HRwR.out.below h))
  rw [eqM_self] at HS1 HS2 HS3
  go_wp2_with fail
  refine Calls.mono (HS1.out _ (Below.refl _ _)) ?_
  rintro e wt1 ⟨rfl, ht1⟩
  have HT1 := hid_ ht1
  clear ht1
  go_wp2_with fail
  refine Calls.mono (HS2.out _ HT1.out) ?_
  rintro e wt2 ⟨rfl, ht2⟩
  have HT2 := hid_ (HT1.out.trans (ht2.mono HT1.out.size))
  clear ht2
  go_wp2_with fail
  refine Calls.mono (HS3.out _ HT2.out) ?_
  rintro e wt3 ⟨rfl, ht3⟩
  have HT3 := hid_ (HT2.out.trans (ht3.mono HT2.out.size))
  have HBT := hid_ (HBS.out.trans (HT3.out.mono HBS.out.size))
  clear ht3
  obtain ⟨mg, hmg, hk⟩ := joins_kinds HRt.out.1 HRt.out.2.1 HIQ.out
  obtain ⟨mh, hmh, hk2⟩ := joins_kinds HRt.out.2.1 HRt.out.2.2 HIS.out
  have HMg := hid_ hmg
  have HMh := hid_ hmh
  rcases hk with ⟨rfl, rfl, hlg⟩ | ⟨rfl, rfl, hlg⟩
  · clear hmg hmh hlg hk2
    go_wp2_with fail
    refine Calls.mono (valive_any _) ?_
    rintro e wz ⟨rfl, hbz⟩
    have HBz := hid_ (HBT.out.trans (hbz.mono HBT.out.size))
    clear hbz
    go_wp2_with fail
    go_ret
    exact ⟨rfl, HBz.out⟩
  · rcases hk2 with ⟨rfl, rfl, hlh⟩ | ⟨rfl, rfl, hlh⟩
    · clear hmg hmh hlg hlh
      go_wp2_with fail
      refine Calls.mono (valive_any _) ?_
      rintro e wz ⟨rfl, hbz⟩
      have HBz := hid_ (HBT.out.trans (hbz.mono HBT.out.size))
      clear hbz
      go_wp2_with fail
      go_ret
      exact ⟨rfl, HBz.out⟩
    · have hrg := right_merged HRt.out.1 HRt.out.2.1 hmg hlg
      have hrh := right_merged HRt.out.2.1 HRt.out.2.2 hmh hlh
      have HRgh := hid_ (And.intro hrg hrh)
      have hwg := joins_wf HRt.out.1 HRt.out.2.1 HIQ.out HWf.out.1 HWf.out.2.1
      have hwh := joins_wf HRt.out.2.1 HRt.out.2.2 HIS.out HWf.out.2.1 HWf.out.2.2
      have HMx := hid_ (fun (W : World) (h : Below wmS.heap.size wmS W) => merge_any AQ A'' nQ n'' cQ c'' rR d W (HRwQ.out.below h) ((HRd.out.below HBS.out).below h) hwg HWf.out.2.2)
      have HMy := hid_ (fun (W : World) (h : Below wmS.heap.size wmS W) => merge_any A AS n nS c cS rP rS W ((HRa.out.below HBS.out).below h) (HRS.out.below h) HWf.out.1 hwh)
      have HBl1 := hid_ (fun (W : World) (h : Below wmS.heap.size wmS W) => vbelow_any A AQ n nQ c cQ rP rR W ((HRa.out.below HBS.out).below h) (HRwQ.out.below h) (isBelow_left (right_rising HRt.out.1) hmg))
      have HBl2 := hid_ (fun (W : World) (h : Below wmS.heap.size wmS W) => vbelow_any A' AQ n' nQ c' cQ b rR W ((HRb.out.below HBS.out).below h) (HRwQ.out.below h) (isBelow_left (right_rising HRt.out.2.1) (merge_flip hmg)))
      clear hmg hmh hlg hlh hrg hrh hwg hwh
      go_wp2_with fail
      refine Calls.mono (HMx.out _ HT3.out) ?_
      rintro e wx ⟨AX, nX, cX, rX, kX, rfl, hrX, hiX, hbX⟩
      have HRX := hid_ hrX
      have HIX := hid_ hiX
      have HTX := hid_ (HT3.out.trans (hbX.mono HT3.out.size))
      clear hrX hiX hbX
      go_wp2_with fail
      refine Calls.mono (HMy.out _ HTX.out) ?_
      rintro e wy ⟨AY, nY, cY, rY, kY, rfl, hrY, hiY, hbY⟩
      obtain ⟨rfl, rfl⟩ := joins_on HMg.out HMh.out HRt.out.1 HRt.out.2.2 HRgh.out.1 HRgh.out.2 HIX.out hiY
      have HTY := hid_ (HTX.out.trans (hbY.mono HTX.out.size))
      have HSx := hid_ (fun (W : World) (h : Below wy.heap.size wy W) => rsame_any AX AY nX nY cX cY rY rY W ((HRX.out.below hbY).below h) (hrY.below h))
      rw [eqM_self] at HSx
      have e2 : (kY == kY) = true := by simp
      clear hrY hiY hbY
      go_wp2_with fail
      refine Calls.mono (HSx.out _ (Below.refl _ _)) ?_
      rintro e wu1 ⟨rfl, hu1⟩
      have HU1 := hid_ (HTY.out.trans (hu1.mono HTY.out.size))
      clear hu1
      go_wp2_with fail
      refine Calls.mono (HBl1.out _ HU1.out) ?_
      rintro e wu2 ⟨rfl, hu2⟩
      have HU2 := hid_ (HU1.out.trans (hu2.mono HU1.out.size))
      clear hu2
      go_wp2_with fail
      refine Calls.mono (HBl2.out _ HU2.out) ?_
      rintro e wu3 ⟨rfl, hu3⟩
      have HU3 := hid_ (HBS.out.trans ((HU2.out.trans (hu3.mono HU2.out.size)).mono HBS.out.size))
      clear hu3
      go_wp2_with fail
      refine Calls.mono (valive_any _) ?_
      rintro e wz ⟨rfl, hbz⟩
      have HBz := hid_ (HU3.out.trans (hbz.mono HU3.out.size))
      clear hbz
      go_wp2_with fail
      go_ret
      exact ⟨rfl, HBz.out⟩

set_option maxRecDepth 100000 in
theorem lifted (os : Os) (started : os.Started) (H : Type) (enc : TypeId × Value → H) :
    ReturnsInHanded {} Try.checked os 13 .any (Rows.viewJoinsSpec.pre6 enc Try.prog Try.f13 Rows.viewJoinsRow.domain false) (Rows.viewJoinsSpec.post enc Try.prog Try.f13 false true false false) := by
  refine returnsInHanded_of_change (C := Try.checked) own started (by kernel_rfl) Try.func13
    (ChangeSpec.witness6 (enc := enc) (C := Try.checked) false ⟨#[], #[.slice none 0 0, .slice none 0 0, .slice none 0 0], []⟩ 8 (by kernel_rfl) (by kernel_rfl) (by kernel_rfl) (by kernel_rfl)) ?_
  intro W base args ds gs before hval0 hW hcnd _
  have hval : ∀ (j : Nat) t v, Try.f13.params[j]? = some t → args[j]? = some v → Value.okWide Try.prog W .any base t v := hval0
  have hW' := hW
  obtain ⟨p, q, hA0, hV, rfl, hfz, hnd⟩ := hW
  have hA : DataW.TrodAll enc Try.prog W 0 (fun _ => true) true Try.f13.params.toList args.toList ds p := hA0
  rw [Try.params13] at hA hval
  obtain ⟨v0, vs0, d0, ds0, p0, q0, hargs, rfl, rfl, h0, r0⟩ := trodAll_cons hA
  obtain ⟨v1, vs1, d1, ds1, p1, q1, rfl, rfl, rfl, h1, r1⟩ := trodAll_cons r0
  obtain ⟨v2, vs2, d2, ds2, p2, q2, rfl, rfl, rfl, h2, r2⟩ := trodAll_cons r1
  obtain ⟨rfl, rfl, rfl⟩ := trodAll_nil r2
  obtain rfl : args = #[v0, v1, v2] := by cases args; simp_all
  obtain ⟨rfl, rfl⟩ := trodVars_none hV
  have k0 := h0
  have lt0 : ∀ x ∈ p0, x.block < W.heap.size := by obtain ⟨m, hm⟩ := k0; exact DataW.trod_lt m _ _ _ hm
  have w0 : Vw.MemsV W v0 := Vw.open_memsV (hval 0 77 v0 rfl rfl) h0
  have k1 := h1
  have lt1 : ∀ x ∈ p1, x.block < W.heap.size := by obtain ⟨m, hm⟩ := k1; exact DataW.trod_lt m _ _ _ hm
  have w1 : Vw.MemsV W v1 := Vw.open_memsV (hval 1 77 v1 rfl rfl) h1
  have k2 := h2
  have lt2 : ∀ x ∈ p2, x.block < W.heap.size := by obtain ⟨m, hm⟩ := k2; exact DataW.trod_lt m _ _ _ hm
  have w2 : Vw.MemsV W v2 := Vw.open_memsV (hval 2 77 v2 rfl rfl) h2
  clear hA0 hval0
  refine (walk v0 v1 v2 W w0 w1 w2).mono fun e W' ⟨he, bel⟩ => ?_
  subst he
  exact ⟨_, rfl, _, _, _, [], _, [], hW', trodAll_mk1 (shut_bool Try.underlying4 _), (trodAll_cons_mk (Below.trod laidOut (by kernel_rfl) (of_decide_eq_true (by kernel_rfl)) k0 bel lt0) (trodAll_cons_mk (Below.trod laidOut (by kernel_rfl) (of_decide_eq_true (by kernel_rfl)) k1 bel lt1) (trodAll_cons_mk (Below.trod laidOut (by kernel_rfl) (of_decide_eq_true (by kernel_rfl)) k2 bel lt2) trodAll_mk0))), rfl, bel.frame _, fun h => by cases h⟩

theorem over : Rows.viewJoinsRow.holds Try.pinned (OpenSpec.ofChange Rows.viewJoinsSpec) :=
  OpenClaim.holds_of_wide 13 Try.f13 rfl rfl rfl rfl rfl rfl rfl ⟨rfl, rfl, rfl, rfl, rfl⟩ rfl rfl rfl rfl rfl (by kernel_rfl) Try.func13 (by kernel_rfl)
    (of_decide_eq_true (by kernel_rfl)) (by unfold Func.isWrapper; first | (rw [if_pos (by decide +kernel)]; kernel_rfl) | (rw [if_neg (by decide +kernel)]; exact ⟨rfl, rfl⟩))
    (fun os started H enc _ => lifted os started H enc)

theorem proved : Rows.ViewJoinsSaid := over
#print axioms proved
end Go.Proofs.Yteoeghljoaiiiaa.viewJoins
