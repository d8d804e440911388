/-
  RegisterAnswers: what a right register says to what it was asked is a right packet; no condition on the input.
  The frame round the walk is written by the guide's own program for this statement.
-/
import Derived.Test.YtljlhaillmeedaaZGRN
import Derived.Test.YtljlhaillmeedaaZRefPack
import Derived.Test.YtljlhaillmeedaaRows
import Derived.WalkKit
import Derived.ProofKit
import Derived.OpenShut
import Derived.ShutString
import Derived.ChangeOld
import Derived.Below
namespace Go.Proofs.Ytljlhaillmeedaa.registerAnswers
set_option linter.unusedSimpArgs false
set_option linter.unusedVariables false
open Go.ChangeShapes Go.WideShapes Go.ChangeAt Go.RowKit
open Go.ChangeMaps (open_string shut_string)
set_option linter.unusedVariables false

theorem own : ownKnob Try.prog.godebug = none := by kernel_rfl
theorem laidOut : laidOutB Try.prog = true := by kernel_rfl

/-- WHAT THE WALK IS TOLD OF A SLICE OF INTEGERS THAT CAME IN: it is nil; or it leads to a row of 'cap' cells, the numbers 'zs' (the first 'len' are its elements, the rest its spare room), each fitting its kind. -/
def IsRow (k : IntKind) (w : World) (a : Option Addr) (len cap : Nat) (zs : List Int) : Prop :=
  (a = none ∧ len = 0 ∧ cap = 0 ∧ zs = []) ∨
  ∃ x, a = some x ∧ len ≤ cap ∧ cap ≤ maxLen ∧ zs.length = cap ∧ (∀ i, i < zs.length → w.cell? (x.add i) = some (.int k (zs.getD i 0))) ∧ ∀ n ∈ zs, (Lit.int k n).wf = true

open Rg Bl Re
theorem isB_of {a : BalD} (h : a.pos ≠ 0) : isB a.pos a.id = true := by
  unfold isB
  rw [decide_eq_false h]
  rfl
theorem late_isB {r : RegD} {b : BalD} (hb : b.pos ≠ 0) (h : lessB b r.p = true) : r.p.pos ≠ 0 := by
  have := of_decide_eq_true h
  omega
theorem isB_v {r : RegD} (h : rightR r = true) : (isB r.t.pos r.t.id == decide (r.v ≠ 0)) = true := by
  obtain ⟨-, h2, h3⟩ := (right_iff r).1 h
  by_cases e : r.t = ⟨0, 0⟩
  · rw [h2 e, e]; rfl
  · have h4 := h3 e
    have h5 : isB r.t.pos r.t.id = true := by
      unfold isB
      rw [Bool.not_eq_true', Bool.and_eq_false_iff, decide_eq_false_iff_not, decide_eq_false_iff_not]
      by_cases h0 : r.t.pos = 0
      · right
        intro h1
        apply e
        have : r.t = ⟨r.t.pos, r.t.id⟩ := rfl
        rw [this, h0, h1]
      · exact .inl h0
    rw [h5, decide_eq_true (by omega)]
    rfl
theorem v_range {r : RegD} (h : rightR r = true) : 0 ≤ r.v ∧ r.v ≤ 3 := by
  obtain ⟨-, h2, h3⟩ := (right_iff r).1 h
  by_cases e : r.t = ⟨0, 0⟩
  · rw [h2 e]; omega
  · have := h3 e; omega
theorem right_ans {p : PackD} (hk : p.kind = 5 ∨ p.kind = 7) (h1 : p.trace ≠ 0) (h2 : p.bn ≠ 0) (h3 : 0 ≤ p.v) (h4 : p.v ≤ (if p.kind = 5 then 3 else 0)) (h5 : (if p.ok then isB p.sn p.snode == decide (p.v ≠ 0) else isB p.sn p.snode && decide (p.v = 0)) = true) (h6 : p.spans = []) (h7 : p.members = []) (h8 : p.ids = []) : rightP p = true := by
  unfold rightP
  have hl : listsF (partsF p.kind) p = true := by
    unfold listsF
    rcases hk with e | e
    all_goals
      rw [e, h6, h7, h8]
      rfl
  rw [hl]
  rcases hk with e | e
  all_goals
    rw [e] at h4 ⊢
    simp only [if_true, (show ¬ ((7 : Int) = 5) by decide), if_false] at h4
    first
      | rw [parts_5]
      | rw [parts_7]
    unfold noParts numbersF ballotF answerF vLeast vMost
    simp only [if_true, Bool.or_true, Bool.true_or, Bool.not_true, Bool.not_false, Bool.true_and, Bool.and_true, Bool.false_eq_true, if_false, decide_eq_true h2, decide_eq_true h1, decide_eq_true h3, decide_eq_true h4, h5]
    first | rfl | simp_all
theorem ans_right1 (r : RegD) (b : BalD) (tr : Nat) (h : rightR r = true) (hb : b.pos ≠ 0) (ht : tr ≠ 0) : rightP (ansP (prepD r b) tr b (!lateB r b) false) = true := by
  have hv := v_range h
  have hi := isB_v h
  rcases hl : lateB r b with _ | _
  · rw [prep_yes hl]
    exact right_ans (.inl rfl) ht hb hv.1 hv.2 hi rfl rfl rfl
  · rw [prep_no hl]
    have h2 : lessB b r.p = true := by
      unfold lateB at hl
      rwa [decide_eq_false hb, Bool.false_or] at hl
    exact right_ans (.inl rfl) ht hb (Int.le_refl 0) (by show (0 : Int) ≤ (if (5 : Int) = 5 then 3 else 0); decide) (by show (isB r.p.pos r.p.id && decide ((0 : Int) = 0)) = true; rw [isB_of (late_isB hb h2)]; rfl) rfl rfl rfl
theorem ans_right2 (r : RegD) (b : BalD) (v : Int) (tr : Nat) (h : rightR r = true) (hb : b.pos ≠ 0) (ht : tr ≠ 0) (h1 : 1 ≤ v) (h3 : v ≤ 3) : rightP (ansP (accD r b v) tr b (takesB r b v) true) = true := by
  rcases hl : takesB r b v with _ | _
  · rw [acc_no hl]
    have hp : r.p.pos ≠ 0 := by
      rcases hx : lateB r b with _ | _
      · have h5 : b = r.t := by
          refine Classical.byContradiction fun hn => ?_
          rw [(takes_iff r b v).2 ⟨hx, ⟨h1, h3⟩, fun e => absurd e hn⟩] at hl
          cases hl
        have h6 := of_decide_eq_false ((right_iff r).1 h).1
        rw [← h5] at h6
        omega
      · have h2 : lessB b r.p = true := by
          unfold lateB at hx
          rwa [decide_eq_false hb, Bool.false_or] at hx
        exact late_isB hb h2
    exact right_ans (.inr rfl) ht hb (Int.le_refl 0) (by show (0 : Int) ≤ (if (7 : Int) = 5 then 3 else 0); decide) (by show (isB r.p.pos r.p.id && decide ((0 : Int) = 0)) = true; rw [isB_of hp]; rfl) rfl rfl rfl
  · exact right_ans (.inr rfl) ht hb (Int.le_refl 0) (by show (0 : Int) ≤ (if (7 : Int) = 5 then 3 else 0); decide) rfl rfl rfl rfl
theorem ans_wf (r : RegD) (tr : Nat) (b : BalD) (ok took : Bool) (hr : Re.Wf r) (hb : Bl.Wf b) (ht : tr < 18446744073709551616) : (ansP r tr b ok took).Wf := by
  obtain ⟨⟨a1, a2⟩, ⟨a3, a4⟩, -, -⟩ := hr
  obtain ⟨b1, b2⟩ := hb
  cases ok <;> cases took <;> exact ⟨ht, b1, b2, by (first | exact a1 | exact a3 | (show (0 : Nat) < _; decide)), by (first | exact a2 | exact a4 | (show (0 : Nat) < _; decide)), (fun s h => by cases h), (fun s h => by cases h), (fun s h => by cases h)⟩
theorem prep_wf {r : RegD} {b : BalD} (hr : Re.Wf r) (hb : Bl.Wf b) : Re.Wf (prepD r b) := by
  unfold prepD
  split
  · exact hr
  · exact ⟨hb, hr.2.1, hr.2.2⟩
theorem acc_wf {r : RegD} {b : BalD} {v : Int} (hr : Re.Wf r) (hb : Bl.Wf b) (h1 : -9223372036854775808 ≤ v) (h2 : v ≤ 9223372036854775807) : Re.Wf (accD r b v) := by
  unfold accD
  split
  · exact ⟨hb, hb, h1, h2⟩
  · exact hr
theorem right_says (p : PackD) (hw : p.Wf) (h1 : p.spans = []) (h2 : p.members = []) (h3 : p.ids = []) (hr : rightP p = true) (W : World) : Calls Try.prog 38 #[packVal p noS] W (RetB W.heap.size W (.int .i64 0)) := by
  have h := refpack_any p noS W (packIn_no W p h1 h2 h3) hw
  rw [hr] at h
  exact h
set_option maxRecDepth 100000 in
set_option maxHeartbeats 16000000 in
theorem walk (v0 : Value) (v1 : Value) (a2 : Int) (a3 : Int) (w : World) (w0 : Re.RegV w v0) (w1 : Bl.BalV w v1) (w2 : (Lit.int .i64 a2).wf = true) (w3 : (Lit.int .u64 a3).wf = true) :
    Calls Try.prog 8 #[v0, v1, .int .i64 a2, .int .u64 a3] w fun e w' => e = .returned (.bool true) ∧ Below w.heap.size w w' := by
  obtain ⟨r, hrw, rfl⟩ := w0
  obtain ⟨b, hbw, rfl⟩ := w1
  obtain ⟨tr, rfl, htr⟩ := Bl.u64_of w3
  have hv9 : -9223372036854775808 ≤ a2 ∧ a2 ≤ 9223372036854775807 := by simpa [Lit.wf, IntKind.min, IntKind.max, IntKind.bits, IntKind.signed] using w2
  clear w2 w3
  have HRr := hid_ (fun (W : World) => rright_any r W)
  have HAl := hid_ (fun (W : World) => regalive_any W)
  have HB0 := hid_ (((Below.refl w.heap.size w).alloc (Nat.le_refl _) (.cells (regCells r) 53)).alloc (by simp) (.cells #[.int .u64 (b.pos : Nat), .int .u64 (b.id : Nat)] 50))
  have HR0 := hid_ ((whole_new w 53 (regCells r)).alloc (.cells #[.int .u64 (b.pos : Nat), .int .u64 (b.id : Nat)] 50))
  have HX0 := hid_ (whole_at (w.alloc (.cells (regCells r) 53)) (w.heap.size + 1) 50 #[.int .u64 (b.pos : Nat), .int .u64 (b.id : Nat)] (by simp))
  cases hr : rightR r
  · rw [hr] at HRr
    clear hrw hbw htr hv9 hr 
    go_enter Try.func8, Try.ntmps8
    go_wp2_with fail
    (with_reducible refine Calls.mono (HRr.out _) ?_)
    rintro e w1 ⟨rfl, hb⟩
    have HB1 := hid_ (HB0.out.trans (hb.mono HB0.out.size))
    have HR1 := hid_ (HR0.out.below hb HR0.out.lt)
    have HX1 := hid_ (HX0.out.below hb HX0.out.lt)
    clear hb
    have z0 := (HX1.out.cell 0 (.int .u64 (b.pos : Nat)) rfl)
    have z1 := (HX1.out.cell 1 (.int .u64 (b.id : Nat)) rfl)
    go_wp2_with fail
    (with_reducible refine Calls.mono (HAl.out _) ?_)
    rintro e wz ⟨rfl, hbz⟩
    have HBz := hid_ (HB1.out.trans (hbz.mono HB1.out.size))
    clear hbz
    go_wp2_with fail
    go_ret
    exact ⟨rfl, HBz.out⟩
  · by_cases h0 : b.pos = 0
    · skip
      have b1 : (b.pos == 0) = true := by rw [beq_iff_eq]; omega
      have b2 : (((b.pos : Nat) : Int) == 0) = true := by rw [beq_iff_eq]; omega
      rw [hr] at HRr
      clear hrw hbw htr hv9 hr h0
      go_enter Try.func8, Try.ntmps8
      go_wp2_with fail
      (with_reducible refine Calls.mono (HRr.out _) ?_)
      rintro e w1 ⟨rfl, hb⟩
      have HB1 := hid_ (HB0.out.trans (hb.mono HB0.out.size))
      have HR1 := hid_ (HR0.out.below hb HR0.out.lt)
      have HX1 := hid_ (HX0.out.below hb HX0.out.lt)
      clear hb
      have z0 := (HX1.out.cell 0 (.int .u64 (b.pos : Nat)) rfl)
      have z1 := (HX1.out.cell 1 (.int .u64 (b.id : Nat)) rfl)
      go_wp2_with fail
      (with_reducible refine Calls.mono (HAl.out _) ?_)
      rintro e wz ⟨rfl, hbz⟩
      have HBz := hid_ (HB1.out.trans (hbz.mono HB1.out.size))
      clear hbz
      go_wp2_with fail
      go_ret
      exact ⟨rfl, HBz.out⟩
    · skip
      have b1 : (b.pos == 0) = false := by rw [beq_eq_false_iff_ne]; omega
      have b2 : (((b.pos : Nat) : Int) == 0) = false := by rw [beq_eq_false_iff_ne]; omega
      by_cases ht : tr = 0
      · skip
        have t1 : (tr == 0) = true := by rw [beq_iff_eq]; omega
        have t2 : (((tr : Nat) : Int) == 0) = true := by rw [beq_iff_eq]; omega
        rw [hr] at HRr
        clear hrw hbw htr hv9 hr h0 ht
        go_enter Try.func8, Try.ntmps8
        go_wp2_with fail
        (with_reducible refine Calls.mono (HRr.out _) ?_)
        rintro e w1 ⟨rfl, hb⟩
        have HB1 := hid_ (HB0.out.trans (hb.mono HB0.out.size))
        have HR1 := hid_ (HR0.out.below hb HR0.out.lt)
        have HX1 := hid_ (HX0.out.below hb HX0.out.lt)
        clear hb
        have z0 := (HX1.out.cell 0 (.int .u64 (b.pos : Nat)) rfl)
        have z1 := (HX1.out.cell 1 (.int .u64 (b.id : Nat)) rfl)
        go_wp2_with fail
        (with_reducible refine Calls.mono (HAl.out _) ?_)
        rintro e wz ⟨rfl, hbz⟩
        have HBz := hid_ (HB1.out.trans (hbz.mono HB1.out.size))
        clear hbz
        go_wp2_with fail
        go_ret
        exact ⟨rfl, HBz.out⟩
      · skip
        have t1 : (tr == 0) = false := by rw [beq_eq_false_iff_ne]; omega
        have t2 : (((tr : Nat) : Int) == 0) = false := by rw [beq_eq_false_iff_ne]; omega
        by_cases h1 : a2 < 1
        · skip
          have q1 : decide (a2 < 1) = true := decide_eq_true (by omega)
          rw [hr] at HRr
          clear hrw hbw htr hv9 hr h0 ht h1
          go_enter Try.func8, Try.ntmps8
          go_wp2_with fail
          (with_reducible refine Calls.mono (HRr.out _) ?_)
          rintro e w1 ⟨rfl, hb⟩
          have HB1 := hid_ (HB0.out.trans (hb.mono HB0.out.size))
          have HR1 := hid_ (HR0.out.below hb HR0.out.lt)
          have HX1 := hid_ (HX0.out.below hb HX0.out.lt)
          clear hb
          have z0 := (HX1.out.cell 0 (.int .u64 (b.pos : Nat)) rfl)
          have z1 := (HX1.out.cell 1 (.int .u64 (b.id : Nat)) rfl)
          go_wp2_with fail
          (with_reducible refine Calls.mono (HAl.out _) ?_)
          rintro e wz ⟨rfl, hbz⟩
          have HBz := hid_ (HB1.out.trans (hbz.mono HB1.out.size))
          clear hbz
          go_wp2_with fail
          go_ret
          exact ⟨rfl, HBz.out⟩
        · skip
          have q1 : decide (a2 < 1) = false := decide_eq_false (by omega)
          by_cases h3 : 3 < a2
          · skip
            have q3 : decide (a2 > 3) = true := decide_eq_true (by omega)
            have q4 : decide (3 < a2) = true := decide_eq_true (by omega)
            rw [hr] at HRr
            clear hrw hbw htr hv9 hr h0 ht h1 h3
            go_enter Try.func8, Try.ntmps8
            go_wp2_with fail
            (with_reducible refine Calls.mono (HRr.out _) ?_)
            rintro e w1 ⟨rfl, hb⟩
            have HB1 := hid_ (HB0.out.trans (hb.mono HB0.out.size))
            have HR1 := hid_ (HR0.out.below hb HR0.out.lt)
            have HX1 := hid_ (HX0.out.below hb HX0.out.lt)
            clear hb
            have z0 := (HX1.out.cell 0 (.int .u64 (b.pos : Nat)) rfl)
            have z1 := (HX1.out.cell 1 (.int .u64 (b.id : Nat)) rfl)
            go_wp2_with fail
            (with_reducible refine Calls.mono (HAl.out _) ?_)
            rintro e wz ⟨rfl, hbz⟩
            have HBz := hid_ (HB1.out.trans (hbz.mono HB1.out.size))
            clear hbz
            go_wp2_with fail
            go_ret
            exact ⟨rfl, HBz.out⟩
          · skip
            have q3 : decide (a2 > 3) = false := decide_eq_false (by omega)
            have q4 : decide (3 < a2) = false := decide_eq_false (by omega)
            have HPr := hid_ (fun (W : World) => prepare_any r b W)
            have HAc := hid_ (fun (W : World) => accept_any r b a2 W)
            have HOw := hid_ (fun (W : World) => own_any r W)
            have HAn1 := hid_ (fun (W : World) => answer_any (prepD r b) tr b (!lateB r b) false W)
            have HAn2 := hid_ (fun (W : World) => answer_any (accD r b a2) tr b (takesB r b a2) true W)
            have HRg1 := hid_ (right_says (ansP (prepD r b) tr b (!lateB r b) false) (ans_wf _ _ _ _ _ (prep_wf hrw hbw) hbw htr) rfl rfl rfl (ans_right1 r b tr hr (by omega) (by omega)))
            have HRg2 := hid_ (right_says (ansP (accD r b a2) tr b (takesB r b a2) true) (ans_wf _ _ _ _ _ (acc_wf hrw hbw hv9.1 hv9.2) hbw htr) rfl rfl rfl (ans_right2 r b a2 tr hr (by omega) (by omega) (by omega) (by omega)))
            rw [hr] at HRr
            clear hr hrw hbw htr hv9 h0 ht h1 h3
            generalize ansP (prepD r b) tr b (!lateB r b) false = pa at *
            generalize ansP (accD r b a2) tr b (takesB r b a2) true = pb at *
            generalize prepD r b = x at *
            generalize (!lateB r b) = i at *
            generalize accD r b a2 = y at *
            generalize takesB r b a2 = j at *
            go_enter Try.func8, Try.ntmps8
            go_wp2_with fail
            (with_reducible refine Calls.mono (HRr.out _) ?_)
            rintro e w1 ⟨rfl, hb⟩
            have HB1 := hid_ (HB0.out.trans (hb.mono HB0.out.size))
            have HR1 := hid_ (HR0.out.below hb HR0.out.lt)
            have HX1 := hid_ (HX0.out.below hb HX0.out.lt)
            clear hb
            have z0 := (HX1.out.cell 0 (.int .u64 (b.pos : Nat)) rfl)
            have z1 := (HX1.out.cell 1 (.int .u64 (b.id : Nat)) rfl)
            go_upto_region 3 with (fail)
            go_cut [9, 10] from 34 to 40 (fun v13 v14 wx => KeptR w1 54 x i v13 v14 wx)
            case first =>
              have S0 : RbIn w1 w.heap.size r (w.heap.size + 1) b w1 := ⟨Below.refl _ _, r5_of HR1.out, b2_of HX1.out⟩
              have HS0 := hid_ S0
              have HBr := hid_ (Below.refl w1.heap.size w1)
              go_region_held3 (RbIn w1 w.heap.size r (w.heap.size + 1) b) (first | (with_reducible assumption) | (with_reducible exact rbIn_of HS0.out hbv) | (with_reducible exact rbIn_of HS0.out hbw) | (with_reducible exact rbIn_of HS0.out (below_set5 hbv (Nat.le_refl _) _ _ _ _ _)) | (with_reducible exact rbIn_of HS0.out (below_set5 hbv hgm _ _ _ _ _)) | (with_reducible exact rbIn_of HS0.out (Below.alloc hbv (Below.size hbv) _)) | (with_reducible exact rbIn_of HS0.out (Below.alloc hbw (Below.size hbw) _)) | (with_reducible exact rbIn_of HS0.out (Below.drew (Below.refl _ _))) | (with_reducible exact rbIn_of HS0.out (Below.alloc (Below.drew (Below.refl _ _)) (Nat.le_refl _) _)) | (with_reducible exact rbIn_of HS0.out (Below.drew (Below.alloc (Below.refl _ _) (Nat.le_refl _) _))) | (with_reducible exact rbIn_of HS0.out (Below.alloc (Below.refl _ _) (Nat.le_refl _) _)) | fail)
                (first
                  | (go_at_call 26; (with_reducible refine Calls.mono (HOw.out _) ?_); rintro e wo ⟨rfl, hbo⟩; (first | (with_reducible have hbw := chain0 HBr.out hbo) | (with_reducible have hbw := chainD HBr.out hbo) | (with_reducible have hbw := chainA HBr.out hbo; with_reducible have hz1 := whole_past hbo) | (with_reducible have hbw := chainAD HBr.out hbo; with_reducible have hz1 := whole_pastD hbo) | (with_reducible have hbw := chainDA HBr.out hbo; with_reducible have hz1 := whole_past hbo)))
                  | (go_at_call 25; (with_reducible refine Calls.mono (HPr.out _) ?_); rintro e wp ⟨rfl, hbp⟩; (first | (with_reducible have hz2 := whole_gone hz1 hbp; with_reducible have hbv := chain0 hbw hbp; have n0 := hz2.cell 0 (.int .u64 0) rfl; have n1 := hz2.cell 1 (.int .u64 0) rfl; have n2 := hz2.cell 2 (.int .u64 0) rfl; have n3 := hz2.cell 3 (.int .u64 0) rfl; have n4 := hz2.cell 4 (.int .i64 0) rfl; have f0 := hz2.free 0; have f1 := hz2.free 1; have f2 := hz2.free 2; have f3 := hz2.free 3; have f4 := hz2.free 4) | (with_reducible have hbv := chain0 hbw hbp) | (with_reducible have hbv := chainA hbw hbp; with_reducible have hz2 := whole_past hbp; have hgm := hbw.size; have n0 := hz2.cell 0 (.int .u64 0) rfl; have n1 := hz2.cell 1 (.int .u64 0) rfl; have n2 := hz2.cell 2 (.int .u64 0) rfl; have n3 := hz2.cell 3 (.int .u64 0) rfl; have n4 := hz2.cell 4 (.int .i64 0) rfl; have f0 := hz2.free 0; have f1 := hz2.free 1; have f2 := hz2.free 2; have f3 := hz2.free 3; have f4 := hz2.free 4; generalize wo.heap.size = gm at *)))
                  | fail)
              all_goals
                go_wp2_with fail
                go_meet
                first
                  | (with_reducible exact keptR_mk rfl (Below.size hbv) (whole_new _ _ _) (Below.alloc hbv (Below.size hbv) _))
                  | (with_reducible exact keptR_mk rfl hgm (whole_set5 hz2 _ _ _ _ _) (below_set5 hbv hgm _ _ _ _ _))
                  | (with_reducible exact keptR_mk rfl (Nat.le_refl _) (whole_set5 hz2 _ _ _ _ _) (below_set5 hbv (Nat.le_refl _) _ _ _ _ _))
                  | fail
            case rest =>
              obtain ⟨gx, rfl, rfl, hgx, hwx, hb⟩ := hcut
              obtain ⟨w2, rfl⟩ : ∃ w2 : World, w2 = wc := ⟨_, rfl⟩
              have HB2 := hid_ (HB1.out.trans (hb.mono HB1.out.size))
              have HP2 := hid_ hwx
              have HR2 := hid_ ((HR1.out.below hb HR1.out.lt))
              have HX2 := hid_ ((HX1.out.below hb HX1.out.lt))
              clear hwx hgx hb z0 z1
              go_upto_region 4 with (fail)
              go_cut [11, 12] from 41 to 48 (fun v13 v14 wx => KeptR w2 54 y j v13 v14 wx)
              case first =>
                have S0 : RbIn w2 w.heap.size r (w.heap.size + 1) b w2 := ⟨Below.refl _ _, r5_of HR2.out, b2_of HX2.out⟩
                have HS0 := hid_ S0
                have HBr := hid_ (Below.refl w2.heap.size w2)
                go_region_held3 (RbIn w2 w.heap.size r (w.heap.size + 1) b) (first | (with_reducible assumption) | (with_reducible exact rbIn_of HS0.out hbv) | (with_reducible exact rbIn_of HS0.out hbw) | (with_reducible exact rbIn_of HS0.out (below_set5 hbv (Nat.le_refl _) _ _ _ _ _)) | (with_reducible exact rbIn_of HS0.out (below_set5 hbv hgm _ _ _ _ _)) | (with_reducible exact rbIn_of HS0.out (Below.alloc hbv (Below.size hbv) _)) | (with_reducible exact rbIn_of HS0.out (Below.alloc hbw (Below.size hbw) _)) | (with_reducible exact rbIn_of HS0.out (Below.drew (Below.refl _ _))) | (with_reducible exact rbIn_of HS0.out (Below.alloc (Below.drew (Below.refl _ _)) (Nat.le_refl _) _)) | (with_reducible exact rbIn_of HS0.out (Below.drew (Below.alloc (Below.refl _ _) (Nat.le_refl _) _))) | (with_reducible exact rbIn_of HS0.out (Below.alloc (Below.refl _ _) (Nat.le_refl _) _)) | fail)
                  (first
                    | (go_at_call 26; (with_reducible refine Calls.mono (HOw.out _) ?_); rintro e wo ⟨rfl, hbo⟩; (first | (with_reducible have hbw := chain0 HBr.out hbo) | (with_reducible have hbw := chainD HBr.out hbo) | (with_reducible have hbw := chainA HBr.out hbo; with_reducible have hz1 := whole_past hbo) | (with_reducible have hbw := chainAD HBr.out hbo; with_reducible have hz1 := whole_pastD hbo) | (with_reducible have hbw := chainDA HBr.out hbo; with_reducible have hz1 := whole_past hbo)))
                    | (go_at_call 28; (with_reducible refine Calls.mono (HAc.out _) ?_); rintro e wp ⟨rfl, hbp⟩; (first | (with_reducible have hz2 := whole_gone hz1 hbp; with_reducible have hbv := chain0 hbw hbp; have n0 := hz2.cell 0 (.int .u64 0) rfl; have n1 := hz2.cell 1 (.int .u64 0) rfl; have n2 := hz2.cell 2 (.int .u64 0) rfl; have n3 := hz2.cell 3 (.int .u64 0) rfl; have n4 := hz2.cell 4 (.int .i64 0) rfl; have f0 := hz2.free 0; have f1 := hz2.free 1; have f2 := hz2.free 2; have f3 := hz2.free 3; have f4 := hz2.free 4) | (with_reducible have hbv := chain0 hbw hbp) | (with_reducible have hbv := chainA hbw hbp; with_reducible have hz2 := whole_past hbp; have hgm := hbw.size; have n0 := hz2.cell 0 (.int .u64 0) rfl; have n1 := hz2.cell 1 (.int .u64 0) rfl; have n2 := hz2.cell 2 (.int .u64 0) rfl; have n3 := hz2.cell 3 (.int .u64 0) rfl; have n4 := hz2.cell 4 (.int .i64 0) rfl; have f0 := hz2.free 0; have f1 := hz2.free 1; have f2 := hz2.free 2; have f3 := hz2.free 3; have f4 := hz2.free 4; generalize wo.heap.size = gm at *)))
                    | fail)
                all_goals
                  go_wp2_with fail
                  go_meet
                  first
                    | (with_reducible exact keptR_mk rfl (Below.size hbv) (whole_new _ _ _) (Below.alloc hbv (Below.size hbv) _))
                    | (with_reducible exact keptR_mk rfl hgm (whole_set5 hz2 _ _ _ _ _) (below_set5 hbv hgm _ _ _ _ _))
                    | (with_reducible exact keptR_mk rfl (Nat.le_refl _) (whole_set5 hz2 _ _ _ _ _) (below_set5 hbv (Nat.le_refl _) _ _ _ _ _))
                    | fail
              case rest =>
                obtain ⟨gy, rfl, rfl, hgy, hwx, hb⟩ := hcut
                obtain ⟨w3, rfl⟩ : ∃ w3 : World, w3 = wc := ⟨_, rfl⟩
                have HB3 := hid_ (HB2.out.trans (hb.mono HB2.out.size))
                have HQ3 := hid_ hwx
                have HR3 := hid_ ((HR2.out.below hb HR2.out.lt))
                have HX3 := hid_ ((HX2.out.below hb HX2.out.lt))
                have HP3 := hid_ ((HP2.out.below hb HP2.out.lt))
                clear hwx hgy hb
                have y0 := (HR3.out.cell 0 (.int .u64 (r.p.pos : Nat)) rfl)
                have y1 := (HR3.out.cell 1 (.int .u64 (r.p.id : Nat)) rfl)
                have y2 := (HR3.out.cell 2 (.int .u64 (r.t.pos : Nat)) rfl)
                have y3 := (HR3.out.cell 3 (.int .u64 (r.t.id : Nat)) rfl)
                have y4 := (HR3.out.cell 4 (.int .i64 r.v) rfl)
                have kt : ∀ w, (binOp .eql 50 (.agg #[.int .u64 (r.t.pos : Nat), .int .u64 (r.t.id : Nat)]) (.agg #[.int .u64 (b.pos : Nat), .int .u64 (b.id : Nat)])).run Try.prog w = .ok (.bool (sameB r.t b)) w := fun w => bal_eql r.t b w
                have kp : ∀ w, (binOp .eql 50 (.agg #[.int .u64 (r.p.pos : Nat), .int .u64 (r.p.id : Nat)]) (.agg #[.int .u64 (b.pos : Nat), .int .u64 (b.id : Nat)])).run Try.prog w = .ok (.bool (sameB r.p b)) w := fun w => bal_eql r.p b w
                generalize sameB r.t b = s1 at *
                generalize sameB r.p b = s2 at *
                cases j
                · cases s1
                  · skip
                    have u0 := (HP3.out.cell 0 (.int .u64 (x.p.pos : Nat)) rfl)
                    have u1 := (HP3.out.cell 1 (.int .u64 (x.p.id : Nat)) rfl)
                    have u2 := (HP3.out.cell 2 (.int .u64 (x.t.pos : Nat)) rfl)
                    have u3 := (HP3.out.cell 3 (.int .u64 (x.t.id : Nat)) rfl)
                    have u4 := (HP3.out.cell 4 (.int .i64 x.v) rfl)
                    have v0 := (HQ3.out.cell 0 (.int .u64 (y.p.pos : Nat)) rfl)
                    have v1 := (HQ3.out.cell 1 (.int .u64 (y.p.id : Nat)) rfl)
                    have v2 := (HQ3.out.cell 2 (.int .u64 (y.t.pos : Nat)) rfl)
                    have v3 := (HQ3.out.cell 3 (.int .u64 (y.t.id : Nat)) rfl)
                    have v4 := (HQ3.out.cell 4 (.int .i64 y.v) rfl)
                    have z0 := (HX3.out.cell 0 (.int .u64 (b.pos : Nat)) rfl)
                    have z1 := (HX3.out.cell 1 (.int .u64 (b.id : Nat)) rfl)
                    go_wp2_with fail
                    (with_reducible refine Calls.mono (HAn1.out _) ?_)
                    rintro e w4 ⟨rfl, hb⟩
                    have HB4 := hid_ (HB3.out.trans (hb.mono HB3.out.size))
                    have HX4 := hid_ ((HX3.out.below hb HX3.out.lt))
                    have HP4 := hid_ ((HP3.out.below hb HP3.out.lt))
                    have HQ4 := hid_ ((HQ3.out.below hb HQ3.out.lt))
                    clear hb
                    clear u0 u1 u2 u3 u4 v0 v1 v2 v3 v4 z0 z1
                    have u0 := (HP4.out.cell 0 (.int .u64 (x.p.pos : Nat)) rfl)
                    have u1 := (HP4.out.cell 1 (.int .u64 (x.p.id : Nat)) rfl)
                    have u2 := (HP4.out.cell 2 (.int .u64 (x.t.pos : Nat)) rfl)
                    have u3 := (HP4.out.cell 3 (.int .u64 (x.t.id : Nat)) rfl)
                    have u4 := (HP4.out.cell 4 (.int .i64 x.v) rfl)
                    have v0 := (HQ4.out.cell 0 (.int .u64 (y.p.pos : Nat)) rfl)
                    have v1 := (HQ4.out.cell 1 (.int .u64 (y.p.id : Nat)) rfl)
                    have v2 := (HQ4.out.cell 2 (.int .u64 (y.t.pos : Nat)) rfl)
                    have v3 := (HQ4.out.cell 3 (.int .u64 (y.t.id : Nat)) rfl)
                    have v4 := (HQ4.out.cell 4 (.int .i64 y.v) rfl)
                    have z0 := (HX4.out.cell 0 (.int .u64 (b.pos : Nat)) rfl)
                    have z1 := (HX4.out.cell 1 (.int .u64 (b.id : Nat)) rfl)
                    go_wp2_with fail
                    (with_reducible refine Calls.mono (HRg1.out _) ?_)
                    rintro e w5 ⟨rfl, hb⟩
                    have HB5 := hid_ (HB4.out.trans (hb.mono HB4.out.size))
                    have HX5 := hid_ ((HX4.out.below hb HX4.out.lt))
                    have HP5 := hid_ ((HP4.out.below hb HP4.out.lt))
                    have HQ5 := hid_ ((HQ4.out.below hb HQ4.out.lt))
                    clear hb
                    clear u0 u1 u2 u3 u4 v0 v1 v2 v3 v4 z0 z1
                    have u0 := (HP5.out.cell 0 (.int .u64 (x.p.pos : Nat)) rfl)
                    have u1 := (HP5.out.cell 1 (.int .u64 (x.p.id : Nat)) rfl)
                    have u2 := (HP5.out.cell 2 (.int .u64 (x.t.pos : Nat)) rfl)
                    have u3 := (HP5.out.cell 3 (.int .u64 (x.t.id : Nat)) rfl)
                    have u4 := (HP5.out.cell 4 (.int .i64 x.v) rfl)
                    have v0 := (HQ5.out.cell 0 (.int .u64 (y.p.pos : Nat)) rfl)
                    have v1 := (HQ5.out.cell 1 (.int .u64 (y.p.id : Nat)) rfl)
                    have v2 := (HQ5.out.cell 2 (.int .u64 (y.t.pos : Nat)) rfl)
                    have v3 := (HQ5.out.cell 3 (.int .u64 (y.t.id : Nat)) rfl)
                    have v4 := (HQ5.out.cell 4 (.int .i64 y.v) rfl)
                    have z0 := (HX5.out.cell 0 (.int .u64 (b.pos : Nat)) rfl)
                    have z1 := (HX5.out.cell 1 (.int .u64 (b.id : Nat)) rfl)
                    go_wp2_with fail
                    (with_reducible refine Calls.mono (HAn2.out _) ?_)
                    rintro e w6 ⟨rfl, hb⟩
                    have HB6 := hid_ (HB5.out.trans (hb.mono HB5.out.size))
                    clear hb
                    go_wp2_with fail
                    (with_reducible refine Calls.mono (HRg2.out _) ?_)
                    rintro e w7 ⟨rfl, hb⟩
                    have HB7 := hid_ (HB6.out.trans (hb.mono HB6.out.size))
                    clear hb
                    go_wp2_with fail
                    (with_reducible refine Calls.mono (HAl.out _) ?_)
                    rintro e wz ⟨rfl, hbz⟩
                    have HBz := hid_ (HB7.out.trans (hbz.mono HB7.out.size))
                    clear hbz
                    go_wp2_with fail
                    go_ret
                    exact ⟨rfl, HBz.out⟩
                  · cases s2
                    · skip
                      have u0 := (HP3.out.cell 0 (.int .u64 (x.p.pos : Nat)) rfl)
                      have u1 := (HP3.out.cell 1 (.int .u64 (x.p.id : Nat)) rfl)
                      have u2 := (HP3.out.cell 2 (.int .u64 (x.t.pos : Nat)) rfl)
                      have u3 := (HP3.out.cell 3 (.int .u64 (x.t.id : Nat)) rfl)
                      have u4 := (HP3.out.cell 4 (.int .i64 x.v) rfl)
                      have v0 := (HQ3.out.cell 0 (.int .u64 (y.p.pos : Nat)) rfl)
                      have v1 := (HQ3.out.cell 1 (.int .u64 (y.p.id : Nat)) rfl)
                      have v2 := (HQ3.out.cell 2 (.int .u64 (y.t.pos : Nat)) rfl)
                      have v3 := (HQ3.out.cell 3 (.int .u64 (y.t.id : Nat)) rfl)
                      have v4 := (HQ3.out.cell 4 (.int .i64 y.v) rfl)
                      have z0 := (HX3.out.cell 0 (.int .u64 (b.pos : Nat)) rfl)
                      have z1 := (HX3.out.cell 1 (.int .u64 (b.id : Nat)) rfl)
                      go_wp2_with fail
                      (with_reducible refine Calls.mono (HAn1.out _) ?_)
                      rintro e w4 ⟨rfl, hb⟩
                      have HB4 := hid_ (HB3.out.trans (hb.mono HB3.out.size))
                      have HX4 := hid_ ((HX3.out.below hb HX3.out.lt))
                      have HP4 := hid_ ((HP3.out.below hb HP3.out.lt))
                      have HQ4 := hid_ ((HQ3.out.below hb HQ3.out.lt))
                      clear hb
                      clear u0 u1 u2 u3 u4 v0 v1 v2 v3 v4 z0 z1
                      have u0 := (HP4.out.cell 0 (.int .u64 (x.p.pos : Nat)) rfl)
                      have u1 := (HP4.out.cell 1 (.int .u64 (x.p.id : Nat)) rfl)
                      have u2 := (HP4.out.cell 2 (.int .u64 (x.t.pos : Nat)) rfl)
                      have u3 := (HP4.out.cell 3 (.int .u64 (x.t.id : Nat)) rfl)
                      have u4 := (HP4.out.cell 4 (.int .i64 x.v) rfl)
                      have v0 := (HQ4.out.cell 0 (.int .u64 (y.p.pos : Nat)) rfl)
                      have v1 := (HQ4.out.cell 1 (.int .u64 (y.p.id : Nat)) rfl)
                      have v2 := (HQ4.out.cell 2 (.int .u64 (y.t.pos : Nat)) rfl)
                      have v3 := (HQ4.out.cell 3 (.int .u64 (y.t.id : Nat)) rfl)
                      have v4 := (HQ4.out.cell 4 (.int .i64 y.v) rfl)
                      have z0 := (HX4.out.cell 0 (.int .u64 (b.pos : Nat)) rfl)
                      have z1 := (HX4.out.cell 1 (.int .u64 (b.id : Nat)) rfl)
                      go_wp2_with fail
                      (with_reducible refine Calls.mono (HRg1.out _) ?_)
                      rintro e w5 ⟨rfl, hb⟩
                      have HB5 := hid_ (HB4.out.trans (hb.mono HB4.out.size))
                      have HX5 := hid_ ((HX4.out.below hb HX4.out.lt))
                      have HP5 := hid_ ((HP4.out.below hb HP4.out.lt))
                      have HQ5 := hid_ ((HQ4.out.below hb HQ4.out.lt))
                      clear hb
                      clear u0 u1 u2 u3 u4 v0 v1 v2 v3 v4 z0 z1
                      have u0 := (HP5.out.cell 0 (.int .u64 (x.p.pos : Nat)) rfl)
                      have u1 := (HP5.out.cell 1 (.int .u64 (x.p.id : Nat)) rfl)
                      have u2 := (HP5.out.cell 2 (.int .u64 (x.t.pos : Nat)) rfl)
                      have u3 := (HP5.out.cell 3 (.int .u64 (x.t.id : Nat)) rfl)
                      have u4 := (HP5.out.cell 4 (.int .i64 x.v) rfl)
                      have v0 := (HQ5.out.cell 0 (.int .u64 (y.p.pos : Nat)) rfl)
                      have v1 := (HQ5.out.cell 1 (.int .u64 (y.p.id : Nat)) rfl)
                      have v2 := (HQ5.out.cell 2 (.int .u64 (y.t.pos : Nat)) rfl)
                      have v3 := (HQ5.out.cell 3 (.int .u64 (y.t.id : Nat)) rfl)
                      have v4 := (HQ5.out.cell 4 (.int .i64 y.v) rfl)
                      have z0 := (HX5.out.cell 0 (.int .u64 (b.pos : Nat)) rfl)
                      have z1 := (HX5.out.cell 1 (.int .u64 (b.id : Nat)) rfl)
                      go_wp2_with fail
                      (with_reducible refine Calls.mono (HAn2.out _) ?_)
                      rintro e w6 ⟨rfl, hb⟩
                      have HB6 := hid_ (HB5.out.trans (hb.mono HB5.out.size))
                      clear hb
                      go_wp2_with fail
                      (with_reducible refine Calls.mono (HRg2.out _) ?_)
                      rintro e w7 ⟨rfl, hb⟩
                      have HB7 := hid_ (HB6.out.trans (hb.mono HB6.out.size))
                      clear hb
                      go_wp2_with fail
                      (with_reducible refine Calls.mono (HAl.out _) ?_)
                      rintro e wz ⟨rfl, hbz⟩
                      have HBz := hid_ (HB7.out.trans (hbz.mono HB7.out.size))
                      clear hbz
                      go_wp2_with fail
                      go_ret
                      exact ⟨rfl, HBz.out⟩
                    · skip
                      have u0 := (HP3.out.cell 0 (.int .u64 (x.p.pos : Nat)) rfl)
                      have u1 := (HP3.out.cell 1 (.int .u64 (x.p.id : Nat)) rfl)
                      have u2 := (HP3.out.cell 2 (.int .u64 (x.t.pos : Nat)) rfl)
                      have u3 := (HP3.out.cell 3 (.int .u64 (x.t.id : Nat)) rfl)
                      have u4 := (HP3.out.cell 4 (.int .i64 x.v) rfl)
                      have v0 := (HQ3.out.cell 0 (.int .u64 (y.p.pos : Nat)) rfl)
                      have v1 := (HQ3.out.cell 1 (.int .u64 (y.p.id : Nat)) rfl)
                      have v2 := (HQ3.out.cell 2 (.int .u64 (y.t.pos : Nat)) rfl)
                      have v3 := (HQ3.out.cell 3 (.int .u64 (y.t.id : Nat)) rfl)
                      have v4 := (HQ3.out.cell 4 (.int .i64 y.v) rfl)
                      have z0 := (HX3.out.cell 0 (.int .u64 (b.pos : Nat)) rfl)
                      have z1 := (HX3.out.cell 1 (.int .u64 (b.id : Nat)) rfl)
                      go_wp2_with fail
                      (with_reducible refine Calls.mono (HAn1.out _) ?_)
                      rintro e w4 ⟨rfl, hb⟩
                      have HB4 := hid_ (HB3.out.trans (hb.mono HB3.out.size))
                      have HX4 := hid_ ((HX3.out.below hb HX3.out.lt))
                      have HP4 := hid_ ((HP3.out.below hb HP3.out.lt))
                      have HQ4 := hid_ ((HQ3.out.below hb HQ3.out.lt))
                      clear hb
                      go_wp2_with fail
                      (with_reducible refine Calls.mono (HRg1.out _) ?_)
                      rintro e w5 ⟨rfl, hb⟩
                      have HB5 := hid_ (HB4.out.trans (hb.mono HB4.out.size))
                      clear hb
                      go_wp2_with fail
                      (with_reducible refine Calls.mono (HAl.out _) ?_)
                      rintro e wz ⟨rfl, hbz⟩
                      have HBz := hid_ (HB5.out.trans (hbz.mono HB5.out.size))
                      clear hbz
                      go_wp2_with fail
                      go_ret
                      exact ⟨rfl, HBz.out⟩
                · skip
                  have u0 := (HP3.out.cell 0 (.int .u64 (x.p.pos : Nat)) rfl)
                  have u1 := (HP3.out.cell 1 (.int .u64 (x.p.id : Nat)) rfl)
                  have u2 := (HP3.out.cell 2 (.int .u64 (x.t.pos : Nat)) rfl)
                  have u3 := (HP3.out.cell 3 (.int .u64 (x.t.id : Nat)) rfl)
                  have u4 := (HP3.out.cell 4 (.int .i64 x.v) rfl)
                  have v0 := (HQ3.out.cell 0 (.int .u64 (y.p.pos : Nat)) rfl)
                  have v1 := (HQ3.out.cell 1 (.int .u64 (y.p.id : Nat)) rfl)
                  have v2 := (HQ3.out.cell 2 (.int .u64 (y.t.pos : Nat)) rfl)
                  have v3 := (HQ3.out.cell 3 (.int .u64 (y.t.id : Nat)) rfl)
                  have v4 := (HQ3.out.cell 4 (.int .i64 y.v) rfl)
                  have z0 := (HX3.out.cell 0 (.int .u64 (b.pos : Nat)) rfl)
                  have z1 := (HX3.out.cell 1 (.int .u64 (b.id : Nat)) rfl)
                  go_wp2_with fail
                  (with_reducible refine Calls.mono (HAn1.out _) ?_)
                  rintro e w4 ⟨rfl, hb⟩
                  have HB4 := hid_ (HB3.out.trans (hb.mono HB3.out.size))
                  have HX4 := hid_ ((HX3.out.below hb HX3.out.lt))
                  have HP4 := hid_ ((HP3.out.below hb HP3.out.lt))
                  have HQ4 := hid_ ((HQ3.out.below hb HQ3.out.lt))
                  clear hb
                  clear u0 u1 u2 u3 u4 v0 v1 v2 v3 v4 z0 z1
                  have u0 := (HP4.out.cell 0 (.int .u64 (x.p.pos : Nat)) rfl)
                  have u1 := (HP4.out.cell 1 (.int .u64 (x.p.id : Nat)) rfl)
                  have u2 := (HP4.out.cell 2 (.int .u64 (x.t.pos : Nat)) rfl)
                  have u3 := (HP4.out.cell 3 (.int .u64 (x.t.id : Nat)) rfl)
                  have u4 := (HP4.out.cell 4 (.int .i64 x.v) rfl)
                  have v0 := (HQ4.out.cell 0 (.int .u64 (y.p.pos : Nat)) rfl)
                  have v1 := (HQ4.out.cell 1 (.int .u64 (y.p.id : Nat)) rfl)
                  have v2 := (HQ4.out.cell 2 (.int .u64 (y.t.pos : Nat)) rfl)
                  have v3 := (HQ4.out.cell 3 (.int .u64 (y.t.id : Nat)) rfl)
                  have v4 := (HQ4.out.cell 4 (.int .i64 y.v) rfl)
                  have z0 := (HX4.out.cell 0 (.int .u64 (b.pos : Nat)) rfl)
                  have z1 := (HX4.out.cell 1 (.int .u64 (b.id : Nat)) rfl)
                  go_wp2_with fail
                  (with_reducible refine Calls.mono (HRg1.out _) ?_)
                  rintro e w5 ⟨rfl, hb⟩
                  have HB5 := hid_ (HB4.out.trans (hb.mono HB4.out.size))
                  have HX5 := hid_ ((HX4.out.below hb HX4.out.lt))
                  have HP5 := hid_ ((HP4.out.below hb HP4.out.lt))
                  have HQ5 := hid_ ((HQ4.out.below hb HQ4.out.lt))
                  clear hb
                  clear u0 u1 u2 u3 u4 v0 v1 v2 v3 v4 z0 z1
                  have u0 := (HP5.out.cell 0 (.int .u64 (x.p.pos : Nat)) rfl)
                  have u1 := (HP5.out.cell 1 (.int .u64 (x.p.id : Nat)) rfl)
                  have u2 := (HP5.out.cell 2 (.int .u64 (x.t.pos : Nat)) rfl)
                  have u3 := (HP5.out.cell 3 (.int .u64 (x.t.id : Nat)) rfl)
                  have u4 := (HP5.out.cell 4 (.int .i64 x.v) rfl)
                  have v0 := (HQ5.out.cell 0 (.int .u64 (y.p.pos : Nat)) rfl)
                  have v1 := (HQ5.out.cell 1 (.int .u64 (y.p.id : Nat)) rfl)
                  have v2 := (HQ5.out.cell 2 (.int .u64 (y.t.pos : Nat)) rfl)
                  have v3 := (HQ5.out.cell 3 (.int .u64 (y.t.id : Nat)) rfl)
                  have v4 := (HQ5.out.cell 4 (.int .i64 y.v) rfl)
                  have z0 := (HX5.out.cell 0 (.int .u64 (b.pos : Nat)) rfl)
                  have z1 := (HX5.out.cell 1 (.int .u64 (b.id : Nat)) rfl)
                  go_wp2_with fail
                  (with_reducible refine Calls.mono (HAn2.out _) ?_)
                  rintro e w6 ⟨rfl, hb⟩
                  have HB6 := hid_ (HB5.out.trans (hb.mono HB5.out.size))
                  clear hb
                  go_wp2_with fail
                  (with_reducible refine Calls.mono (HRg2.out _) ?_)
                  rintro e w7 ⟨rfl, hb⟩
                  have HB7 := hid_ (HB6.out.trans (hb.mono HB6.out.size))
                  clear hb
                  go_wp2_with fail
                  (with_reducible refine Calls.mono (HAl.out _) ?_)
                  rintro e wz ⟨rfl, hbz⟩
                  have HBz := hid_ (HB7.out.trans (hbz.mono HB7.out.size))
                  clear hbz
                  go_wp2_with fail
                  go_ret
                  exact ⟨rfl, HBz.out⟩

set_option maxRecDepth 100000 in
theorem lifted (os : Os) (started : os.Started) (H : Type) (enc : TypeId × Value → H) :
    ReturnsInHanded {} Try.checked os 8 .any (Rows.registerAnswersSpec.pre6 enc Try.prog Try.f8 Rows.registerAnswersRow.domain false) (Rows.registerAnswersSpec.post enc Try.prog Try.f8 false true false false) := by
  refine returnsInHanded_of_change (C := Try.checked) own started (by kernel_rfl) Try.func8
    (ChangeSpec.witness6 (enc := enc) (C := Try.checked) false ⟨#[], #[(.agg #[.int .u64 0, .int .u64 0, .int .u64 0, .int .u64 0, .int .i64 0]), (.agg #[.int .u64 0, .int .u64 0]), .int .i64 0, .int .u64 0], []⟩ 8 (by kernel_rfl) (by kernel_rfl) (by kernel_rfl) (by kernel_rfl)) ?_
  intro W base args ds gs before hval0 hW hcnd _
  have hval : ∀ (j : Nat) t v, Try.f8.params[j]? = some t → args[j]? = some v → Value.okWide Try.prog W .any base t v := hval0
  have hW' := hW
  obtain ⟨p, q, hA0, hV, rfl, hfz, hnd⟩ := hW
  have hA : DataW.TrodAll enc Try.prog W 0 (fun _ => true) true Try.f8.params.toList args.toList ds p := hA0
  rw [Try.params8] at hA hval
  obtain ⟨v0, vs0, d0, ds0, p0, q0, hargs, rfl, rfl, h0, r0⟩ := trodAll_cons hA
  obtain ⟨v1, vs1, d1, ds1, p1, q1, rfl, rfl, rfl, h1, r1⟩ := trodAll_cons r0
  obtain ⟨v2, vs2, d2, ds2, p2, q2, rfl, rfl, rfl, h2, r2⟩ := trodAll_cons r1
  obtain ⟨v3, vs3, d3, ds3, p3, q3, rfl, rfl, rfl, h3, r3⟩ := trodAll_cons r2
  obtain ⟨rfl, rfl, rfl⟩ := trodAll_nil r3
  obtain rfl : args = #[v0, v1, v2, v3] := by cases args; simp_all
  obtain ⟨rfl, rfl⟩ := trodVars_none hV
  have k0 := h0
  have lt0 : ∀ x ∈ p0, x.block < W.heap.size := by obtain ⟨m, hm⟩ := k0; exact DataW.trod_lt m _ _ _ hm
  have w0 : Re.RegV W v0 := Re.open_regV (hval 0 53 v0 rfl rfl) h0
  have k1 := h1
  have lt1 : ∀ x ∈ p1, x.block < W.heap.size := by obtain ⟨m, hm⟩ := k1; exact DataW.trod_lt m _ _ _ hm
  have w1 : Bl.BalV W v1 := Bl.open_balV (hval 1 50 v1 rfl rfl) h1
  obtain ⟨a2, rfl, rfl, rfl, w2⟩ := open_int Try.underlying51 (hval 2 51 v2 rfl rfl) h2
  obtain ⟨a3, rfl, rfl, rfl, w3⟩ := open_int Try.underlying48 (hval 3 48 v3 rfl rfl) h3
  clear hA0 hval0
  refine (walk v0 v1 a2 a3 W w0 w1 w2 w3).mono fun e W' ⟨he, bel⟩ => ?_
  subst he
  exact ⟨_, rfl, _, _, _, [], _, [], hW', trodAll_mk1 (shut_bool Try.underlying4 _), (trodAll_cons_mk (Below.trod laidOut (by kernel_rfl) (of_decide_eq_true (by kernel_rfl)) k0 bel lt0) (trodAll_cons_mk (Below.trod laidOut (by kernel_rfl) (of_decide_eq_true (by kernel_rfl)) k1 bel lt1) (trodAll_cons_mk (shut_int Try.underlying51 w2) (trodAll_cons_mk (shut_int Try.underlying48 w3) trodAll_mk0)))), rfl, bel.frame _, fun h => by cases h⟩

theorem over : Rows.registerAnswersRow.holds Try.pinned (OpenSpec.ofChange Rows.registerAnswersSpec) :=
  OpenClaim.holds_of_wide 8 Try.f8 rfl rfl rfl rfl rfl rfl rfl ⟨rfl, rfl, rfl, rfl, rfl⟩ rfl rfl rfl rfl rfl (by kernel_rfl) Try.func8 (by kernel_rfl)
    (of_decide_eq_true (by kernel_rfl)) (by unfold Func.isWrapper; first | (rw [if_pos (by decide +kernel)]; kernel_rfl) | (rw [if_neg (by decide +kernel)]; exact ⟨rfl, rfl⟩))
    (fun os started H enc _ => lifted os started H enc)

theorem proved : Rows.RegisterAnswersSaid := over
#print axioms proved
end Go.Proofs.Ytljlhaillmeedaa.registerAnswers
