/-
  RegisterRises: a right register stays right and never falls, and what it has taken under a ballot stays under it; no condition on the input.
  The frame round the walk is written by the guide's own program for this statement.
-/
import Derived.Test.YtljlhaillmeedaaZGRN
import Derived.Test.YtljlhaillmeedaaRows
import Derived.WalkKit
import Derived.ProofKit
import Derived.OpenShut
import Derived.ShutString
import Derived.ChangeOld
import Derived.Below
namespace Go.Proofs.Ytljlhaillmeedaa.registerRises
set_option linter.unusedSimpArgs false
set_option linter.unusedVariables false
open Go.ChangeShapes Go.WideShapes Go.ChangeAt Go.RowKit
open Go.ChangeMaps (open_string shut_string)
set_option linter.unusedVariables false

theorem own : ownKnob Try.prog.godebug = none := by kernel_rfl
theorem laidOut : laidOutB Try.prog = true := by kernel_rfl

/-- WHAT THE WALK IS TOLD OF A SLICE OF INTEGERS THAT CAME IN: it is nil; or it leads to a row of 'cap' cells, the numbers 'zs' (the first 'len' are its elements, the rest its spare room), each fitting its kind. -/
def IsRow (k : IntKind) (w : World) (a : Option Addr) (len cap : Nat) (zs : List Int) : Prop :=
  (a = none ∧ len = 0 ∧ cap = 0 ∧ zs = []) ∨
  ∃ x, a = some x ∧ len ≤ cap ∧ cap ≤ maxLen ∧ zs.length = cap ∧ (∀ i, i < zs.length → w.cell? (x.add i) = some (.int k (zs.getD i 0))) ∧ ∀ n ∈ zs, (Lit.int k n).wf = true

open Rg Bl Re Go.Sort
attribute [local go_sem] undef
theorem rises_prep (r : RegD) (b : BalD) (h : rightR r = true) : rightR (prepD r b) = true ∧ lessB (prepD r b).p r.p = false ∧ (prepD r b).t = r.t ∧ (prepD r b).v = r.v ∧ ((!lateB r b) = false → prepD r b = r) := by
  refine ⟨prep_right h, ?_, ?_, ?_, fun e => prep_no (by simpa using e)⟩
  all_goals
    rcases hl : lateB r b with _ | _
    · rw [prep_yes hl]
      try exact ((late_iff r b).1 hl).2
    · rw [prep_no hl]
      try exact less_self _
theorem rises_acc (r : RegD) (b : BalD) (v : Int) (h : rightR r = true) : rightR (accD r b v) = true ∧ lessB (accD r b v).p r.p = false ∧ lessB (accD r b v).t r.t = false ∧ (sameB (accD r b v).t r.t = true → (accD r b v).v = r.v) ∧ (takesB r b v = false → accD r b v = r) ∧ (takesB r b v = true → (accD r b v).t = b ∧ (accD r b v).v = v) := by
  refine ⟨acc_right h, ?_, ?_, ?_, fun e => acc_no e, fun e => by rw [acc_yes e]; exact ⟨rfl, rfl⟩⟩
  all_goals
    rcases hl : takesB r b v with _ | _
    · rw [acc_no hl]
      first | exact less_self _ | exact fun _ => rfl
    · rw [acc_yes hl]
      obtain ⟨h1, h2, h3⟩ := (takes_iff r b v).1 hl
      have h4 := ((late_iff r b).1 h1).2
      first
        | exact h4
        | exact le_on h4 ((right_iff r).1 h).1
        | exact fun e => h3 ((sameB_iff _ _).1 e)
set_option maxRecDepth 100000 in
set_option maxHeartbeats 16000000 in
theorem walk (v0 : Value) (v1 : Value) (a2 : Int) (w : World) (w0 : Re.RegV w v0) (w1 : Bl.BalV w v1) (w2 : (Lit.int .i64 a2).wf = true) :
    Calls Try.prog 7 #[v0, v1, .int .i64 a2] w fun e w' => e = .returned (.bool true) ∧ Below w.heap.size w w' := by
  obtain ⟨r, -, rfl⟩ := w0
  obtain ⟨b, -, rfl⟩ := w1
  clear w2
  have HRr := hid_ (fun (W : World) => rright_any r W)
  have HAl := hid_ (fun (W : World) => regalive_any W)
  have HB0 := hid_ (((Below.refl w.heap.size w).alloc (Nat.le_refl _) (.cells (regCells r) 53)).alloc (by simp) (.cells #[.int .u64 (b.pos : Nat), .int .u64 (b.id : Nat)] 50))
  have HR0 := hid_ ((whole_new w 53 (regCells r)).alloc (.cells #[.int .u64 (b.pos : Nat), .int .u64 (b.id : Nat)] 50))
  have HX0 := hid_ (whole_at (w.alloc (.cells (regCells r) 53)) (w.heap.size + 1) 50 #[.int .u64 (b.pos : Nat), .int .u64 (b.id : Nat)] (by simp))
  cases hr : rightR r
  · rw [hr] at HRr
    clear hr
    go_enter Try.func7, Try.ntmps7
    go_wp2_with fail
    (with_reducible refine Calls.mono (HRr.out _) ?_)
    rintro e w1 ⟨rfl, hb⟩
    have HB1 := hid_ (HB0.out.trans (hb.mono HB0.out.size))
    have HR1 := hid_ (HR0.out.below hb HR0.out.lt)
    have HX1 := hid_ (HX0.out.below hb HX0.out.lt)
    clear hb
    go_wp2_with fail
    (with_reducible refine Calls.mono (HAl.out _) ?_)
    rintro e wz ⟨rfl, hbz⟩
    have HBz := hid_ (HB1.out.trans (hbz.mono HB1.out.size))
    clear hbz
    go_wp2_with fail
    go_ret
    exact ⟨rfl, HBz.out⟩
  · obtain ⟨e1, e2, e3, e4, e5⟩ := rises_prep r b hr
    obtain ⟨f1, f2, f3, f4, f5, f6⟩ := rises_acc r b a2 hr
    have HPr := hid_ (fun (W : World) => prepare_any r b W)
    have HAc := hid_ (fun (W : World) => accept_any r b a2 W)
    have HOw := hid_ (fun (W : World) => own_any r W)
    have HRx := hid_ (fun (W : World) => right_any (prepD r b) W)
    have HRy := hid_ (fun (W : World) => right_any (accD r b a2) W)
    have HL1 := hid_ (fun (W : World) => rless_any (prepD r b).p r.p W)
    have HL2 := hid_ (fun (W : World) => rless_any (accD r b a2).p r.p W)
    have HL3 := hid_ (fun (W : World) => rless_any (accD r b a2).t r.t W)
    rw [e1] at HRx
    rw [f1] at HRy
    rw [e2] at HL1
    rw [f2] at HL2
    rw [f3] at HL3
    have HE3 := hid_ e3
    have HE4 := hid_ e4
    have HE5 := hid_ e5
    have HF4 := hid_ f4
    have HF5 := hid_ f5
    have HF6 := hid_ f6
    rw [hr] at HRr
    clear hr e1 e2 e3 e4 e5 f1 f2 f3 f4 f5 f6
    generalize prepD r b = x at *
    generalize (!lateB r b) = i at *
    generalize accD r b a2 = y at *
    generalize takesB r b a2 = j at *
    go_enter Try.func7, Try.ntmps7
    go_wp2_with fail
    (with_reducible refine Calls.mono (HRr.out _) ?_)
    rintro e w1 ⟨rfl, hb⟩
    have HB1 := hid_ (HB0.out.trans (hb.mono HB0.out.size))
    have HR1 := hid_ (HR0.out.below hb HR0.out.lt)
    have HX1 := hid_ (HX0.out.below hb HX0.out.lt)
    clear hb
    go_upto_region 3 with (fail)
    go_cut [7, 8] from 15 to 21 (fun v13 v14 wx => KeptR w1 54 x i v13 v14 wx)
    case first =>
      have S0 : RbIn w1 w.heap.size r (w.heap.size + 1) b w1 := ⟨Below.refl _ _, r5_of HR1.out, b2_of HX1.out⟩
      have HS0 := hid_ S0
      have HBr := hid_ (Below.refl w1.heap.size w1)
      go_region_held3 (RbIn w1 w.heap.size r (w.heap.size + 1) b) (first | (with_reducible assumption) | (with_reducible exact rbIn_of HS0.out hbv) | (with_reducible exact rbIn_of HS0.out hbw) | (with_reducible exact rbIn_of HS0.out (below_set5 hbv (Nat.le_refl _) _ _ _ _ _)) | (with_reducible exact rbIn_of HS0.out (below_set5 hbv hgm _ _ _ _ _)) | (with_reducible exact rbIn_of HS0.out (Below.alloc hbv (Below.size hbv) _)) | (with_reducible exact rbIn_of HS0.out (Below.alloc hbw (Below.size hbw) _)) | (with_reducible exact rbIn_of HS0.out (Below.drew (Below.refl _ _))) | (with_reducible exact rbIn_of HS0.out (Below.alloc (Below.drew (Below.refl _ _)) (Nat.le_refl _) _)) | (with_reducible exact rbIn_of HS0.out (Below.drew (Below.alloc (Below.refl _ _) (Nat.le_refl _) _))) | (with_reducible exact rbIn_of HS0.out (Below.alloc (Below.refl _ _) (Nat.le_refl _) _)) | fail)
        (first
          | (go_at_call 26; (with_reducible refine Calls.mono (HOw.out _) ?_); rintro e wo ⟨rfl, hbo⟩; (first | (with_reducible have hbw := chain0 HBr.out hbo) | (with_reducible have hbw := chainD HBr.out hbo) | (with_reducible have hbw := chainA HBr.out hbo; with_reducible have hz1 := whole_past hbo) | (with_reducible have hbw := chainAD HBr.out hbo; with_reducible have hz1 := whole_pastD hbo) | (with_reducible have hbw := chainDA HBr.out hbo; with_reducible have hz1 := whole_past hbo)))
          | (go_at_call 25; (with_reducible refine Calls.mono (HPr.out _) ?_); rintro e wp ⟨rfl, hbp⟩; (first | (with_reducible have hz2 := whole_gone hz1 hbp; with_reducible have hbv := chain0 hbw hbp; have n0 := hz2.cell 0 (.int .u64 0) rfl; have n1 := hz2.cell 1 (.int .u64 0) rfl; have n2 := hz2.cell 2 (.int .u64 0) rfl; have n3 := hz2.cell 3 (.int .u64 0) rfl; have n4 := hz2.cell 4 (.int .i64 0) rfl; have f0 := hz2.free 0; have f1 := hz2.free 1; have f2 := hz2.free 2; have f3 := hz2.free 3; have f4 := hz2.free 4) | (with_reducible have hbv := chain0 hbw hbp) | (with_reducible have hbv := chainA hbw hbp; with_reducible have hz2 := whole_past hbp; have hgm := hbw.size; have n0 := hz2.cell 0 (.int .u64 0) rfl; have n1 := hz2.cell 1 (.int .u64 0) rfl; have n2 := hz2.cell 2 (.int .u64 0) rfl; have n3 := hz2.cell 3 (.int .u64 0) rfl; have n4 := hz2.cell 4 (.int .i64 0) rfl; have f0 := hz2.free 0; have f1 := hz2.free 1; have f2 := hz2.free 2; have f3 := hz2.free 3; have f4 := hz2.free 4; generalize wo.heap.size = gm at *)))
          | fail)
      all_goals
        go_wp2_with fail
        go_meet
        first
          | (with_reducible exact keptR_mk rfl (Below.size hbv) (whole_new _ _ _) (Below.alloc hbv (Below.size hbv) _))
          | (with_reducible exact keptR_mk rfl hgm (whole_set5 hz2 _ _ _ _ _) (below_set5 hbv hgm _ _ _ _ _))
          | (with_reducible exact keptR_mk rfl (Nat.le_refl _) (whole_set5 hz2 _ _ _ _ _) (below_set5 hbv (Nat.le_refl _) _ _ _ _ _))
          | fail
    case rest =>
      obtain ⟨gx, rfl, rfl, hgx, hwx, hb⟩ := hcut
      obtain ⟨w2, rfl⟩ : ∃ w2 : World, w2 = wc := ⟨_, rfl⟩
      have HB2 := hid_ (HB1.out.trans (hb.mono HB1.out.size))
      have HP2 := hid_ hwx
      have HR2 := hid_ ((HR1.out.below hb HR1.out.lt))
      have HX2 := hid_ ((HX1.out.below hb HX1.out.lt))
      clear hwx hgx hb
      go_upto_region 4 with (fail)
      go_cut [9, 10] from 22 to 29 (fun v13 v14 wx => KeptR w2 54 y j v13 v14 wx)
      case first =>
        have S0 : RbIn w2 w.heap.size r (w.heap.size + 1) b w2 := ⟨Below.refl _ _, r5_of HR2.out, b2_of HX2.out⟩
        have HS0 := hid_ S0
        have HBr := hid_ (Below.refl w2.heap.size w2)
        go_region_held3 (RbIn w2 w.heap.size r (w.heap.size + 1) b) (first | (with_reducible assumption) | (with_reducible exact rbIn_of HS0.out hbv) | (with_reducible exact rbIn_of HS0.out hbw) | (with_reducible exact rbIn_of HS0.out (below_set5 hbv (Nat.le_refl _) _ _ _ _ _)) | (with_reducible exact rbIn_of HS0.out (below_set5 hbv hgm _ _ _ _ _)) | (with_reducible exact rbIn_of HS0.out (Below.alloc hbv (Below.size hbv) _)) | (with_reducible exact rbIn_of HS0.out (Below.alloc hbw (Below.size hbw) _)) | (with_reducible exact rbIn_of HS0.out (Below.drew (Below.refl _ _))) | (with_reducible exact rbIn_of HS0.out (Below.alloc (Below.drew (Below.refl _ _)) (Nat.le_refl _) _)) | (with_reducible exact rbIn_of HS0.out (Below.drew (Below.alloc (Below.refl _ _) (Nat.le_refl _) _))) | (with_reducible exact rbIn_of HS0.out (Below.alloc (Below.refl _ _) (Nat.le_refl _) _)) | fail)
          (first
            | (go_at_call 26; (with_reducible refine Calls.mono (HOw.out _) ?_); rintro e wo ⟨rfl, hbo⟩; (first | (with_reducible have hbw := chain0 HBr.out hbo) | (with_reducible have hbw := chainD HBr.out hbo) | (with_reducible have hbw := chainA HBr.out hbo; with_reducible have hz1 := whole_past hbo) | (with_reducible have hbw := chainAD HBr.out hbo; with_reducible have hz1 := whole_pastD hbo) | (with_reducible have hbw := chainDA HBr.out hbo; with_reducible have hz1 := whole_past hbo)))
            | (go_at_call 28; (with_reducible refine Calls.mono (HAc.out _) ?_); rintro e wp ⟨rfl, hbp⟩; (first | (with_reducible have hz2 := whole_gone hz1 hbp; with_reducible have hbv := chain0 hbw hbp; have n0 := hz2.cell 0 (.int .u64 0) rfl; have n1 := hz2.cell 1 (.int .u64 0) rfl; have n2 := hz2.cell 2 (.int .u64 0) rfl; have n3 := hz2.cell 3 (.int .u64 0) rfl; have n4 := hz2.cell 4 (.int .i64 0) rfl; have f0 := hz2.free 0; have f1 := hz2.free 1; have f2 := hz2.free 2; have f3 := hz2.free 3; have f4 := hz2.free 4) | (with_reducible have hbv := chain0 hbw hbp) | (with_reducible have hbv := chainA hbw hbp; with_reducible have hz2 := whole_past hbp; have hgm := hbw.size; have n0 := hz2.cell 0 (.int .u64 0) rfl; have n1 := hz2.cell 1 (.int .u64 0) rfl; have n2 := hz2.cell 2 (.int .u64 0) rfl; have n3 := hz2.cell 3 (.int .u64 0) rfl; have n4 := hz2.cell 4 (.int .i64 0) rfl; have f0 := hz2.free 0; have f1 := hz2.free 1; have f2 := hz2.free 2; have f3 := hz2.free 3; have f4 := hz2.free 4; generalize wo.heap.size = gm at *)))
            | fail)
        all_goals
          go_wp2_with fail
          go_meet
          first
            | (with_reducible exact keptR_mk rfl (Below.size hbv) (whole_new _ _ _) (Below.alloc hbv (Below.size hbv) _))
            | (with_reducible exact keptR_mk rfl hgm (whole_set5 hz2 _ _ _ _ _) (below_set5 hbv hgm _ _ _ _ _))
            | (with_reducible exact keptR_mk rfl (Nat.le_refl _) (whole_set5 hz2 _ _ _ _ _) (below_set5 hbv (Nat.le_refl _) _ _ _ _ _))
            | fail
      case rest =>
        obtain ⟨gy, rfl, rfl, hgy, hwx, hb⟩ := hcut
        obtain ⟨w3, rfl⟩ : ∃ w3 : World, w3 = wc := ⟨_, rfl⟩
        have HB3 := hid_ (HB2.out.trans (hb.mono HB2.out.size))
        have HQ3 := hid_ hwx
        have HR3 := hid_ ((HR2.out.below hb HR2.out.lt))
        have HX3 := hid_ ((HX2.out.below hb HX2.out.lt))
        have HP3 := hid_ ((HP2.out.below hb HP2.out.lt))
        clear hwx hgy hb
        have y0 := (HR3.out.cell 0 (.int .u64 (r.p.pos : Nat)) rfl)
        have y1 := (HR3.out.cell 1 (.int .u64 (r.p.id : Nat)) rfl)
        have y2 := (HR3.out.cell 2 (.int .u64 (r.t.pos : Nat)) rfl)
        have y3 := (HR3.out.cell 3 (.int .u64 (r.t.id : Nat)) rfl)
        have y4 := (HR3.out.cell 4 (.int .i64 r.v) rfl)
        have u0 := (HP3.out.cell 0 (.int .u64 (x.p.pos : Nat)) rfl)
        have u1 := (HP3.out.cell 1 (.int .u64 (x.p.id : Nat)) rfl)
        have u2 := (HP3.out.cell 2 (.int .u64 (x.t.pos : Nat)) rfl)
        have u3 := (HP3.out.cell 3 (.int .u64 (x.t.id : Nat)) rfl)
        have u4 := (HP3.out.cell 4 (.int .i64 x.v) rfl)
        have v0 := (HQ3.out.cell 0 (.int .u64 (y.p.pos : Nat)) rfl)
        have v1 := (HQ3.out.cell 1 (.int .u64 (y.p.id : Nat)) rfl)
        have v2 := (HQ3.out.cell 2 (.int .u64 (y.t.pos : Nat)) rfl)
        have v3 := (HQ3.out.cell 3 (.int .u64 (y.t.id : Nat)) rfl)
        have v4 := (HQ3.out.cell 4 (.int .i64 y.v) rfl)
        have z0 := (HX3.out.cell 0 (.int .u64 (b.pos : Nat)) rfl)
        have z1 := (HX3.out.cell 1 (.int .u64 (b.id : Nat)) rfl)
        go_wp2_with fail
        (with_reducible refine Calls.mono (HRx.out _) ?_)
        rintro e w4 ⟨rfl, hb⟩
        have HB4 := hid_ (HB3.out.trans (hb.mono HB3.out.size))
        have HR4 := hid_ ((HR3.out.below hb HR3.out.lt))
        have HX4 := hid_ ((HX3.out.below hb HX3.out.lt))
        have HP4 := hid_ ((HP3.out.below hb HP3.out.lt))
        have HQ4 := hid_ ((HQ3.out.below hb HQ3.out.lt))
        clear hb
        clear y0 y1 y2 y3 y4 u0 u1 u2 u3 u4 v0 v1 v2 v3 v4 z0 z1
        have y0 := (HR4.out.cell 0 (.int .u64 (r.p.pos : Nat)) rfl)
        have y1 := (HR4.out.cell 1 (.int .u64 (r.p.id : Nat)) rfl)
        have y2 := (HR4.out.cell 2 (.int .u64 (r.t.pos : Nat)) rfl)
        have y3 := (HR4.out.cell 3 (.int .u64 (r.t.id : Nat)) rfl)
        have y4 := (HR4.out.cell 4 (.int .i64 r.v) rfl)
        have u0 := (HP4.out.cell 0 (.int .u64 (x.p.pos : Nat)) rfl)
        have u1 := (HP4.out.cell 1 (.int .u64 (x.p.id : Nat)) rfl)
        have u2 := (HP4.out.cell 2 (.int .u64 (x.t.pos : Nat)) rfl)
        have u3 := (HP4.out.cell 3 (.int .u64 (x.t.id : Nat)) rfl)
        have u4 := (HP4.out.cell 4 (.int .i64 x.v) rfl)
        have v0 := (HQ4.out.cell 0 (.int .u64 (y.p.pos : Nat)) rfl)
        have v1 := (HQ4.out.cell 1 (.int .u64 (y.p.id : Nat)) rfl)
        have v2 := (HQ4.out.cell 2 (.int .u64 (y.t.pos : Nat)) rfl)
        have v3 := (HQ4.out.cell 3 (.int .u64 (y.t.id : Nat)) rfl)
        have v4 := (HQ4.out.cell 4 (.int .i64 y.v) rfl)
        have z0 := (HX4.out.cell 0 (.int .u64 (b.pos : Nat)) rfl)
        have z1 := (HX4.out.cell 1 (.int .u64 (b.id : Nat)) rfl)
        go_wp2_with fail
        (with_reducible refine Calls.mono (HRy.out _) ?_)
        rintro e w5 ⟨rfl, hb⟩
        have HB5 := hid_ (HB4.out.trans (hb.mono HB4.out.size))
        have HR5 := hid_ ((HR4.out.below hb HR4.out.lt))
        have HX5 := hid_ ((HX4.out.below hb HX4.out.lt))
        have HP5 := hid_ ((HP4.out.below hb HP4.out.lt))
        have HQ5 := hid_ ((HQ4.out.below hb HQ4.out.lt))
        clear hb
        clear y0 y1 y2 y3 y4 u0 u1 u2 u3 u4 v0 v1 v2 v3 v4 z0 z1
        have y0 := (HR5.out.cell 0 (.int .u64 (r.p.pos : Nat)) rfl)
        have y1 := (HR5.out.cell 1 (.int .u64 (r.p.id : Nat)) rfl)
        have y2 := (HR5.out.cell 2 (.int .u64 (r.t.pos : Nat)) rfl)
        have y3 := (HR5.out.cell 3 (.int .u64 (r.t.id : Nat)) rfl)
        have y4 := (HR5.out.cell 4 (.int .i64 r.v) rfl)
        have u0 := (HP5.out.cell 0 (.int .u64 (x.p.pos : Nat)) rfl)
        have u1 := (HP5.out.cell 1 (.int .u64 (x.p.id : Nat)) rfl)
        have u2 := (HP5.out.cell 2 (.int .u64 (x.t.pos : Nat)) rfl)
        have u3 := (HP5.out.cell 3 (.int .u64 (x.t.id : Nat)) rfl)
        have u4 := (HP5.out.cell 4 (.int .i64 x.v) rfl)
        have v0 := (HQ5.out.cell 0 (.int .u64 (y.p.pos : Nat)) rfl)
        have v1 := (HQ5.out.cell 1 (.int .u64 (y.p.id : Nat)) rfl)
        have v2 := (HQ5.out.cell 2 (.int .u64 (y.t.pos : Nat)) rfl)
        have v3 := (HQ5.out.cell 3 (.int .u64 (y.t.id : Nat)) rfl)
        have v4 := (HQ5.out.cell 4 (.int .i64 y.v) rfl)
        have z0 := (HX5.out.cell 0 (.int .u64 (b.pos : Nat)) rfl)
        have z1 := (HX5.out.cell 1 (.int .u64 (b.id : Nat)) rfl)
        go_wp2_with fail
        (with_reducible refine Calls.mono (HL1.out _) ?_)
        rintro e w6 ⟨rfl, hb⟩
        have HB6 := hid_ (HB5.out.trans (hb.mono HB5.out.size))
        have HR6 := hid_ ((HR5.out.below hb HR5.out.lt))
        have HX6 := hid_ ((HX5.out.below hb HX5.out.lt))
        have HP6 := hid_ ((HP5.out.below hb HP5.out.lt))
        have HQ6 := hid_ ((HQ5.out.below hb HQ5.out.lt))
        clear hb
        clear y0 y1 y2 y3 y4 u0 u1 u2 u3 u4 v0 v1 v2 v3 v4 z0 z1
        have y0 := (HR6.out.cell 0 (.int .u64 (r.p.pos : Nat)) rfl)
        have y1 := (HR6.out.cell 1 (.int .u64 (r.p.id : Nat)) rfl)
        have y2 := (HR6.out.cell 2 (.int .u64 (r.t.pos : Nat)) rfl)
        have y3 := (HR6.out.cell 3 (.int .u64 (r.t.id : Nat)) rfl)
        have y4 := (HR6.out.cell 4 (.int .i64 r.v) rfl)
        have u0 := (HP6.out.cell 0 (.int .u64 (x.p.pos : Nat)) rfl)
        have u1 := (HP6.out.cell 1 (.int .u64 (x.p.id : Nat)) rfl)
        have u2 := (HP6.out.cell 2 (.int .u64 (x.t.pos : Nat)) rfl)
        have u3 := (HP6.out.cell 3 (.int .u64 (x.t.id : Nat)) rfl)
        have u4 := (HP6.out.cell 4 (.int .i64 x.v) rfl)
        have v0 := (HQ6.out.cell 0 (.int .u64 (y.p.pos : Nat)) rfl)
        have v1 := (HQ6.out.cell 1 (.int .u64 (y.p.id : Nat)) rfl)
        have v2 := (HQ6.out.cell 2 (.int .u64 (y.t.pos : Nat)) rfl)
        have v3 := (HQ6.out.cell 3 (.int .u64 (y.t.id : Nat)) rfl)
        have v4 := (HQ6.out.cell 4 (.int .i64 y.v) rfl)
        have z0 := (HX6.out.cell 0 (.int .u64 (b.pos : Nat)) rfl)
        have z1 := (HX6.out.cell 1 (.int .u64 (b.id : Nat)) rfl)
        go_wp2_with fail
        (with_reducible refine Calls.mono (HL2.out _) ?_)
        rintro e w7 ⟨rfl, hb⟩
        have HB7 := hid_ (HB6.out.trans (hb.mono HB6.out.size))
        have HR7 := hid_ ((HR6.out.below hb HR6.out.lt))
        have HX7 := hid_ ((HX6.out.below hb HX6.out.lt))
        have HP7 := hid_ ((HP6.out.below hb HP6.out.lt))
        have HQ7 := hid_ ((HQ6.out.below hb HQ6.out.lt))
        clear hb
        clear y0 y1 y2 y3 y4 u0 u1 u2 u3 u4 v0 v1 v2 v3 v4 z0 z1
        have y0 := (HR7.out.cell 0 (.int .u64 (r.p.pos : Nat)) rfl)
        have y1 := (HR7.out.cell 1 (.int .u64 (r.p.id : Nat)) rfl)
        have y2 := (HR7.out.cell 2 (.int .u64 (r.t.pos : Nat)) rfl)
        have y3 := (HR7.out.cell 3 (.int .u64 (r.t.id : Nat)) rfl)
        have y4 := (HR7.out.cell 4 (.int .i64 r.v) rfl)
        have u0 := (HP7.out.cell 0 (.int .u64 (x.p.pos : Nat)) rfl)
        have u1 := (HP7.out.cell 1 (.int .u64 (x.p.id : Nat)) rfl)
        have u2 := (HP7.out.cell 2 (.int .u64 (x.t.pos : Nat)) rfl)
        have u3 := (HP7.out.cell 3 (.int .u64 (x.t.id : Nat)) rfl)
        have u4 := (HP7.out.cell 4 (.int .i64 x.v) rfl)
        have v0 := (HQ7.out.cell 0 (.int .u64 (y.p.pos : Nat)) rfl)
        have v1 := (HQ7.out.cell 1 (.int .u64 (y.p.id : Nat)) rfl)
        have v2 := (HQ7.out.cell 2 (.int .u64 (y.t.pos : Nat)) rfl)
        have v3 := (HQ7.out.cell 3 (.int .u64 (y.t.id : Nat)) rfl)
        have v4 := (HQ7.out.cell 4 (.int .i64 y.v) rfl)
        have z0 := (HX7.out.cell 0 (.int .u64 (b.pos : Nat)) rfl)
        have z1 := (HX7.out.cell 1 (.int .u64 (b.id : Nat)) rfl)
        go_wp2_with fail
        (with_reducible refine Calls.mono (HL3.out _) ?_)
        rintro e w8 ⟨rfl, hb⟩
        have HB8 := hid_ (HB7.out.trans (hb.mono HB7.out.size))
        have HR8 := hid_ ((HR7.out.below hb HR7.out.lt))
        have HX8 := hid_ ((HX7.out.below hb HX7.out.lt))
        have HP8 := hid_ ((HP7.out.below hb HP7.out.lt))
        have HQ8 := hid_ ((HQ7.out.below hb HQ7.out.lt))
        clear hb
        clear y0 y1 y2 y3 y4 u0 u1 u2 u3 u4 v0 v1 v2 v3 v4 z0 z1
        have y0 := (HR8.out.cell 0 (.int .u64 (r.p.pos : Nat)) rfl)
        have y1 := (HR8.out.cell 1 (.int .u64 (r.p.id : Nat)) rfl)
        have y2 := (HR8.out.cell 2 (.int .u64 (r.t.pos : Nat)) rfl)
        have y3 := (HR8.out.cell 3 (.int .u64 (r.t.id : Nat)) rfl)
        have y4 := (HR8.out.cell 4 (.int .i64 r.v) rfl)
        have u0 := (HP8.out.cell 0 (.int .u64 (x.p.pos : Nat)) rfl)
        have u1 := (HP8.out.cell 1 (.int .u64 (x.p.id : Nat)) rfl)
        have u2 := (HP8.out.cell 2 (.int .u64 (x.t.pos : Nat)) rfl)
        have u3 := (HP8.out.cell 3 (.int .u64 (x.t.id : Nat)) rfl)
        have u4 := (HP8.out.cell 4 (.int .i64 x.v) rfl)
        have v0 := (HQ8.out.cell 0 (.int .u64 (y.p.pos : Nat)) rfl)
        have v1 := (HQ8.out.cell 1 (.int .u64 (y.p.id : Nat)) rfl)
        have v2 := (HQ8.out.cell 2 (.int .u64 (y.t.pos : Nat)) rfl)
        have v3 := (HQ8.out.cell 3 (.int .u64 (y.t.id : Nat)) rfl)
        have v4 := (HQ8.out.cell 4 (.int .i64 y.v) rfl)
        have z0 := (HX8.out.cell 0 (.int .u64 (b.pos : Nat)) rfl)
        have z1 := (HX8.out.cell 1 (.int .u64 (b.id : Nat)) rfl)
        have kn1 : ∀ w, (binOp .neq 50 (.agg #[.int .u64 (x.t.pos : Nat), .int .u64 (x.t.id : Nat)]) (.agg #[.int .u64 (r.t.pos : Nat), .int .u64 (r.t.id : Nat)])).run Try.prog w = .ok (.bool false) w := fun w => by have h := bal_neq x.t r.t w; rw [HE3.out, same_self] at h; rw [HE3.out]; exact h
        have kv1 : (x.v != r.v) = false := by rw [HE4.out]; simp
        have kn2 : ∀ w, (binOp .eql 50 (.agg #[.int .u64 (y.t.pos : Nat), .int .u64 (y.t.id : Nat)]) (.agg #[.int .u64 (r.t.pos : Nat), .int .u64 (r.t.id : Nat)])).run Try.prog w = .ok (.bool (sameB y.t r.t)) w := fun w => bal_eql y.t r.t w
        cases hs : sameB y.t r.t
        · rw [hs] at kn2
          clear hs
          cases i
          · skip
            have ki : ∀ w, (binOp .eql 54 (.agg (regCells x)) (.agg (regCells r))).run Try.prog w = .ok (.bool true) w := fun w => by have h := reg_eql x r w; rw [HE5.out rfl, sameR_self] at h; rw [HE5.out rfl]; exact h
            cases j
            · skip
              have kj : ∀ w, (binOp .eql 54 (.agg (regCells y)) (.agg (regCells r))).run Try.prog w = .ok (.bool true) w := fun w => by have h := reg_eql y r w; rw [HF5.out rfl, sameR_self] at h; rw [HF5.out rfl]; exact h
              go_upto_region 9 with (fail)
              clear y0 y1 y2 y3 y4 u0 u1 u2 u3 u4 v0 v1 v2 v3 v4 z0 z1
              have y0 := cell_regrown (HR8.out.cell 0 (.int .u64 (r.p.pos : Nat)) rfl)
              have y1 := cell_regrown (HR8.out.cell 1 (.int .u64 (r.p.id : Nat)) rfl)
              have y2 := cell_regrown (HR8.out.cell 2 (.int .u64 (r.t.pos : Nat)) rfl)
              have y3 := cell_regrown (HR8.out.cell 3 (.int .u64 (r.t.id : Nat)) rfl)
              have y4 := cell_regrown (HR8.out.cell 4 (.int .i64 r.v) rfl)
              have u0 := cell_regrown (HP8.out.cell 0 (.int .u64 (x.p.pos : Nat)) rfl)
              have u1 := cell_regrown (HP8.out.cell 1 (.int .u64 (x.p.id : Nat)) rfl)
              have u2 := cell_regrown (HP8.out.cell 2 (.int .u64 (x.t.pos : Nat)) rfl)
              have u3 := cell_regrown (HP8.out.cell 3 (.int .u64 (x.t.id : Nat)) rfl)
              have u4 := cell_regrown (HP8.out.cell 4 (.int .i64 x.v) rfl)
              have v0 := cell_regrown (HQ8.out.cell 0 (.int .u64 (y.p.pos : Nat)) rfl)
              have v1 := cell_regrown (HQ8.out.cell 1 (.int .u64 (y.p.id : Nat)) rfl)
              have v2 := cell_regrown (HQ8.out.cell 2 (.int .u64 (y.t.pos : Nat)) rfl)
              have v3 := cell_regrown (HQ8.out.cell 3 (.int .u64 (y.t.id : Nat)) rfl)
              have v4 := cell_regrown (HQ8.out.cell 4 (.int .i64 y.v) rfl)
              have z0 := cell_regrown (HX8.out.cell 0 (.int .u64 (b.pos : Nat)) rfl)
              have z1 := cell_regrown (HX8.out.cell 1 (.int .u64 (b.id : Nat)) rfl)
              have cO : ∀ p : Regrown, Calls Try.prog 26 #[regVal r] (grow (redrawn w8 p.d) p.os) fun e w'' => e = .returned (regVal r) ∧ ∃ p : Regrown, w'' = grow (redrawn w8 p.d) p.os := fun p => Calls.regrown_of (HOw.out _)
              have cA : ∀ p : Regrown, Calls Try.prog 36 #[] (grow (redrawn w8 p.d) p.os) fun e w'' => e = .returned (.bool true) ∧ ∃ p : Regrown, w'' = grow (redrawn w8 p.d) p.os := fun p => Calls.regrown_of (HAl.out _)
              refine wp_region_quiet_below (by first | assumption | kernel_rfl) (by kernel_rfl) ?_
              iterate 36 (with_reducible refine wpQuiet_step (fun K hK => ?_); go_simp; first | (with_reducible refine hK _ ?_; clear hK K) | (simp only [undef, reduceCtorEq, if_false]; with_reducible refine hK _ ?_; clear hK K) | (simp only [undef]; go_simp; with_reducible refine hK _ ?_; clear hK K) | (apply Exists.intro; refine ⟨fun _ => ?_, hK _ ?_⟩; (first | (with_reducible exact cO _) | (with_reducible exact cA _)); clear hK K))
              refine wpQuiet_nil ?_
              intro _ hw'
              obtain ⟨⟨dq, osq⟩, hw''⟩ := hw'
              subst hw''
              have HRg := hid_ (HB8.out.trans ((below_regrown w8 dq osq).mono HB8.out.size))
              go_wp2_with fail
              go_ret
              exact ⟨rfl, HRg.out⟩
            · skip
              have kb : ∀ w, (binOp .eql 50 (.agg #[.int .u64 (y.t.pos : Nat), .int .u64 (y.t.id : Nat)]) (.agg #[.int .u64 (b.pos : Nat), .int .u64 (b.id : Nat)])).run Try.prog w = .ok (.bool true) w := fun w => by have h := bal_eql y.t b w; rw [(HF6.out rfl).1, same_self] at h; rw [(HF6.out rfl).1]; exact h
              have kv : (y.v == a2) = true := by rw [(HF6.out rfl).2]; simp
              go_upto_region 9 with (fail)
              clear y0 y1 y2 y3 y4 u0 u1 u2 u3 u4 v0 v1 v2 v3 v4 z0 z1
              have y0 := cell_regrown (HR8.out.cell 0 (.int .u64 (r.p.pos : Nat)) rfl)
              have y1 := cell_regrown (HR8.out.cell 1 (.int .u64 (r.p.id : Nat)) rfl)
              have y2 := cell_regrown (HR8.out.cell 2 (.int .u64 (r.t.pos : Nat)) rfl)
              have y3 := cell_regrown (HR8.out.cell 3 (.int .u64 (r.t.id : Nat)) rfl)
              have y4 := cell_regrown (HR8.out.cell 4 (.int .i64 r.v) rfl)
              have u0 := cell_regrown (HP8.out.cell 0 (.int .u64 (x.p.pos : Nat)) rfl)
              have u1 := cell_regrown (HP8.out.cell 1 (.int .u64 (x.p.id : Nat)) rfl)
              have u2 := cell_regrown (HP8.out.cell 2 (.int .u64 (x.t.pos : Nat)) rfl)
              have u3 := cell_regrown (HP8.out.cell 3 (.int .u64 (x.t.id : Nat)) rfl)
              have u4 := cell_regrown (HP8.out.cell 4 (.int .i64 x.v) rfl)
              have v0 := cell_regrown (HQ8.out.cell 0 (.int .u64 (y.p.pos : Nat)) rfl)
              have v1 := cell_regrown (HQ8.out.cell 1 (.int .u64 (y.p.id : Nat)) rfl)
              have v2 := cell_regrown (HQ8.out.cell 2 (.int .u64 (y.t.pos : Nat)) rfl)
              have v3 := cell_regrown (HQ8.out.cell 3 (.int .u64 (y.t.id : Nat)) rfl)
              have v4 := cell_regrown (HQ8.out.cell 4 (.int .i64 y.v) rfl)
              have z0 := cell_regrown (HX8.out.cell 0 (.int .u64 (b.pos : Nat)) rfl)
              have z1 := cell_regrown (HX8.out.cell 1 (.int .u64 (b.id : Nat)) rfl)
              have cO : ∀ p : Regrown, Calls Try.prog 26 #[regVal r] (grow (redrawn w8 p.d) p.os) fun e w'' => e = .returned (regVal r) ∧ ∃ p : Regrown, w'' = grow (redrawn w8 p.d) p.os := fun p => Calls.regrown_of (HOw.out _)
              have cA : ∀ p : Regrown, Calls Try.prog 36 #[] (grow (redrawn w8 p.d) p.os) fun e w'' => e = .returned (.bool true) ∧ ∃ p : Regrown, w'' = grow (redrawn w8 p.d) p.os := fun p => Calls.regrown_of (HAl.out _)
              refine wp_region_quiet_below (by first | assumption | kernel_rfl) (by kernel_rfl) ?_
              iterate 36 (with_reducible refine wpQuiet_step (fun K hK => ?_); go_simp; first | (with_reducible refine hK _ ?_; clear hK K) | (simp only [undef, reduceCtorEq, if_false]; with_reducible refine hK _ ?_; clear hK K) | (simp only [undef]; go_simp; with_reducible refine hK _ ?_; clear hK K) | (apply Exists.intro; refine ⟨fun _ => ?_, hK _ ?_⟩; (first | (with_reducible exact cO _) | (with_reducible exact cA _)); clear hK K))
              refine wpQuiet_nil ?_
              intro _ hw'
              obtain ⟨⟨dq, osq⟩, hw''⟩ := hw'
              subst hw''
              have HRg := hid_ (HB8.out.trans ((below_regrown w8 dq osq).mono HB8.out.size))
              go_wp2_with fail
              go_ret
              exact ⟨rfl, HRg.out⟩
          · cases j
            · skip
              have kj : ∀ w, (binOp .eql 54 (.agg (regCells y)) (.agg (regCells r))).run Try.prog w = .ok (.bool true) w := fun w => by have h := reg_eql y r w; rw [HF5.out rfl, sameR_self] at h; rw [HF5.out rfl]; exact h
              go_upto_region 9 with (fail)
              clear y0 y1 y2 y3 y4 u0 u1 u2 u3 u4 v0 v1 v2 v3 v4 z0 z1
              have y0 := cell_regrown (HR8.out.cell 0 (.int .u64 (r.p.pos : Nat)) rfl)
              have y1 := cell_regrown (HR8.out.cell 1 (.int .u64 (r.p.id : Nat)) rfl)
              have y2 := cell_regrown (HR8.out.cell 2 (.int .u64 (r.t.pos : Nat)) rfl)
              have y3 := cell_regrown (HR8.out.cell 3 (.int .u64 (r.t.id : Nat)) rfl)
              have y4 := cell_regrown (HR8.out.cell 4 (.int .i64 r.v) rfl)
              have u0 := cell_regrown (HP8.out.cell 0 (.int .u64 (x.p.pos : Nat)) rfl)
              have u1 := cell_regrown (HP8.out.cell 1 (.int .u64 (x.p.id : Nat)) rfl)
              have u2 := cell_regrown (HP8.out.cell 2 (.int .u64 (x.t.pos : Nat)) rfl)
              have u3 := cell_regrown (HP8.out.cell 3 (.int .u64 (x.t.id : Nat)) rfl)
              have u4 := cell_regrown (HP8.out.cell 4 (.int .i64 x.v) rfl)
              have v0 := cell_regrown (HQ8.out.cell 0 (.int .u64 (y.p.pos : Nat)) rfl)
              have v1 := cell_regrown (HQ8.out.cell 1 (.int .u64 (y.p.id : Nat)) rfl)
              have v2 := cell_regrown (HQ8.out.cell 2 (.int .u64 (y.t.pos : Nat)) rfl)
              have v3 := cell_regrown (HQ8.out.cell 3 (.int .u64 (y.t.id : Nat)) rfl)
              have v4 := cell_regrown (HQ8.out.cell 4 (.int .i64 y.v) rfl)
              have z0 := cell_regrown (HX8.out.cell 0 (.int .u64 (b.pos : Nat)) rfl)
              have z1 := cell_regrown (HX8.out.cell 1 (.int .u64 (b.id : Nat)) rfl)
              have cO : ∀ p : Regrown, Calls Try.prog 26 #[regVal r] (grow (redrawn w8 p.d) p.os) fun e w'' => e = .returned (regVal r) ∧ ∃ p : Regrown, w'' = grow (redrawn w8 p.d) p.os := fun p => Calls.regrown_of (HOw.out _)
              have cA : ∀ p : Regrown, Calls Try.prog 36 #[] (grow (redrawn w8 p.d) p.os) fun e w'' => e = .returned (.bool true) ∧ ∃ p : Regrown, w'' = grow (redrawn w8 p.d) p.os := fun p => Calls.regrown_of (HAl.out _)
              refine wp_region_quiet_below (by first | assumption | kernel_rfl) (by kernel_rfl) ?_
              iterate 36 (with_reducible refine wpQuiet_step (fun K hK => ?_); go_simp; first | (with_reducible refine hK _ ?_; clear hK K) | (simp only [undef, reduceCtorEq, if_false]; with_reducible refine hK _ ?_; clear hK K) | (simp only [undef]; go_simp; with_reducible refine hK _ ?_; clear hK K) | (apply Exists.intro; refine ⟨fun _ => ?_, hK _ ?_⟩; (first | (with_reducible exact cO _) | (with_reducible exact cA _)); clear hK K))
              refine wpQuiet_nil ?_
              intro _ hw'
              obtain ⟨⟨dq, osq⟩, hw''⟩ := hw'
              subst hw''
              have HRg := hid_ (HB8.out.trans ((below_regrown w8 dq osq).mono HB8.out.size))
              go_wp2_with fail
              go_ret
              exact ⟨rfl, HRg.out⟩
            · skip
              have kb : ∀ w, (binOp .eql 50 (.agg #[.int .u64 (y.t.pos : Nat), .int .u64 (y.t.id : Nat)]) (.agg #[.int .u64 (b.pos : Nat), .int .u64 (b.id : Nat)])).run Try.prog w = .ok (.bool true) w := fun w => by have h := bal_eql y.t b w; rw [(HF6.out rfl).1, same_self] at h; rw [(HF6.out rfl).1]; exact h
              have kv : (y.v == a2) = true := by rw [(HF6.out rfl).2]; simp
              go_upto_region 9 with (fail)
              clear y0 y1 y2 y3 y4 u0 u1 u2 u3 u4 v0 v1 v2 v3 v4 z0 z1
              have y0 := cell_regrown (HR8.out.cell 0 (.int .u64 (r.p.pos : Nat)) rfl)
              have y1 := cell_regrown (HR8.out.cell 1 (.int .u64 (r.p.id : Nat)) rfl)
              have y2 := cell_regrown (HR8.out.cell 2 (.int .u64 (r.t.pos : Nat)) rfl)
              have y3 := cell_regrown (HR8.out.cell 3 (.int .u64 (r.t.id : Nat)) rfl)
              have y4 := cell_regrown (HR8.out.cell 4 (.int .i64 r.v) rfl)
              have u0 := cell_regrown (HP8.out.cell 0 (.int .u64 (x.p.pos : Nat)) rfl)
              have u1 := cell_regrown (HP8.out.cell 1 (.int .u64 (x.p.id : Nat)) rfl)
              have u2 := cell_regrown (HP8.out.cell 2 (.int .u64 (x.t.pos : Nat)) rfl)
              have u3 := cell_regrown (HP8.out.cell 3 (.int .u64 (x.t.id : Nat)) rfl)
              have u4 := cell_regrown (HP8.out.cell 4 (.int .i64 x.v) rfl)
              have v0 := cell_regrown (HQ8.out.cell 0 (.int .u64 (y.p.pos : Nat)) rfl)
              have v1 := cell_regrown (HQ8.out.cell 1 (.int .u64 (y.p.id : Nat)) rfl)
              have v2 := cell_regrown (HQ8.out.cell 2 (.int .u64 (y.t.pos : Nat)) rfl)
              have v3 := cell_regrown (HQ8.out.cell 3 (.int .u64 (y.t.id : Nat)) rfl)
              have v4 := cell_regrown (HQ8.out.cell 4 (.int .i64 y.v) rfl)
              have z0 := cell_regrown (HX8.out.cell 0 (.int .u64 (b.pos : Nat)) rfl)
              have z1 := cell_regrown (HX8.out.cell 1 (.int .u64 (b.id : Nat)) rfl)
              have cO : ∀ p : Regrown, Calls Try.prog 26 #[regVal r] (grow (redrawn w8 p.d) p.os) fun e w'' => e = .returned (regVal r) ∧ ∃ p : Regrown, w'' = grow (redrawn w8 p.d) p.os := fun p => Calls.regrown_of (HOw.out _)
              have cA : ∀ p : Regrown, Calls Try.prog 36 #[] (grow (redrawn w8 p.d) p.os) fun e w'' => e = .returned (.bool true) ∧ ∃ p : Regrown, w'' = grow (redrawn w8 p.d) p.os := fun p => Calls.regrown_of (HAl.out _)
              refine wp_region_quiet_below (by first | assumption | kernel_rfl) (by kernel_rfl) ?_
              iterate 36 (with_reducible refine wpQuiet_step (fun K hK => ?_); go_simp; first | (with_reducible refine hK _ ?_; clear hK K) | (simp only [undef, reduceCtorEq, if_false]; with_reducible refine hK _ ?_; clear hK K) | (simp only [undef]; go_simp; with_reducible refine hK _ ?_; clear hK K) | (apply Exists.intro; refine ⟨fun _ => ?_, hK _ ?_⟩; (first | (with_reducible exact cO _) | (with_reducible exact cA _)); clear hK K))
              refine wpQuiet_nil ?_
              intro _ hw'
              obtain ⟨⟨dq, osq⟩, hw''⟩ := hw'
              subst hw''
              have HRg := hid_ (HB8.out.trans ((below_regrown w8 dq osq).mono HB8.out.size))
              go_wp2_with fail
              go_ret
              exact ⟨rfl, HRg.out⟩
        · rw [hs] at kn2
          have kv2 : (y.v != r.v) = false := by rw [HF4.out hs]; simp
          clear hs
          cases i
          · skip
            have ki : ∀ w, (binOp .eql 54 (.agg (regCells x)) (.agg (regCells r))).run Try.prog w = .ok (.bool true) w := fun w => by have h := reg_eql x r w; rw [HE5.out rfl, sameR_self] at h; rw [HE5.out rfl]; exact h
            cases j
            · skip
              have kj : ∀ w, (binOp .eql 54 (.agg (regCells y)) (.agg (regCells r))).run Try.prog w = .ok (.bool true) w := fun w => by have h := reg_eql y r w; rw [HF5.out rfl, sameR_self] at h; rw [HF5.out rfl]; exact h
              go_upto_region 9 with (fail)
              clear y0 y1 y2 y3 y4 u0 u1 u2 u3 u4 v0 v1 v2 v3 v4 z0 z1
              have y0 := cell_regrown (HR8.out.cell 0 (.int .u64 (r.p.pos : Nat)) rfl)
              have y1 := cell_regrown (HR8.out.cell 1 (.int .u64 (r.p.id : Nat)) rfl)
              have y2 := cell_regrown (HR8.out.cell 2 (.int .u64 (r.t.pos : Nat)) rfl)
              have y3 := cell_regrown (HR8.out.cell 3 (.int .u64 (r.t.id : Nat)) rfl)
              have y4 := cell_regrown (HR8.out.cell 4 (.int .i64 r.v) rfl)
              have u0 := cell_regrown (HP8.out.cell 0 (.int .u64 (x.p.pos : Nat)) rfl)
              have u1 := cell_regrown (HP8.out.cell 1 (.int .u64 (x.p.id : Nat)) rfl)
              have u2 := cell_regrown (HP8.out.cell 2 (.int .u64 (x.t.pos : Nat)) rfl)
              have u3 := cell_regrown (HP8.out.cell 3 (.int .u64 (x.t.id : Nat)) rfl)
              have u4 := cell_regrown (HP8.out.cell 4 (.int .i64 x.v) rfl)
              have v0 := cell_regrown (HQ8.out.cell 0 (.int .u64 (y.p.pos : Nat)) rfl)
              have v1 := cell_regrown (HQ8.out.cell 1 (.int .u64 (y.p.id : Nat)) rfl)
              have v2 := cell_regrown (HQ8.out.cell 2 (.int .u64 (y.t.pos : Nat)) rfl)
              have v3 := cell_regrown (HQ8.out.cell 3 (.int .u64 (y.t.id : Nat)) rfl)
              have v4 := cell_regrown (HQ8.out.cell 4 (.int .i64 y.v) rfl)
              have z0 := cell_regrown (HX8.out.cell 0 (.int .u64 (b.pos : Nat)) rfl)
              have z1 := cell_regrown (HX8.out.cell 1 (.int .u64 (b.id : Nat)) rfl)
              have cO : ∀ p : Regrown, Calls Try.prog 26 #[regVal r] (grow (redrawn w8 p.d) p.os) fun e w'' => e = .returned (regVal r) ∧ ∃ p : Regrown, w'' = grow (redrawn w8 p.d) p.os := fun p => Calls.regrown_of (HOw.out _)
              have cA : ∀ p : Regrown, Calls Try.prog 36 #[] (grow (redrawn w8 p.d) p.os) fun e w'' => e = .returned (.bool true) ∧ ∃ p : Regrown, w'' = grow (redrawn w8 p.d) p.os := fun p => Calls.regrown_of (HAl.out _)
              refine wp_region_quiet_below (by first | assumption | kernel_rfl) (by kernel_rfl) ?_
              iterate 36 (with_reducible refine wpQuiet_step (fun K hK => ?_); go_simp; first | (with_reducible refine hK _ ?_; clear hK K) | (simp only [undef, reduceCtorEq, if_false]; with_reducible refine hK _ ?_; clear hK K) | (simp only [undef]; go_simp; with_reducible refine hK _ ?_; clear hK K) | (apply Exists.intro; refine ⟨fun _ => ?_, hK _ ?_⟩; (first | (with_reducible exact cO _) | (with_reducible exact cA _)); clear hK K))
              refine wpQuiet_nil ?_
              intro _ hw'
              obtain ⟨⟨dq, osq⟩, hw''⟩ := hw'
              subst hw''
              have HRg := hid_ (HB8.out.trans ((below_regrown w8 dq osq).mono HB8.out.size))
              go_wp2_with fail
              go_ret
              exact ⟨rfl, HRg.out⟩
            · skip
              have kb : ∀ w, (binOp .eql 50 (.agg #[.int .u64 (y.t.pos : Nat), .int .u64 (y.t.id : Nat)]) (.agg #[.int .u64 (b.pos : Nat), .int .u64 (b.id : Nat)])).run Try.prog w = .ok (.bool true) w := fun w => by have h := bal_eql y.t b w; rw [(HF6.out rfl).1, same_self] at h; rw [(HF6.out rfl).1]; exact h
              have kv : (y.v == a2) = true := by rw [(HF6.out rfl).2]; simp
              go_upto_region 9 with (fail)
              clear y0 y1 y2 y3 y4 u0 u1 u2 u3 u4 v0 v1 v2 v3 v4 z0 z1
              have y0 := cell_regrown (HR8.out.cell 0 (.int .u64 (r.p.pos : Nat)) rfl)
              have y1 := cell_regrown (HR8.out.cell 1 (.int .u64 (r.p.id : Nat)) rfl)
              have y2 := cell_regrown (HR8.out.cell 2 (.int .u64 (r.t.pos : Nat)) rfl)
              have y3 := cell_regrown (HR8.out.cell 3 (.int .u64 (r.t.id : Nat)) rfl)
              have y4 := cell_regrown (HR8.out.cell 4 (.int .i64 r.v) rfl)
              have u0 := cell_regrown (HP8.out.cell 0 (.int .u64 (x.p.pos : Nat)) rfl)
              have u1 := cell_regrown (HP8.out.cell 1 (.int .u64 (x.p.id : Nat)) rfl)
              have u2 := cell_regrown (HP8.out.cell 2 (.int .u64 (x.t.pos : Nat)) rfl)
              have u3 := cell_regrown (HP8.out.cell 3 (.int .u64 (x.t.id : Nat)) rfl)
              have u4 := cell_regrown (HP8.out.cell 4 (.int .i64 x.v) rfl)
              have v0 := cell_regrown (HQ8.out.cell 0 (.int .u64 (y.p.pos : Nat)) rfl)
              have v1 := cell_regrown (HQ8.out.cell 1 (.int .u64 (y.p.id : Nat)) rfl)
              have v2 := cell_regrown (HQ8.out.cell 2 (.int .u64 (y.t.pos : Nat)) rfl)
              have v3 := cell_regrown (HQ8.out.cell 3 (.int .u64 (y.t.id : Nat)) rfl)
              have v4 := cell_regrown (HQ8.out.cell 4 (.int .i64 y.v) rfl)
              have z0 := cell_regrown (HX8.out.cell 0 (.int .u64 (b.pos : Nat)) rfl)
              have z1 := cell_regrown (HX8.out.cell 1 (.int .u64 (b.id : Nat)) rfl)
              have cO : ∀ p : Regrown, Calls Try.prog 26 #[regVal r] (grow (redrawn w8 p.d) p.os) fun e w'' => e = .returned (regVal r) ∧ ∃ p : Regrown, w'' = grow (redrawn w8 p.d) p.os := fun p => Calls.regrown_of (HOw.out _)
              have cA : ∀ p : Regrown, Calls Try.prog 36 #[] (grow (redrawn w8 p.d) p.os) fun e w'' => e = .returned (.bool true) ∧ ∃ p : Regrown, w'' = grow (redrawn w8 p.d) p.os := fun p => Calls.regrown_of (HAl.out _)
              refine wp_region_quiet_below (by first | assumption | kernel_rfl) (by kernel_rfl) ?_
              iterate 36 (with_reducible refine wpQuiet_step (fun K hK => ?_); go_simp; first | (with_reducible refine hK _ ?_; clear hK K) | (simp only [undef, reduceCtorEq, if_false]; with_reducible refine hK _ ?_; clear hK K) | (simp only [undef]; go_simp; with_reducible refine hK _ ?_; clear hK K) | (apply Exists.intro; refine ⟨fun _ => ?_, hK _ ?_⟩; (first | (with_reducible exact cO _) | (with_reducible exact cA _)); clear hK K))
              refine wpQuiet_nil ?_
              intro _ hw'
              obtain ⟨⟨dq, osq⟩, hw''⟩ := hw'
              subst hw''
              have HRg := hid_ (HB8.out.trans ((below_regrown w8 dq osq).mono HB8.out.size))
              go_wp2_with fail
              go_ret
              exact ⟨rfl, HRg.out⟩
          · cases j
            · skip
              have kj : ∀ w, (binOp .eql 54 (.agg (regCells y)) (.agg (regCells r))).run Try.prog w = .ok (.bool true) w := fun w => by have h := reg_eql y r w; rw [HF5.out rfl, sameR_self] at h; rw [HF5.out rfl]; exact h
              go_upto_region 9 with (fail)
              clear y0 y1 y2 y3 y4 u0 u1 u2 u3 u4 v0 v1 v2 v3 v4 z0 z1
              have y0 := cell_regrown (HR8.out.cell 0 (.int .u64 (r.p.pos : Nat)) rfl)
              have y1 := cell_regrown (HR8.out.cell 1 (.int .u64 (r.p.id : Nat)) rfl)
              have y2 := cell_regrown (HR8.out.cell 2 (.int .u64 (r.t.pos : Nat)) rfl)
              have y3 := cell_regrown (HR8.out.cell 3 (.int .u64 (r.t.id : Nat)) rfl)
              have y4 := cell_regrown (HR8.out.cell 4 (.int .i64 r.v) rfl)
              have u0 := cell_regrown (HP8.out.cell 0 (.int .u64 (x.p.pos : Nat)) rfl)
              have u1 := cell_regrown (HP8.out.cell 1 (.int .u64 (x.p.id : Nat)) rfl)
              have u2 := cell_regrown (HP8.out.cell 2 (.int .u64 (x.t.pos : Nat)) rfl)
              have u3 := cell_regrown (HP8.out.cell 3 (.int .u64 (x.t.id : Nat)) rfl)
              have u4 := cell_regrown (HP8.out.cell 4 (.int .i64 x.v) rfl)
              have v0 := cell_regrown (HQ8.out.cell 0 (.int .u64 (y.p.pos : Nat)) rfl)
              have v1 := cell_regrown (HQ8.out.cell 1 (.int .u64 (y.p.id : Nat)) rfl)
              have v2 := cell_regrown (HQ8.out.cell 2 (.int .u64 (y.t.pos : Nat)) rfl)
              have v3 := cell_regrown (HQ8.out.cell 3 (.int .u64 (y.t.id : Nat)) rfl)
              have v4 := cell_regrown (HQ8.out.cell 4 (.int .i64 y.v) rfl)
              have z0 := cell_regrown (HX8.out.cell 0 (.int .u64 (b.pos : Nat)) rfl)
              have z1 := cell_regrown (HX8.out.cell 1 (.int .u64 (b.id : Nat)) rfl)
              have cO : ∀ p : Regrown, Calls Try.prog 26 #[regVal r] (grow (redrawn w8 p.d) p.os) fun e w'' => e = .returned (regVal r) ∧ ∃ p : Regrown, w'' = grow (redrawn w8 p.d) p.os := fun p => Calls.regrown_of (HOw.out _)
              have cA : ∀ p : Regrown, Calls Try.prog 36 #[] (grow (redrawn w8 p.d) p.os) fun e w'' => e = .returned (.bool true) ∧ ∃ p : Regrown, w'' = grow (redrawn w8 p.d) p.os := fun p => Calls.regrown_of (HAl.out _)
              refine wp_region_quiet_below (by first | assumption | kernel_rfl) (by kernel_rfl) ?_
              iterate 36 (with_reducible refine wpQuiet_step (fun K hK => ?_); go_simp; first | (with_reducible refine hK _ ?_; clear hK K) | (simp only [undef, reduceCtorEq, if_false]; with_reducible refine hK _ ?_; clear hK K) | (simp only [undef]; go_simp; with_reducible refine hK _ ?_; clear hK K) | (apply Exists.intro; refine ⟨fun _ => ?_, hK _ ?_⟩; (first | (with_reducible exact cO _) | (with_reducible exact cA _)); clear hK K))
              refine wpQuiet_nil ?_
              intro _ hw'
              obtain ⟨⟨dq, osq⟩, hw''⟩ := hw'
              subst hw''
              have HRg := hid_ (HB8.out.trans ((below_regrown w8 dq osq).mono HB8.out.size))
              go_wp2_with fail
              go_ret
              exact ⟨rfl, HRg.out⟩
            · skip
              have kb : ∀ w, (binOp .eql 50 (.agg #[.int .u64 (y.t.pos : Nat), .int .u64 (y.t.id : Nat)]) (.agg #[.int .u64 (b.pos : Nat), .int .u64 (b.id : Nat)])).run Try.prog w = .ok (.bool true) w := fun w => by have h := bal_eql y.t b w; rw [(HF6.out rfl).1, same_self] at h; rw [(HF6.out rfl).1]; exact h
              have kv : (y.v == a2) = true := by rw [(HF6.out rfl).2]; simp
              go_upto_region 9 with (fail)
              clear y0 y1 y2 y3 y4 u0 u1 u2 u3 u4 v0 v1 v2 v3 v4 z0 z1
              have y0 := cell_regrown (HR8.out.cell 0 (.int .u64 (r.p.pos : Nat)) rfl)
              have y1 := cell_regrown (HR8.out.cell 1 (.int .u64 (r.p.id : Nat)) rfl)
              have y2 := cell_regrown (HR8.out.cell 2 (.int .u64 (r.t.pos : Nat)) rfl)
              have y3 := cell_regrown (HR8.out.cell 3 (.int .u64 (r.t.id : Nat)) rfl)
              have y4 := cell_regrown (HR8.out.cell 4 (.int .i64 r.v) rfl)
              have u0 := cell_regrown (HP8.out.cell 0 (.int .u64 (x.p.pos : Nat)) rfl)
              have u1 := cell_regrown (HP8.out.cell 1 (.int .u64 (x.p.id : Nat)) rfl)
              have u2 := cell_regrown (HP8.out.cell 2 (.int .u64 (x.t.pos : Nat)) rfl)
              have u3 := cell_regrown (HP8.out.cell 3 (.int .u64 (x.t.id : Nat)) rfl)
              have u4 := cell_regrown (HP8.out.cell 4 (.int .i64 x.v) rfl)
              have v0 := cell_regrown (HQ8.out.cell 0 (.int .u64 (y.p.pos : Nat)) rfl)
              have v1 := cell_regrown (HQ8.out.cell 1 (.int .u64 (y.p.id : Nat)) rfl)
              have v2 := cell_regrown (HQ8.out.cell 2 (.int .u64 (y.t.pos : Nat)) rfl)
              have v3 := cell_regrown (HQ8.out.cell 3 (.int .u64 (y.t.id : Nat)) rfl)
              have v4 := cell_regrown (HQ8.out.cell 4 (.int .i64 y.v) rfl)
              have z0 := cell_regrown (HX8.out.cell 0 (.int .u64 (b.pos : Nat)) rfl)
              have z1 := cell_regrown (HX8.out.cell 1 (.int .u64 (b.id : Nat)) rfl)
              have cO : ∀ p : Regrown, Calls Try.prog 26 #[regVal r] (grow (redrawn w8 p.d) p.os) fun e w'' => e = .returned (regVal r) ∧ ∃ p : Regrown, w'' = grow (redrawn w8 p.d) p.os := fun p => Calls.regrown_of (HOw.out _)
              have cA : ∀ p : Regrown, Calls Try.prog 36 #[] (grow (redrawn w8 p.d) p.os) fun e w'' => e = .returned (.bool true) ∧ ∃ p : Regrown, w'' = grow (redrawn w8 p.d) p.os := fun p => Calls.regrown_of (HAl.out _)
              refine wp_region_quiet_below (by first | assumption | kernel_rfl) (by kernel_rfl) ?_
              iterate 36 (with_reducible refine wpQuiet_step (fun K hK => ?_); go_simp; first | (with_reducible refine hK _ ?_; clear hK K) | (simp only [undef, reduceCtorEq, if_false]; with_reducible refine hK _ ?_; clear hK K) | (simp only [undef]; go_simp; with_reducible refine hK _ ?_; clear hK K) | (apply Exists.intro; refine ⟨fun _ => ?_, hK _ ?_⟩; (first | (with_reducible exact cO _) | (with_reducible exact cA _)); clear hK K))
              refine wpQuiet_nil ?_
              intro _ hw'
              obtain ⟨⟨dq, osq⟩, hw''⟩ := hw'
              subst hw''
              have HRg := hid_ (HB8.out.trans ((below_regrown w8 dq osq).mono HB8.out.size))
              go_wp2_with fail
              go_ret
              exact ⟨rfl, HRg.out⟩

set_option maxRecDepth 100000 in
theorem lifted (os : Os) (started : os.Started) (H : Type) (enc : TypeId × Value → H) :
    ReturnsInHanded {} Try.checked os 7 .any (Rows.registerRisesSpec.pre6 enc Try.prog Try.f7 Rows.registerRisesRow.domain false) (Rows.registerRisesSpec.post enc Try.prog Try.f7 false true false false) := by
  refine returnsInHanded_of_change (C := Try.checked) own started (by kernel_rfl) Try.func7
    (ChangeSpec.witness6 (enc := enc) (C := Try.checked) false ⟨#[], #[(.agg #[.int .u64 0, .int .u64 0, .int .u64 0, .int .u64 0, .int .i64 0]), (.agg #[.int .u64 0, .int .u64 0]), .int .i64 0], []⟩ 8 (by kernel_rfl) (by kernel_rfl) (by kernel_rfl) (by kernel_rfl)) ?_
  intro W base args ds gs before hval0 hW hcnd _
  have hval : ∀ (j : Nat) t v, Try.f7.params[j]? = some t → args[j]? = some v → Value.okWide Try.prog W .any base t v := hval0
  have hW' := hW
  obtain ⟨p, q, hA0, hV, rfl, hfz, hnd⟩ := hW
  have hA : DataW.TrodAll enc Try.prog W 0 (fun _ => true) true Try.f7.params.toList args.toList ds p := hA0
  rw [Try.params7] at hA hval
  obtain ⟨v0, vs0, d0, ds0, p0, q0, hargs, rfl, rfl, h0, r0⟩ := trodAll_cons hA
  obtain ⟨v1, vs1, d1, ds1, p1, q1, rfl, rfl, rfl, h1, r1⟩ := trodAll_cons r0
  obtain ⟨v2, vs2, d2, ds2, p2, q2, rfl, rfl, rfl, h2, r2⟩ := trodAll_cons r1
  obtain ⟨rfl, rfl, rfl⟩ := trodAll_nil r2
  obtain rfl : args = #[v0, v1, v2] := by cases args; simp_all
  obtain ⟨rfl, rfl⟩ := trodVars_none hV
  have k0 := h0
  have lt0 : ∀ x ∈ p0, x.block < W.heap.size := by obtain ⟨m, hm⟩ := k0; exact DataW.trod_lt m _ _ _ hm
  have w0 : Re.RegV W v0 := Re.open_regV (hval 0 53 v0 rfl rfl) h0
  have k1 := h1
  have lt1 : ∀ x ∈ p1, x.block < W.heap.size := by obtain ⟨m, hm⟩ := k1; exact DataW.trod_lt m _ _ _ hm
  have w1 : Bl.BalV W v1 := Bl.open_balV (hval 1 50 v1 rfl rfl) h1
  obtain ⟨a2, rfl, rfl, rfl, w2⟩ := open_int Try.underlying51 (hval 2 51 v2 rfl rfl) h2
  clear hA0 hval0
  refine (walk v0 v1 a2 W w0 w1 w2).mono fun e W' ⟨he, bel⟩ => ?_
  subst he
  exact ⟨_, rfl, _, _, _, [], _, [], hW', trodAll_mk1 (shut_bool Try.underlying4 _), (trodAll_cons_mk (Below.trod laidOut (by kernel_rfl) (of_decide_eq_true (by kernel_rfl)) k0 bel lt0) (trodAll_cons_mk (Below.trod laidOut (by kernel_rfl) (of_decide_eq_true (by kernel_rfl)) k1 bel lt1) (trodAll_cons_mk (shut_int Try.underlying51 w2) trodAll_mk0))), rfl, bel.frame _, fun h => by cases h⟩

theorem over : Rows.registerRisesRow.holds Try.pinned (OpenSpec.ofChange Rows.registerRisesSpec) :=
  OpenClaim.holds_of_wide 7 Try.f7 rfl rfl rfl rfl rfl rfl rfl ⟨rfl, rfl, rfl, rfl, rfl⟩ rfl rfl rfl rfl rfl (by kernel_rfl) Try.func7 (by kernel_rfl)
    (of_decide_eq_true (by kernel_rfl)) (by unfold Func.isWrapper; first | (rw [if_pos (by decide +kernel)]; kernel_rfl) | (rw [if_neg (by decide +kernel)]; exact ⟨rfl, rfl⟩))
    (fun os started H enc _ => lifted os started H enc)

theorem proved : Rows.RegisterRisesSaid := over
#print axioms proved
end Go.Proofs.Ytljlhaillmeedaa.registerRises
