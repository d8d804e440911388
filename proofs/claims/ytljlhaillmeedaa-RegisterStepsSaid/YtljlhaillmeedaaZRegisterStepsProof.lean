/-
  RegisterSteps: what any ballot and verdict does to any register, and what it answers, is what the document's answer says; no condition on the input.
  The frame round the walk is written by the guide's own program for this statement.
-/
import Derived.Test.YtljlhaillmeedaaZGRN
import Derived.Test.YtljlhaillmeedaaRows
import Derived.WalkKit
import Derived.ProofKit
import Derived.OpenShut
import Derived.ShutString
import Derived.ChangeOld
import Derived.Below
namespace Go.Proofs.Ytljlhaillmeedaa.registerSteps
set_option linter.unusedSimpArgs false
set_option linter.unusedVariables false
open Go.ChangeShapes Go.WideShapes Go.ChangeAt Go.RowKit
open Go.ChangeMaps (open_string shut_string)
set_option linter.unusedVariables false

theorem own : ownKnob Try.prog.godebug = none := by kernel_rfl
theorem laidOut : laidOutB Try.prog = true := by kernel_rfl

/-- WHAT THE WALK IS TOLD OF A SLICE OF INTEGERS THAT CAME IN: it is nil; or it leads to a row of 'cap' cells, the numbers 'zs' (the first 'len' are its elements, the rest its spare room), each fitting its kind. -/
def IsRow (k : IntKind) (w : World) (a : Option Addr) (len cap : Nat) (zs : List Int) : Prop :=
  (a = none ∧ len = 0 ∧ cap = 0 ∧ zs = []) ∨
  ∃ x, a = some x ∧ len ≤ cap ∧ cap ≤ maxLen ∧ zs.length = cap ∧ (∀ i, i < zs.length → w.cell? (x.add i) = some (.int k (zs.getD i 0))) ∧ ∀ n ∈ zs, (Lit.int k n).wf = true

open Rg Bl Re
set_option maxRecDepth 100000 in
set_option maxHeartbeats 16000000 in
theorem walk (v0 : Value) (v1 : Value) (a2 : Int) (a3 : Int) (a4 : Bool) (a5 : Bool) (w : World) (w0 : Re.RegV w v0) (w1 : Bl.BalV w v1) (w2 : (Lit.int .i64 a2).wf = true) (w3 : (Lit.int .u64 a3).wf = true) :
    Calls Try.prog 6 #[v0, v1, .int .i64 a2, .int .u64 a3, .bool a4, .bool a5] w fun e w' => e = .returned (.bool true) ∧ Below w.heap.size w w' := by
  obtain ⟨r, ⟨⟨hr1, hr2⟩, ⟨hr3, hr4⟩, -, -⟩, rfl⟩ := w0
  obtain ⟨b, ⟨hb1, hb2⟩, rfl⟩ := w1
  obtain ⟨tr, rfl, htr⟩ := Bl.u64_of w3
  have HPr := hid_ (fun (W : World) => prepare_any r b W)
  have HRp := hid_ (fun (W : World) => rprepare_any r b W)
  have HAc := hid_ (fun (W : World) => accept_any r b a2 W)
  have HRa := hid_ (fun (W : World) => raccept_any r b a2 W)
  have HOw := hid_ (fun (W : World) => own_any r W)
  have HAl := hid_ (fun (W : World) => regalive_any W)
  have HRi := hid_ (fun (W : World) => right_any r W)
  have HRr := hid_ (fun (W : World) => rright_any r W)
  have HAn := hid_ (fun (W : World) => answer_any r tr b a4 a5 W)
  have HAr := hid_ (fun (W : World) => ranswer_any r tr b a4 a5 W)
  have HSm := hid_ (fun (W : World) => answer_same r tr b a4 a5 W)
  clear w2 w3 hr1 hr2 hr3 hr4 hb1 hb2 htr
  generalize prepD r b = x at *
  generalize (!lateB r b) = k at *
  generalize accD r b a2 = q at *
  generalize takesB r b a2 = l at *
  generalize rightR r = i at *
  generalize ansP r tr b a4 a5 = pa at *
  have HB0 := hid_ (((Below.refl w.heap.size w).alloc (Nat.le_refl _) (.cells (regCells r) 53)).alloc (by simp) (.cells #[.int .u64 (b.pos : Nat), .int .u64 (b.id : Nat)] 50))
  have HR0 := hid_ ((whole_new w 53 (regCells r)).alloc (.cells #[.int .u64 (b.pos : Nat), .int .u64 (b.id : Nat)] 50))
  have HX0 := hid_ (whole_at (w.alloc (.cells (regCells r) 53)) (w.heap.size + 1) 50 #[.int .u64 (b.pos : Nat), .int .u64 (b.id : Nat)] (by simp))
  go_enter Try.func6, Try.ntmps6
  go_upto_region 1 with (fail)
  generalize ((w.alloc (.cells #[.int .u64 (r.p.pos : Nat), .int .u64 (r.p.id : Nat), .int .u64 (r.t.pos : Nat), .int .u64 (r.t.id : Nat), .int .i64 r.v] 53)).alloc (.cells #[.int .u64 (b.pos : Nat), .int .u64 (b.id : Nat)] 50)) = wa at *
  go_cut [13, 14] from 21 to 27 (fun v13 v14 wx => KeptR wa 54 x k v13 v14 wx)
  case first =>
    have S0 : RbIn wa w.heap.size r (w.heap.size + 1) b wa := ⟨Below.refl _ _, r5_of HR0.out, b2_of HX0.out⟩
    have HS0 := hid_ S0
    have HBr := hid_ (Below.refl wa.heap.size wa)
    go_region_held3 (RbIn wa w.heap.size r (w.heap.size + 1) b) (first | (with_reducible assumption) | (with_reducible exact rbIn_of HS0.out hbv) | (with_reducible exact rbIn_of HS0.out hbw) | (with_reducible exact rbIn_of HS0.out (below_set5 hbv (Nat.le_refl _) _ _ _ _ _)) | (with_reducible exact rbIn_of HS0.out (below_set5 hbv hgm _ _ _ _ _)) | (with_reducible exact rbIn_of HS0.out (Below.alloc hbv (Below.size hbv) _)) | (with_reducible exact rbIn_of HS0.out (Below.alloc hbw (Below.size hbw) _)) | (with_reducible exact rbIn_of HS0.out (Below.drew (Below.refl _ _))) | (with_reducible exact rbIn_of HS0.out (Below.alloc (Below.drew (Below.refl _ _)) (Nat.le_refl _) _)) | (with_reducible exact rbIn_of HS0.out (Below.drew (Below.alloc (Below.refl _ _) (Nat.le_refl _) _))) | (with_reducible exact rbIn_of HS0.out (Below.alloc (Below.refl _ _) (Nat.le_refl _) _)) | fail)
      (first
        | (go_at_call 26; (with_reducible refine Calls.mono (HOw.out _) ?_); rintro e wo ⟨rfl, hbo⟩; (first | (with_reducible have hbw := chain0 HBr.out hbo) | (with_reducible have hbw := chainD HBr.out hbo) | (with_reducible have hbw := chainA HBr.out hbo; with_reducible have hz1 := whole_past hbo) | (with_reducible have hbw := chainAD HBr.out hbo; with_reducible have hz1 := whole_pastD hbo) | (with_reducible have hbw := chainDA HBr.out hbo; with_reducible have hz1 := whole_past hbo)))
        | (go_at_call 25; (with_reducible refine Calls.mono (HPr.out _) ?_); rintro e wp ⟨rfl, hbp⟩; (first | (with_reducible have hz2 := whole_gone hz1 hbp; with_reducible have hbv := chain0 hbw hbp; have n0 := hz2.cell 0 (.int .u64 0) rfl; have n1 := hz2.cell 1 (.int .u64 0) rfl; have n2 := hz2.cell 2 (.int .u64 0) rfl; have n3 := hz2.cell 3 (.int .u64 0) rfl; have n4 := hz2.cell 4 (.int .i64 0) rfl; have f0 := hz2.free 0; have f1 := hz2.free 1; have f2 := hz2.free 2; have f3 := hz2.free 3; have f4 := hz2.free 4) | (with_reducible have hbv := chain0 hbw hbp) | (with_reducible have hbv := chainA hbw hbp; with_reducible have hz2 := whole_past hbp; have hgm := hbw.size; have n0 := hz2.cell 0 (.int .u64 0) rfl; have n1 := hz2.cell 1 (.int .u64 0) rfl; have n2 := hz2.cell 2 (.int .u64 0) rfl; have n3 := hz2.cell 3 (.int .u64 0) rfl; have n4 := hz2.cell 4 (.int .i64 0) rfl; have f0 := hz2.free 0; have f1 := hz2.free 1; have f2 := hz2.free 2; have f3 := hz2.free 3; have f4 := hz2.free 4; generalize wo.heap.size = gm at *)))
        | fail)
    all_goals
      go_wp2_with fail
      go_meet
      first
        | (with_reducible exact keptR_mk rfl (Below.size hbv) (whole_new _ _ _) (Below.alloc hbv (Below.size hbv) _))
        | (with_reducible exact keptR_mk rfl hgm (whole_set5 hz2 _ _ _ _ _) (below_set5 hbv hgm _ _ _ _ _))
        | (with_reducible exact keptR_mk rfl (Nat.le_refl _) (whole_set5 hz2 _ _ _ _ _) (below_set5 hbv (Nat.le_refl _) _ _ _ _ _))
        | fail
  case rest =>
    obtain ⟨gx, rfl, rfl, hgx, hwx, hbx⟩ := hcut
    obtain ⟨w1, rfl⟩ : ∃ w1 : World, w1 = wc := ⟨_, rfl⟩
    have HB1 := hid_ (HB0.out.trans (hbx.mono HB0.out.size))
    have HR1 := hid_ (HR0.out.below hbx HR0.out.lt)
    have HX1 := hid_ (HX0.out.below hbx HX0.out.lt)
    have HP1 := hid_ hwx
    clear hbx hwx hgx
    have y0 := HR1.out.cell 0 (.int .u64 (r.p.pos : Nat)) rfl
    have y1 := HR1.out.cell 1 (.int .u64 (r.p.id : Nat)) rfl
    have y2 := HR1.out.cell 2 (.int .u64 (r.t.pos : Nat)) rfl
    have y3 := HR1.out.cell 3 (.int .u64 (r.t.id : Nat)) rfl
    have y4 := HR1.out.cell 4 (.int .i64 r.v) rfl
    have z0 := HX1.out.cell 0 (.int .u64 (b.pos : Nat)) rfl
    have z1 := HX1.out.cell 1 (.int .u64 (b.id : Nat)) rfl
    go_wp2_with fail
    (with_reducible refine Calls.mono (HRp.out _) ?_)
    rintro e w2 ⟨rfl, hb⟩
    have HBb := hid_ (HB1.out.trans (hb.mono HB1.out.size))
    have HB2 := hid_ (Below.alloc HBb.out HBb.out.size (.cells #[.int .u64 (x.p.pos : Nat), .int .u64 (x.p.id : Nat), .int .u64 (x.t.pos : Nat), .int .u64 (x.t.id : Nat), .int .i64 x.v] 53))
    have HR2 := hid_ ((HR1.out.below hb HR1.out.lt).alloc (.cells #[.int .u64 (x.p.pos : Nat), .int .u64 (x.p.id : Nat), .int .u64 (x.t.pos : Nat), .int .u64 (x.t.id : Nat), .int .i64 x.v] 53))
    have HX2 := hid_ ((HX1.out.below hb HX1.out.lt).alloc (.cells #[.int .u64 (x.p.pos : Nat), .int .u64 (x.p.id : Nat), .int .u64 (x.t.pos : Nat), .int .u64 (x.t.id : Nat), .int .i64 x.v] 53))
    have HP2 := hid_ ((HP1.out.below hb HP1.out.lt).alloc (.cells #[.int .u64 (x.p.pos : Nat), .int .u64 (x.p.id : Nat), .int .u64 (x.t.pos : Nat), .int .u64 (x.t.id : Nat), .int .i64 x.v] 53))
    have HQ2 := hid_ (whole_new w2 53 (regCells x))
    clear hb HBb y0 y1 y2 y3 y4 z0 z1
    go_upto_region 3 with (fail)
    generalize w2.heap.size = gy at *
    generalize (w2.alloc (.cells #[.int .u64 (x.p.pos : Nat), .int .u64 (x.p.id : Nat), .int .u64 (x.t.pos : Nat), .int .u64 (x.t.id : Nat), .int .i64 x.v] 53)) = wb at *
    go_cut [17, 18] from 34 to 41 (fun v13 v14 wx => KeptR wb 54 q l v13 v14 wx)
    case first =>
      have S0 : RbIn wb w.heap.size r (w.heap.size + 1) b wb := ⟨Below.refl _ _, r5_of HR2.out, b2_of HX2.out⟩
      have HS0 := hid_ S0
      have HBr := hid_ (Below.refl wb.heap.size wb)
      go_region_held3 (RbIn wb w.heap.size r (w.heap.size + 1) b) (first | (with_reducible assumption) | (with_reducible exact rbIn_of HS0.out hbv) | (with_reducible exact rbIn_of HS0.out hbw) | (with_reducible exact rbIn_of HS0.out (below_set5 hbv (Nat.le_refl _) _ _ _ _ _)) | (with_reducible exact rbIn_of HS0.out (below_set5 hbv hgm _ _ _ _ _)) | (with_reducible exact rbIn_of HS0.out (Below.alloc hbv (Below.size hbv) _)) | (with_reducible exact rbIn_of HS0.out (Below.alloc hbw (Below.size hbw) _)) | (with_reducible exact rbIn_of HS0.out (Below.drew (Below.refl _ _))) | (with_reducible exact rbIn_of HS0.out (Below.alloc (Below.drew (Below.refl _ _)) (Nat.le_refl _) _)) | (with_reducible exact rbIn_of HS0.out (Below.drew (Below.alloc (Below.refl _ _) (Nat.le_refl _) _))) | (with_reducible exact rbIn_of HS0.out (Below.alloc (Below.refl _ _) (Nat.le_refl _) _)) | fail)
        (first
          | (go_at_call 26; (with_reducible refine Calls.mono (HOw.out _) ?_); rintro e wo ⟨rfl, hbo⟩; (first | (with_reducible have hbw := chain0 HBr.out hbo) | (with_reducible have hbw := chainD HBr.out hbo) | (with_reducible have hbw := chainA HBr.out hbo; with_reducible have hz1 := whole_past hbo) | (with_reducible have hbw := chainAD HBr.out hbo; with_reducible have hz1 := whole_pastD hbo) | (with_reducible have hbw := chainDA HBr.out hbo; with_reducible have hz1 := whole_past hbo)))
          | (go_at_call 28; (with_reducible refine Calls.mono (HAc.out _) ?_); rintro e wp ⟨rfl, hbp⟩; (first | (with_reducible have hz2 := whole_gone hz1 hbp; with_reducible have hbv := chain0 hbw hbp; have n0 := hz2.cell 0 (.int .u64 0) rfl; have n1 := hz2.cell 1 (.int .u64 0) rfl; have n2 := hz2.cell 2 (.int .u64 0) rfl; have n3 := hz2.cell 3 (.int .u64 0) rfl; have n4 := hz2.cell 4 (.int .i64 0) rfl; have f0 := hz2.free 0; have f1 := hz2.free 1; have f2 := hz2.free 2; have f3 := hz2.free 3; have f4 := hz2.free 4) | (with_reducible have hbv := chain0 hbw hbp) | (with_reducible have hbv := chainA hbw hbp; with_reducible have hz2 := whole_past hbp; have hgm := hbw.size; have n0 := hz2.cell 0 (.int .u64 0) rfl; have n1 := hz2.cell 1 (.int .u64 0) rfl; have n2 := hz2.cell 2 (.int .u64 0) rfl; have n3 := hz2.cell 3 (.int .u64 0) rfl; have n4 := hz2.cell 4 (.int .i64 0) rfl; have f0 := hz2.free 0; have f1 := hz2.free 1; have f2 := hz2.free 2; have f3 := hz2.free 3; have f4 := hz2.free 4; generalize wo.heap.size = gm at *)))
          | fail)
      all_goals
        go_wp2_with fail
        go_meet
        first
          | (with_reducible exact keptR_mk rfl (Below.size hbv) (whole_new _ _ _) (Below.alloc hbv (Below.size hbv) _))
          | (with_reducible exact keptR_mk rfl hgm (whole_set5 hz2 _ _ _ _ _) (below_set5 hbv hgm _ _ _ _ _))
          | (with_reducible exact keptR_mk rfl (Nat.le_refl _) (whole_set5 hz2 _ _ _ _ _) (below_set5 hbv (Nat.le_refl _) _ _ _ _ _))
          | fail
    case rest =>
      obtain ⟨gp, rfl, rfl, hgp, hwx, hbx⟩ := hcut
      obtain ⟨w3, rfl⟩ : ∃ w3 : World, w3 = wc := ⟨_, rfl⟩
      have HB3 := hid_ (HB2.out.trans (hbx.mono HB2.out.size))
      have HR3 := hid_ (HR2.out.below hbx HR2.out.lt)
      have HX3 := hid_ (HX2.out.below hbx HX2.out.lt)
      have HP3 := hid_ (HP2.out.below hbx HP2.out.lt)
      have HQ3 := hid_ (HQ2.out.below hbx HQ2.out.lt)
      have HU3 := hid_ hwx
      clear hbx hwx hgp
      have y0 := HR3.out.cell 0 (.int .u64 (r.p.pos : Nat)) rfl
      have y1 := HR3.out.cell 1 (.int .u64 (r.p.id : Nat)) rfl
      have y2 := HR3.out.cell 2 (.int .u64 (r.t.pos : Nat)) rfl
      have y3 := HR3.out.cell 3 (.int .u64 (r.t.id : Nat)) rfl
      have y4 := HR3.out.cell 4 (.int .i64 r.v) rfl
      have z0 := HX3.out.cell 0 (.int .u64 (b.pos : Nat)) rfl
      have z1 := HX3.out.cell 1 (.int .u64 (b.id : Nat)) rfl
      go_wp2_with fail
      (with_reducible refine Calls.mono (HRa.out _) ?_)
      rintro e w4 ⟨rfl, hb⟩
      have HBb := hid_ (HB3.out.trans (hb.mono HB3.out.size))
      have HB4 := hid_ (Below.alloc HBb.out HBb.out.size (.cells #[.int .u64 (q.p.pos : Nat), .int .u64 (q.p.id : Nat), .int .u64 (q.t.pos : Nat), .int .u64 (q.t.id : Nat), .int .i64 q.v] 53))
      have HR4 := hid_ ((HR3.out.below hb HR3.out.lt).alloc (.cells #[.int .u64 (q.p.pos : Nat), .int .u64 (q.p.id : Nat), .int .u64 (q.t.pos : Nat), .int .u64 (q.t.id : Nat), .int .i64 q.v] 53))
      have HX4 := hid_ ((HX3.out.below hb HX3.out.lt).alloc (.cells #[.int .u64 (q.p.pos : Nat), .int .u64 (q.p.id : Nat), .int .u64 (q.t.pos : Nat), .int .u64 (q.t.id : Nat), .int .i64 q.v] 53))
      have HP4 := hid_ ((HP3.out.below hb HP3.out.lt).alloc (.cells #[.int .u64 (q.p.pos : Nat), .int .u64 (q.p.id : Nat), .int .u64 (q.t.pos : Nat), .int .u64 (q.t.id : Nat), .int .i64 q.v] 53))
      have HQ4 := hid_ ((HQ3.out.below hb HQ3.out.lt).alloc (.cells #[.int .u64 (q.p.pos : Nat), .int .u64 (q.p.id : Nat), .int .u64 (q.t.pos : Nat), .int .u64 (q.t.id : Nat), .int .i64 q.v] 53))
      have HU4 := hid_ ((HU3.out.below hb HU3.out.lt).alloc (.cells #[.int .u64 (q.p.pos : Nat), .int .u64 (q.p.id : Nat), .int .u64 (q.t.pos : Nat), .int .u64 (q.t.id : Nat), .int .i64 q.v] 53))
      have HV4 := hid_ (whole_new w4 53 (regCells q))
      clear hb HBb y0 y1 y2 y3 y4 z0 z1
      have ei : (i == i) = true := by cases i <;> rfl
      have ek : (k == k) = true := by cases k <;> rfl
      have el : (l == l) = true := by cases l <;> rfl
      have kx : ∀ w, (binOp .eql 53 (.agg (regCells x)) (.agg (regCells x))).run Try.prog w = .ok (.bool true) w := fun w => by have := rreg_eql x x w; rwa [sameR_self] at this
      have kq : ∀ w, (binOp .eql 53 (.agg (regCells q)) (.agg (regCells q))).run Try.prog w = .ok (.bool true) w := fun w => by have := rreg_eql q q w; rwa [sameR_self] at this
      have HKx := hid_ (fun (W : World) => back_any x W)
      have HKq := hid_ (fun (W : World) => back_any q W)
      go_upto_region 5 with (fail)
      generalize w4.heap.size = gv at *
      generalize (w4.alloc (.cells #[.int .u64 (q.p.pos : Nat), .int .u64 (q.p.id : Nat), .int .u64 (q.t.pos : Nat), .int .u64 (q.t.id : Nat), .int .i64 q.v] 53)) = we at *
      have S0 : StIn we w.heap.size r (w.heap.size + 1) b gx gy x gp gv q we := ⟨⟨Below.refl _ _, r5_of HR4.out, b2_of HX4.out⟩, r5_of HP4.out, r5_of HQ4.out, r5_of HU4.out, r5_of HV4.out⟩
      have HS0 := hid_ S0
      have HBr := hid_ (Below.refl we.heap.size we)
      go_region_held3 (StIn we w.heap.size r (w.heap.size + 1) b gx gy x gp gv q) (first | (with_reducible assumption) | (with_reducible exact stIn_of HS0.out hcb) | (with_reducible exact stIn_of HS0.out (Below.drew (Below.refl _ _))) | fail)
        (first
          | (go_at_call 26; (with_reducible refine Calls.mono (HOw.out _) ?_); rintro e w' ⟨rfl, hcn⟩; (first | (with_reducible have hcb := chain0 HBr.out hcn) | (with_reducible have hcb := chainD HBr.out hcn) | (with_reducible have hcb := chain0 hcb hcn)))
          | (go_at_call 30; (with_reducible refine Calls.mono (HRi.out _) ?_); rintro e w' ⟨rfl, hcn⟩; (first | (with_reducible have hcb := chain0 HBr.out hcn) | (with_reducible have hcb := chainD HBr.out hcn) | (with_reducible have hcb := chain0 hcb hcn)))
          | (go_at_call 31; (with_reducible refine Calls.mono (HRr.out _) ?_); rintro e w' ⟨rfl, hcn⟩; (first | (with_reducible have hcb := chain0 HBr.out hcn) | (with_reducible have hcb := chainD HBr.out hcn) | (with_reducible have hcb := chain0 hcb hcn)))
          | (go_at_call 32; (with_reducible refine Calls.mono (HKx.out _) ?_); rintro e w' ⟨rfl, hcn⟩; (first | (with_reducible have hcb := chain0 HBr.out hcn) | (with_reducible have hcb := chainD HBr.out hcn) | (with_reducible have hcb := chain0 hcb hcn)))
          | (go_at_call 32; (with_reducible refine Calls.mono (HKq.out _) ?_); rintro e w' ⟨rfl, hcn⟩; (first | (with_reducible have hcb := chain0 HBr.out hcn) | (with_reducible have hcb := chainD HBr.out hcn) | (with_reducible have hcb := chain0 hcb hcn)))
          | (go_at_call 34; (with_reducible refine Calls.mono (HAn.out _) ?_); rintro e w' ⟨rfl, hcn⟩; (first | (with_reducible have hcb := chain0 HBr.out hcn) | (with_reducible have hcb := chainD HBr.out hcn) | (with_reducible have hcb := chain0 hcb hcn)))
          | (go_at_call 35; (with_reducible refine Calls.mono (HAr.out _) ?_); rintro e w' ⟨rfl, hcn⟩; (first | (with_reducible have hcb := chain0 HBr.out hcn) | (with_reducible have hcb := chainD HBr.out hcn) | (with_reducible have hcb := chain0 hcb hcn)))
          | (go_at_call 33; (with_reducible refine Calls.mono (HSm.out _) ?_); rintro e w' ⟨rfl, hcn⟩; (first | (with_reducible have hcb := chain0 HBr.out hcn) | (with_reducible have hcb := chainD HBr.out hcn) | (with_reducible have hcb := chain0 hcb hcn)))
          | (go_at_call 36; (with_reducible refine Calls.mono (HAl.out _) ?_); rintro e w' ⟨rfl, hcn⟩; (first | (with_reducible have hcb := chain0 HBr.out hcn) | (with_reducible have hcb := chainD HBr.out hcn) | (with_reducible have hcb := chain0 hcb hcn)))
          | fail)
      have hS : StIn we w.heap.size r (w.heap.size + 1) b gx gy x gp gv q w' := by assumption
      have h9 := HB4.out.trans (hS.1.1.mono HB4.out.size)
      clear hS
      go_wp2_with fail
      go_ret
      exact ⟨rfl, h9⟩

set_option maxRecDepth 100000 in
theorem lifted (os : Os) (started : os.Started) (H : Type) (enc : TypeId × Value → H) :
    ReturnsInHanded {} Try.checked os 6 .any (Rows.registerStepsSpec.pre6 enc Try.prog Try.f6 Rows.registerStepsRow.domain false) (Rows.registerStepsSpec.post enc Try.prog Try.f6 false true false false) := by
  refine returnsInHanded_of_change (C := Try.checked) own started (by kernel_rfl) Try.func6
    (ChangeSpec.witness6 (enc := enc) (C := Try.checked) false ⟨#[], #[(.agg #[.int .u64 0, .int .u64 0, .int .u64 0, .int .u64 0, .int .i64 0]), (.agg #[.int .u64 0, .int .u64 0]), .int .i64 0, .int .u64 0, .bool false, .bool false], []⟩ 8 (by kernel_rfl) (by kernel_rfl) (by kernel_rfl) (by kernel_rfl)) ?_
  intro W base args ds gs before hval0 hW hcnd _
  have hval : ∀ (j : Nat) t v, Try.f6.params[j]? = some t → args[j]? = some v → Value.okWide Try.prog W .any base t v := hval0
  have hW' := hW
  obtain ⟨p, q, hA0, hV, rfl, hfz, hnd⟩ := hW
  have hA : DataW.TrodAll enc Try.prog W 0 (fun _ => true) true Try.f6.params.toList args.toList ds p := hA0
  rw [Try.params6] at hA hval
  obtain ⟨v0, vs0, d0, ds0, p0, q0, hargs, rfl, rfl, h0, r0⟩ := trodAll_cons hA
  obtain ⟨v1, vs1, d1, ds1, p1, q1, rfl, rfl, rfl, h1, r1⟩ := trodAll_cons r0
  obtain ⟨v2, vs2, d2, ds2, p2, q2, rfl, rfl, rfl, h2, r2⟩ := trodAll_cons r1
  obtain ⟨v3, vs3, d3, ds3, p3, q3, rfl, rfl, rfl, h3, r3⟩ := trodAll_cons r2
  obtain ⟨v4, vs4, d4, ds4, p4, q4, rfl, rfl, rfl, h4, r4⟩ := trodAll_cons r3
  obtain ⟨v5, vs5, d5, ds5, p5, q5, rfl, rfl, rfl, h5, r5⟩ := trodAll_cons r4
  obtain ⟨rfl, rfl, rfl⟩ := trodAll_nil r5
  obtain rfl : args = #[v0, v1, v2, v3, v4, v5] := by cases args; simp_all
  obtain ⟨rfl, rfl⟩ := trodVars_none hV
  have k0 := h0
  have lt0 : ∀ x ∈ p0, x.block < W.heap.size := by obtain ⟨m, hm⟩ := k0; exact DataW.trod_lt m _ _ _ hm
  have w0 : Re.RegV W v0 := Re.open_regV (hval 0 53 v0 rfl rfl) h0
  have k1 := h1
  have lt1 : ∀ x ∈ p1, x.block < W.heap.size := by obtain ⟨m, hm⟩ := k1; exact DataW.trod_lt m _ _ _ hm
  have w1 : Bl.BalV W v1 := Bl.open_balV (hval 1 50 v1 rfl rfl) h1
  obtain ⟨a2, rfl, rfl, rfl, w2⟩ := open_int Try.underlying51 (hval 2 51 v2 rfl rfl) h2
  obtain ⟨a3, rfl, rfl, rfl, w3⟩ := open_int Try.underlying48 (hval 3 48 v3 rfl rfl) h3
  obtain ⟨a4, rfl, rfl, rfl⟩ := open_bool Try.underlying4 (hval 4 4 v4 rfl rfl) h4
  obtain ⟨a5, rfl, rfl, rfl⟩ := open_bool Try.underlying4 (hval 5 4 v5 rfl rfl) h5
  clear hA0 hval0
  refine (walk v0 v1 a2 a3 a4 a5 W w0 w1 w2 w3).mono fun e W' ⟨he, bel⟩ => ?_
  subst he
  exact ⟨_, rfl, _, _, _, [], _, [], hW', trodAll_mk1 (shut_bool Try.underlying4 _), (trodAll_cons_mk (Below.trod laidOut (by kernel_rfl) (of_decide_eq_true (by kernel_rfl)) k0 bel lt0) (trodAll_cons_mk (Below.trod laidOut (by kernel_rfl) (of_decide_eq_true (by kernel_rfl)) k1 bel lt1) (trodAll_cons_mk (shut_int Try.underlying51 w2) (trodAll_cons_mk (shut_int Try.underlying48 w3) (trodAll_cons_mk (shut_bool Try.underlying4 _) (trodAll_cons_mk (shut_bool Try.underlying4 _) trodAll_mk0)))))), rfl, bel.frame _, fun h => by cases h⟩

theorem over : Rows.registerStepsRow.holds Try.pinned (OpenSpec.ofChange Rows.registerStepsSpec) :=
  OpenClaim.holds_of_wide 6 Try.f6 rfl rfl rfl rfl rfl rfl rfl ⟨rfl, rfl, rfl, rfl, rfl⟩ rfl rfl rfl rfl rfl (by kernel_rfl) Try.func6 (by kernel_rfl)
    (of_decide_eq_true (by kernel_rfl)) (by unfold Func.isWrapper; first | (rw [if_pos (by decide +kernel)]; kernel_rfl) | (rw [if_neg (by decide +kernel)]; exact ⟨rfl, rfl⟩))
    (fun os started H enc _ => lifted os started H enc)

theorem proved : Rows.RegisterStepsSaid := over
#print axioms proved
end Go.Proofs.Ytljlhaillmeedaa.registerSteps
