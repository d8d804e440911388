/-
  RegisterAgain: what was asked for twice is done once, and behind a greater ballot the lesser one is refused; no condition on the input.
  The frame round the walk is written by the guide's own program for this statement.
-/
import Derived.Test.YtljlhaillmeedaaZGRN
import Derived.Test.YtljlhaillmeedaaRows
import Derived.WalkKit
import Derived.ProofKit
import Derived.OpenShut
import Derived.ShutString
import Derived.ChangeOld
import Derived.Below
namespace Go.Proofs.Ytljlhaillmeedaa.registerAgain
set_option linter.unusedSimpArgs false
set_option linter.unusedVariables false
open Go.ChangeShapes Go.WideShapes Go.ChangeAt Go.RowKit
open Go.ChangeMaps (open_string shut_string)
set_option linter.unusedVariables false

theorem own : ownKnob Try.prog.godebug = none := by kernel_rfl
theorem laidOut : laidOutB Try.prog = true := by kernel_rfl

/-- WHAT THE WALK IS TOLD OF A SLICE OF INTEGERS THAT CAME IN: it is nil; or it leads to a row of 'cap' cells, the numbers 'zs' (the first 'len' are its elements, the rest its spare room), each fitting its kind. -/
def IsRow (k : IntKind) (w : World) (a : Option Addr) (len cap : Nat) (zs : List Int) : Prop :=
  (a = none ∧ len = 0 ∧ cap = 0 ∧ zs = []) ∨
  ∃ x, a = some x ∧ len ≤ cap ∧ cap ≤ maxLen ∧ zs.length = cap ∧ (∀ i, i < zs.length → w.cell? (x.add i) = some (.int k (zs.getD i 0))) ∧ ∀ n ∈ zs, (Lit.int k n).wf = true

open Rg Bl Re
theorem again_prep (r : RegD) (b : BalD) (h : (!lateB r b) = true) : (!lateB (prepD r b) b) = true ∧ prepD (prepD r b) b = prepD r b := by
  have hl : lateB r b = false := by simpa using h
  have h1 := ((late_iff r b).1 hl).1
  have h2 : lateB ⟨b, r.t, r.v⟩ b = false := (late_iff _ _).2 ⟨h1, less_self b⟩
  rw [prep_yes hl, h2, prep_yes h2]
  exact ⟨rfl, rfl⟩
theorem again_acc (r : RegD) (b : BalD) (v : Int) (h : takesB r b v = true) : takesB (accD r b v) b v = true ∧ accD (accD r b v) b v = accD r b v := by
  obtain ⟨hl, hv, -⟩ := (takes_iff r b v).1 h
  have h1 := ((late_iff r b).1 hl).1
  have h2 : takesB ⟨b, b, v⟩ b v = true := (takes_iff _ _ _).2 ⟨(late_iff _ _).2 ⟨h1, less_self b⟩, hv, fun _ => rfl⟩
  rw [acc_yes h, h2, acc_yes h2]
  exact ⟨rfl, rfl⟩
theorem again_less (r : RegD) (b c : BalD) (v : Int) (h : (!lateB r b) = true) (hc : lessB c b = true) : (!lateB (prepD r b) c) = false ∧ takesB (prepD r b) c v = false := by
  have hl : lateB r b = false := by simpa using h
  have h2 : lateB ⟨b, r.t, r.v⟩ c = true := by unfold lateB; rw [hc]; simp
  rw [prep_yes hl, h2]
  refine ⟨rfl, ?_⟩
  unfold takesB
  rw [h2]
  rfl
set_option maxRecDepth 100000 in
set_option maxHeartbeats 16000000 in
theorem walk (v0 : Value) (v1 : Value) (v2 : Value) (a3 : Int) (w : World) (w0 : Re.RegV w v0) (w1 : Bl.BalV w v1) (w2 : Bl.BalV w v2) (w3 : (Lit.int .i64 a3).wf = true) :
    Calls Try.prog 10 #[v0, v1, v2, .int .i64 a3] w fun e w' => e = .returned (.bool true) ∧ Below w.heap.size w w' := by
  obtain ⟨r, -, rfl⟩ := w0
  obtain ⟨b, -, rfl⟩ := w1
  obtain ⟨c, -, rfl⟩ := w2
  have HPr := hid_ (fun (W : World) => prepare_any r b W)
  have HPr2 := hid_ (fun (W : World) => prepare_any (prepD r b) b W)
  have HPr3 := hid_ (fun (W : World) => prepare_any (prepD r b) c W)
  have HAc := hid_ (fun (W : World) => accept_any r b a3 W)
  have HAc2 := hid_ (fun (W : World) => accept_any (accD r b a3) b a3 W)
  have HAc3 := hid_ (fun (W : World) => accept_any (prepD r b) c a3 W)
  have HOw := hid_ (fun (W : World) => own_any r W)
  have HAl := hid_ (fun (W : World) => regalive_any W)
  have HLs := hid_ (fun (W : World) => rless_any c b W)
  have HI := hid_ (again_prep r b)
  have HK := hid_ (again_acc r b a3)
  have HM := hid_ (again_less r b c a3)
  clear w3
  generalize (!lateB (prepD r b) b) = j at *
  generalize (!lateB (prepD r b) c) = m at *
  generalize takesB (prepD r b) c a3 = n at *
  generalize accD (prepD r b) c a3 = u at *
  generalize prepD (prepD r b) c = t at *
  generalize prepD (prepD r b) b = y at *
  generalize prepD r b = x at *
  generalize (!lateB r b) = i at *
  generalize takesB (accD r b a3) b a3 = l at *
  generalize accD (accD r b a3) b a3 = q at *
  generalize accD r b a3 = p at *
  generalize takesB r b a3 = k at *
  generalize lessB c b = s at *
  have HB0 := hid_ ((((Below.refl w.heap.size w).alloc (Nat.le_refl _) (.cells (regCells r) 53)).alloc (by simp) (.cells #[.int .u64 (b.pos : Nat), .int .u64 (b.id : Nat)] 50)).alloc (by simp; omega) (.cells #[.int .u64 (c.pos : Nat), .int .u64 (c.id : Nat)] 50))
  have HR0 := hid_ (((whole_new w 53 (regCells r)).alloc (.cells #[.int .u64 (b.pos : Nat), .int .u64 (b.id : Nat)] 50)).alloc (.cells #[.int .u64 (c.pos : Nat), .int .u64 (c.id : Nat)] 50))
  have HX0 := hid_ ((whole_at (w.alloc (.cells (regCells r) 53)) (w.heap.size + 1) 50 #[.int .u64 (b.pos : Nat), .int .u64 (b.id : Nat)] (by simp)).alloc (.cells #[.int .u64 (c.pos : Nat), .int .u64 (c.id : Nat)] 50))
  have HY0 := hid_ (whole_at ((w.alloc (.cells (regCells r) 53)).alloc (.cells #[.int .u64 (b.pos : Nat), .int .u64 (b.id : Nat)] 50)) (w.heap.size + 1 + 1) 50 #[.int .u64 (c.pos : Nat), .int .u64 (c.id : Nat)] (by simp))
  go_enter Try.func10, Try.ntmps10
  go_upto_region 1 with (fail)
  generalize ((((w.alloc (.cells #[.int .u64 (r.p.pos : Nat), .int .u64 (r.p.id : Nat), .int .u64 (r.t.pos : Nat), .int .u64 (r.t.id : Nat), .int .i64 r.v] 53)).alloc (.cells #[.int .u64 (b.pos : Nat), .int .u64 (b.id : Nat)] 50)).alloc (.cells #[.int .u64 (c.pos : Nat), .int .u64 (c.id : Nat)] 50))) = wa at *
  go_cut [9, 10] from 21 to 27 (fun v13 v14 wx => KeptR wa 54 x i v13 v14 wx)
  case first =>
    have S0 : RbIn wa w.heap.size r (w.heap.size + 1) b wa := ⟨Below.refl _ _, r5_of HR0.out, b2_of HX0.out⟩
    have HS0 := hid_ S0
    have HBr := hid_ (Below.refl wa.heap.size wa)
    go_region_held3 (RbIn wa w.heap.size r (w.heap.size + 1) b) (first | (with_reducible assumption) | (with_reducible exact rbIn_of HS0.out hbv) | (with_reducible exact rbIn_of HS0.out hbw) | (with_reducible exact rbIn_of HS0.out (below_set5 hbv (Nat.le_refl _) _ _ _ _ _)) | (with_reducible exact rbIn_of HS0.out (below_set5 hbv hgm _ _ _ _ _)) | (with_reducible exact rbIn_of HS0.out (Below.alloc hbv (Below.size hbv) _)) | (with_reducible exact rbIn_of HS0.out (Below.alloc hbw (Below.size hbw) _)) | (with_reducible exact rbIn_of HS0.out (Below.drew (Below.refl _ _))) | (with_reducible exact rbIn_of HS0.out (Below.alloc (Below.drew (Below.refl _ _)) (Nat.le_refl _) _)) | (with_reducible exact rbIn_of HS0.out (Below.drew (Below.alloc (Below.refl _ _) (Nat.le_refl _) _))) | (with_reducible exact rbIn_of HS0.out (Below.alloc (Below.refl _ _) (Nat.le_refl _) _)) | fail)
      (first
        | (go_at_call 26; (with_reducible refine Calls.mono (HOw.out _) ?_); rintro e wo ⟨rfl, hbo⟩; (first | (with_reducible have hbw := chain0 HBr.out hbo) | (with_reducible have hbw := chainD HBr.out hbo) | (with_reducible have hbw := chainA HBr.out hbo; with_reducible have hz1 := whole_past hbo) | (with_reducible have hbw := chainAD HBr.out hbo; with_reducible have hz1 := whole_pastD hbo) | (with_reducible have hbw := chainDA HBr.out hbo; with_reducible have hz1 := whole_past hbo)))
        | (go_at_call 25; (with_reducible refine Calls.mono (HPr.out _) ?_); rintro e wp ⟨rfl, hbp⟩; (first | (with_reducible have hz2 := whole_gone hz1 hbp; with_reducible have hbv := chain0 hbw hbp; have n0 := hz2.cell 0 (.int .u64 0) rfl; have n1 := hz2.cell 1 (.int .u64 0) rfl; have n2 := hz2.cell 2 (.int .u64 0) rfl; have n3 := hz2.cell 3 (.int .u64 0) rfl; have n4 := hz2.cell 4 (.int .i64 0) rfl; have f0 := hz2.free 0; have f1 := hz2.free 1; have f2 := hz2.free 2; have f3 := hz2.free 3; have f4 := hz2.free 4) | (with_reducible have hbv := chain0 hbw hbp) | (with_reducible have hbv := chainA hbw hbp; with_reducible have hz2 := whole_past hbp; have hgm := hbw.size; have n0 := hz2.cell 0 (.int .u64 0) rfl; have n1 := hz2.cell 1 (.int .u64 0) rfl; have n2 := hz2.cell 2 (.int .u64 0) rfl; have n3 := hz2.cell 3 (.int .u64 0) rfl; have n4 := hz2.cell 4 (.int .i64 0) rfl; have f0 := hz2.free 0; have f1 := hz2.free 1; have f2 := hz2.free 2; have f3 := hz2.free 3; have f4 := hz2.free 4; generalize wo.heap.size = gm at *)))
        | fail)
    all_goals
      go_wp2_with fail
      go_meet
      first
        | (with_reducible exact keptR_mk rfl (Below.size hbv) (whole_new _ _ _) (Below.alloc hbv (Below.size hbv) _))
        | (with_reducible exact keptR_mk rfl hgm (whole_set5 hz2 _ _ _ _ _) (below_set5 hbv hgm _ _ _ _ _))
        | (with_reducible exact keptR_mk rfl (Nat.le_refl _) (whole_set5 hz2 _ _ _ _ _) (below_set5 hbv (Nat.le_refl _) _ _ _ _ _))
        | fail
  case rest =>
    obtain ⟨gx, rfl, rfl, hgx, hwx, hb⟩ := hcut
    obtain ⟨w1, rfl⟩ : ∃ w1 : World, w1 = wc := ⟨_, rfl⟩
    have HB1 := hid_ (HB0.out.trans (hb.mono HB0.out.size))
    have HP1 := hid_ hwx
    have HR1 := hid_ (HR0.out.below hb HR0.out.lt)
    have HX1 := hid_ (HX0.out.below hb HX0.out.lt)
    have HY1 := hid_ (HY0.out.below hb HY0.out.lt)
    clear hwx hgx hb
    have y0 := HP1.out.cell 0 (.int .u64 (x.p.pos : Nat)) rfl
    have y1 := HP1.out.cell 1 (.int .u64 (x.p.id : Nat)) rfl
    have y2 := HP1.out.cell 2 (.int .u64 (x.t.pos : Nat)) rfl
    have y3 := HP1.out.cell 3 (.int .u64 (x.t.id : Nat)) rfl
    have y4 := HP1.out.cell 4 (.int .i64 x.v) rfl
    have z0 := HX1.out.cell 0 (.int .u64 (b.pos : Nat)) rfl
    have z1 := HX1.out.cell 1 (.int .u64 (b.id : Nat)) rfl
    go_wp2_with fail
    (with_reducible refine Calls.mono (HPr2.out _) ?_)
    rintro e w2 ⟨rfl, hb⟩
    have HBb := hid_ (HB1.out.trans (hb.mono HB1.out.size))
    have HB2 := hid_ (Below.alloc HBb.out HBb.out.size (.cells #[.int .u64 (y.p.pos : Nat), .int .u64 (y.p.id : Nat), .int .u64 (y.t.pos : Nat), .int .u64 (y.t.id : Nat), .int .i64 y.v] 54))
    have HR2 := hid_ ((HR1.out.below hb HR1.out.lt).alloc (.cells #[.int .u64 (y.p.pos : Nat), .int .u64 (y.p.id : Nat), .int .u64 (y.t.pos : Nat), .int .u64 (y.t.id : Nat), .int .i64 y.v] 54))
    have HX2 := hid_ ((HX1.out.below hb HX1.out.lt).alloc (.cells #[.int .u64 (y.p.pos : Nat), .int .u64 (y.p.id : Nat), .int .u64 (y.t.pos : Nat), .int .u64 (y.t.id : Nat), .int .i64 y.v] 54))
    have HY2 := hid_ ((HY1.out.below hb HY1.out.lt).alloc (.cells #[.int .u64 (y.p.pos : Nat), .int .u64 (y.p.id : Nat), .int .u64 (y.t.pos : Nat), .int .u64 (y.t.id : Nat), .int .i64 y.v] 54))
    have HP2 := hid_ ((HP1.out.below hb HP1.out.lt).alloc (.cells #[.int .u64 (y.p.pos : Nat), .int .u64 (y.p.id : Nat), .int .u64 (y.t.pos : Nat), .int .u64 (y.t.id : Nat), .int .i64 y.v] 54))
    have HQ2 := hid_ (whole_new w2 54 (regCells y))
    clear hb HBb y0 y1 y2 y3 y4 z0 z1
    go_upto_region 3 with (fail)
    generalize w2.heap.size = gy at *
    generalize (w2.alloc (.cells #[.int .u64 (y.p.pos : Nat), .int .u64 (y.p.id : Nat), .int .u64 (y.t.pos : Nat), .int .u64 (y.t.id : Nat), .int .i64 y.v] 54)) = wb at *
    go_cut [13, 14] from 34 to 41 (fun v13 v14 wx => KeptR wb 54 p k v13 v14 wx)
    case first =>
      have S0 : RbIn wb w.heap.size r (w.heap.size + 1) b wb := ⟨Below.refl _ _, r5_of HR2.out, b2_of HX2.out⟩
      have HS0 := hid_ S0
      have HBr := hid_ (Below.refl wb.heap.size wb)
      go_region_held3 (RbIn wb w.heap.size r (w.heap.size + 1) b) (first | (with_reducible assumption) | (with_reducible exact rbIn_of HS0.out hbv) | (with_reducible exact rbIn_of HS0.out hbw) | (with_reducible exact rbIn_of HS0.out (below_set5 hbv (Nat.le_refl _) _ _ _ _ _)) | (with_reducible exact rbIn_of HS0.out (below_set5 hbv hgm _ _ _ _ _)) | (with_reducible exact rbIn_of HS0.out (Below.alloc hbv (Below.size hbv) _)) | (with_reducible exact rbIn_of HS0.out (Below.alloc hbw (Below.size hbw) _)) | (with_reducible exact rbIn_of HS0.out (Below.drew (Below.refl _ _))) | (with_reducible exact rbIn_of HS0.out (Below.alloc (Below.drew (Below.refl _ _)) (Nat.le_refl _) _)) | (with_reducible exact rbIn_of HS0.out (Below.drew (Below.alloc (Below.refl _ _) (Nat.le_refl _) _))) | (with_reducible exact rbIn_of HS0.out (Below.alloc (Below.refl _ _) (Nat.le_refl _) _)) | fail)
        (first
          | (go_at_call 26; (with_reducible refine Calls.mono (HOw.out _) ?_); rintro e wo ⟨rfl, hbo⟩; (first | (with_reducible have hbw := chain0 HBr.out hbo) | (with_reducible have hbw := chainD HBr.out hbo) | (with_reducible have hbw := chainA HBr.out hbo; with_reducible have hz1 := whole_past hbo) | (with_reducible have hbw := chainAD HBr.out hbo; with_reducible have hz1 := whole_pastD hbo) | (with_reducible have hbw := chainDA HBr.out hbo; with_reducible have hz1 := whole_past hbo)))
          | (go_at_call 28; (with_reducible refine Calls.mono (HAc.out _) ?_); rintro e wp ⟨rfl, hbp⟩; (first | (with_reducible have hz2 := whole_gone hz1 hbp; with_reducible have hbv := chain0 hbw hbp; have n0 := hz2.cell 0 (.int .u64 0) rfl; have n1 := hz2.cell 1 (.int .u64 0) rfl; have n2 := hz2.cell 2 (.int .u64 0) rfl; have n3 := hz2.cell 3 (.int .u64 0) rfl; have n4 := hz2.cell 4 (.int .i64 0) rfl; have f0 := hz2.free 0; have f1 := hz2.free 1; have f2 := hz2.free 2; have f3 := hz2.free 3; have f4 := hz2.free 4) | (with_reducible have hbv := chain0 hbw hbp) | (with_reducible have hbv := chainA hbw hbp; with_reducible have hz2 := whole_past hbp; have hgm := hbw.size; have n0 := hz2.cell 0 (.int .u64 0) rfl; have n1 := hz2.cell 1 (.int .u64 0) rfl; have n2 := hz2.cell 2 (.int .u64 0) rfl; have n3 := hz2.cell 3 (.int .u64 0) rfl; have n4 := hz2.cell 4 (.int .i64 0) rfl; have f0 := hz2.free 0; have f1 := hz2.free 1; have f2 := hz2.free 2; have f3 := hz2.free 3; have f4 := hz2.free 4; generalize wo.heap.size = gm at *)))
          | fail)
      all_goals
        go_wp2_with fail
        go_meet
        first
          | (with_reducible exact keptR_mk rfl (Below.size hbv) (whole_new _ _ _) (Below.alloc hbv (Below.size hbv) _))
          | (with_reducible exact keptR_mk rfl hgm (whole_set5 hz2 _ _ _ _ _) (below_set5 hbv hgm _ _ _ _ _))
          | (with_reducible exact keptR_mk rfl (Nat.le_refl _) (whole_set5 hz2 _ _ _ _ _) (below_set5 hbv (Nat.le_refl _) _ _ _ _ _))
          | fail
    case rest =>
      obtain ⟨gp, rfl, rfl, hgp, hwx, hb⟩ := hcut
      obtain ⟨w3, rfl⟩ : ∃ w3 : World, w3 = wc := ⟨_, rfl⟩
      have HB3 := hid_ (HB2.out.trans (hb.mono HB2.out.size))
      have HU3 := hid_ hwx
      have HR3 := hid_ (HR2.out.below hb HR2.out.lt)
      have HX3 := hid_ (HX2.out.below hb HX2.out.lt)
      have HY3 := hid_ (HY2.out.below hb HY2.out.lt)
      have HP3 := hid_ (HP2.out.below hb HP2.out.lt)
      have HQ3 := hid_ (HQ2.out.below hb HQ2.out.lt)
      clear hwx hgp hb
      have y0 := HU3.out.cell 0 (.int .u64 (p.p.pos : Nat)) rfl
      have y1 := HU3.out.cell 1 (.int .u64 (p.p.id : Nat)) rfl
      have y2 := HU3.out.cell 2 (.int .u64 (p.t.pos : Nat)) rfl
      have y3 := HU3.out.cell 3 (.int .u64 (p.t.id : Nat)) rfl
      have y4 := HU3.out.cell 4 (.int .i64 p.v) rfl
      have z0 := HX3.out.cell 0 (.int .u64 (b.pos : Nat)) rfl
      have z1 := HX3.out.cell 1 (.int .u64 (b.id : Nat)) rfl
      go_wp2_with fail
      (with_reducible refine Calls.mono (HAc2.out _) ?_)
      rintro e w4 ⟨rfl, hb⟩
      have HBb := hid_ (HB3.out.trans (hb.mono HB3.out.size))
      have HB4 := hid_ (Below.alloc HBb.out HBb.out.size (.cells #[.int .u64 (q.p.pos : Nat), .int .u64 (q.p.id : Nat), .int .u64 (q.t.pos : Nat), .int .u64 (q.t.id : Nat), .int .i64 q.v] 54))
      have HX4 := hid_ ((HX3.out.below hb HX3.out.lt).alloc (.cells #[.int .u64 (q.p.pos : Nat), .int .u64 (q.p.id : Nat), .int .u64 (q.t.pos : Nat), .int .u64 (q.t.id : Nat), .int .i64 q.v] 54))
      have HY4 := hid_ ((HY3.out.below hb HY3.out.lt).alloc (.cells #[.int .u64 (q.p.pos : Nat), .int .u64 (q.p.id : Nat), .int .u64 (q.t.pos : Nat), .int .u64 (q.t.id : Nat), .int .i64 q.v] 54))
      have HP4 := hid_ ((HP3.out.below hb HP3.out.lt).alloc (.cells #[.int .u64 (q.p.pos : Nat), .int .u64 (q.p.id : Nat), .int .u64 (q.t.pos : Nat), .int .u64 (q.t.id : Nat), .int .i64 q.v] 54))
      have HQ4 := hid_ ((HQ3.out.below hb HQ3.out.lt).alloc (.cells #[.int .u64 (q.p.pos : Nat), .int .u64 (q.p.id : Nat), .int .u64 (q.t.pos : Nat), .int .u64 (q.t.id : Nat), .int .i64 q.v] 54))
      have HU4 := hid_ ((HU3.out.below hb HU3.out.lt).alloc (.cells #[.int .u64 (q.p.pos : Nat), .int .u64 (q.p.id : Nat), .int .u64 (q.t.pos : Nat), .int .u64 (q.t.id : Nat), .int .i64 q.v] 54))
      have HV4 := hid_ (whole_new w4 54 (regCells q))
      clear hb HBb y0 y1 y2 y3 y4 z0 z1
      go_upto_region 5 with (fail)
      generalize w4.heap.size = gv at *
      generalize (w4.alloc (.cells #[.int .u64 (q.p.pos : Nat), .int .u64 (q.p.id : Nat), .int .u64 (q.t.pos : Nat), .int .u64 (q.t.id : Nat), .int .i64 q.v] 54)) = we at *
      have y0 := HP4.out.cell 0 (.int .u64 (x.p.pos : Nat)) rfl
      have y1 := HP4.out.cell 1 (.int .u64 (x.p.id : Nat)) rfl
      have y2 := HP4.out.cell 2 (.int .u64 (x.t.pos : Nat)) rfl
      have y3 := HP4.out.cell 3 (.int .u64 (x.t.id : Nat)) rfl
      have y4 := HP4.out.cell 4 (.int .i64 x.v) rfl
      have u0 := HQ4.out.cell 0 (.int .u64 (y.p.pos : Nat)) rfl
      have u1 := HQ4.out.cell 1 (.int .u64 (y.p.id : Nat)) rfl
      have u2 := HQ4.out.cell 2 (.int .u64 (y.t.pos : Nat)) rfl
      have u3 := HQ4.out.cell 3 (.int .u64 (y.t.id : Nat)) rfl
      have u4 := HQ4.out.cell 4 (.int .i64 y.v) rfl
      have v0 := HU4.out.cell 0 (.int .u64 (p.p.pos : Nat)) rfl
      have v1 := HU4.out.cell 1 (.int .u64 (p.p.id : Nat)) rfl
      have v2 := HU4.out.cell 2 (.int .u64 (p.t.pos : Nat)) rfl
      have v3 := HU4.out.cell 3 (.int .u64 (p.t.id : Nat)) rfl
      have v4 := HU4.out.cell 4 (.int .i64 p.v) rfl
      have t0 := HV4.out.cell 0 (.int .u64 (q.p.pos : Nat)) rfl
      have t1 := HV4.out.cell 1 (.int .u64 (q.p.id : Nat)) rfl
      have t2 := HV4.out.cell 2 (.int .u64 (q.t.pos : Nat)) rfl
      have t3 := HV4.out.cell 3 (.int .u64 (q.t.id : Nat)) rfl
      have t4 := HV4.out.cell 4 (.int .i64 q.v) rfl
      have z0 := HX4.out.cell 0 (.int .u64 (b.pos : Nat)) rfl
      have z1 := HX4.out.cell 1 (.int .u64 (b.id : Nat)) rfl
      have e0 := HY4.out.cell 0 (.int .u64 (c.pos : Nat)) rfl
      have e1 := HY4.out.cell 1 (.int .u64 (c.id : Nat)) rfl
      cases i
      · skip
        cases k
        · skip
          go_wp2_with fail
          (with_reducible refine Calls.mono (HAl.out _) ?_)
          rintro e wz ⟨rfl, hbz⟩
          have HBz := hid_ (HB4.out.trans (hbz.mono HB4.out.size))
          clear hbz
          go_wp2_with fail
          go_ret
          exact ⟨rfl, HBz.out⟩
        · obtain ⟨rfl, rfl⟩ := HK.out rfl
          clear HK
          have knq : ∀ w, (binOp .neq 54 (.agg (regCells q)) (.agg (regCells q))).run Try.prog w = .ok (.bool false) w := fun w => by have := reg_neq q q w; rwa [sameR_self] at this
          go_wp2_with fail
          (with_reducible refine Calls.mono (HAl.out _) ?_)
          rintro e wz ⟨rfl, hbz⟩
          have HBz := hid_ (HB4.out.trans (hbz.mono HB4.out.size))
          clear hbz
          go_wp2_with fail
          go_ret
          exact ⟨rfl, HBz.out⟩
      · obtain ⟨rfl, rfl⟩ := HI.out rfl
        clear HI
        have knx : ∀ w, (binOp .neq 54 (.agg (regCells y)) (.agg (regCells y))).run Try.prog w = .ok (.bool false) w := fun w => by have := reg_neq y y w; rwa [sameR_self] at this
        cases k
        · skip
          go_wp2_with fail
          (with_reducible refine Calls.mono (HLs.out _) ?_)
          rintro e w5 ⟨rfl, hb⟩
          have HB5 := hid_ (HB4.out.trans (hb.mono HB4.out.size))
          have HX5 := hid_ (HX4.out.below hb HX4.out.lt)
          have HY5 := hid_ (HY4.out.below hb HY4.out.lt)
          have HP5 := hid_ (HP4.out.below hb HP4.out.lt)
          clear hb y0 y1 y2 y3 y4 u0 u1 u2 u3 u4 v0 v1 v2 v3 v4 t0 t1 t2 t3 t4 z0 z1 e0 e1
          cases s
          · go_wp2_with fail
            (with_reducible refine Calls.mono (HAl.out _) ?_)
            rintro e wz ⟨rfl, hbz⟩
            have HBz := hid_ (HB5.out.trans (hbz.mono HB5.out.size))
            clear hbz
            go_wp2_with fail
            go_ret
            exact ⟨rfl, HBz.out⟩
          · obtain ⟨rfl, rfl⟩ := HM.out (by simp) (by simp)
            clear HM
            have y0 := HP5.out.cell 0 (.int .u64 (y.p.pos : Nat)) rfl
            have y1 := HP5.out.cell 1 (.int .u64 (y.p.id : Nat)) rfl
            have y2 := HP5.out.cell 2 (.int .u64 (y.t.pos : Nat)) rfl
            have y3 := HP5.out.cell 3 (.int .u64 (y.t.id : Nat)) rfl
            have y4 := HP5.out.cell 4 (.int .i64 y.v) rfl
            have e0 := HY5.out.cell 0 (.int .u64 (c.pos : Nat)) rfl
            have e1 := HY5.out.cell 1 (.int .u64 (c.id : Nat)) rfl
            go_wp2_with fail
            (with_reducible refine Calls.mono (HPr3.out _) ?_)
            rintro e w6 ⟨rfl, hb⟩
            have HBb := hid_ (HB5.out.trans (hb.mono HB5.out.size))
            have HB6 := hid_ (Below.alloc HBb.out HBb.out.size (.cells #[.int .u64 (t.p.pos : Nat), .int .u64 (t.p.id : Nat), .int .u64 (t.t.pos : Nat), .int .u64 (t.t.id : Nat), .int .i64 t.v] 54))
            have HY6 := hid_ ((HY5.out.below hb HY5.out.lt).alloc (.cells #[.int .u64 (t.p.pos : Nat), .int .u64 (t.p.id : Nat), .int .u64 (t.t.pos : Nat), .int .u64 (t.t.id : Nat), .int .i64 t.v] 54))
            have HP6 := hid_ ((HP5.out.below hb HP5.out.lt).alloc (.cells #[.int .u64 (t.p.pos : Nat), .int .u64 (t.p.id : Nat), .int .u64 (t.t.pos : Nat), .int .u64 (t.t.id : Nat), .int .i64 t.v] 54))
            clear hb HBb y0 y1 y2 y3 y4 e0 e1
            have y0 := HP6.out.cell 0 (.int .u64 (y.p.pos : Nat)) rfl
            have y1 := HP6.out.cell 1 (.int .u64 (y.p.id : Nat)) rfl
            have y2 := HP6.out.cell 2 (.int .u64 (y.t.pos : Nat)) rfl
            have y3 := HP6.out.cell 3 (.int .u64 (y.t.id : Nat)) rfl
            have y4 := HP6.out.cell 4 (.int .i64 y.v) rfl
            have e0 := HY6.out.cell 0 (.int .u64 (c.pos : Nat)) rfl
            have e1 := HY6.out.cell 1 (.int .u64 (c.id : Nat)) rfl
            go_wp2_with fail
            (with_reducible refine Calls.mono (HAc3.out _) ?_)
            rintro e w7 ⟨rfl, hb⟩
            have HBb := hid_ (HB6.out.trans (hb.mono HB6.out.size))
            have HB7 := hid_ (Below.alloc HBb.out HBb.out.size (.cells #[.int .u64 (u.p.pos : Nat), .int .u64 (u.p.id : Nat), .int .u64 (u.t.pos : Nat), .int .u64 (u.t.id : Nat), .int .i64 u.v] 54))
            clear hb HBb
            go_wp2_with fail
            (with_reducible refine Calls.mono (HAl.out _) ?_)
            rintro e wz ⟨rfl, hbz⟩
            have HBz := hid_ (HB7.out.trans (hbz.mono HB7.out.size))
            clear hbz
            go_wp2_with fail
            go_ret
            exact ⟨rfl, HBz.out⟩
        · obtain ⟨rfl, rfl⟩ := HK.out rfl
          clear HK
          have knq : ∀ w, (binOp .neq 54 (.agg (regCells q)) (.agg (regCells q))).run Try.prog w = .ok (.bool false) w := fun w => by have := reg_neq q q w; rwa [sameR_self] at this
          go_wp2_with fail
          (with_reducible refine Calls.mono (HLs.out _) ?_)
          rintro e w5 ⟨rfl, hb⟩
          have HB5 := hid_ (HB4.out.trans (hb.mono HB4.out.size))
          have HX5 := hid_ (HX4.out.below hb HX4.out.lt)
          have HY5 := hid_ (HY4.out.below hb HY4.out.lt)
          have HP5 := hid_ (HP4.out.below hb HP4.out.lt)
          clear hb y0 y1 y2 y3 y4 u0 u1 u2 u3 u4 v0 v1 v2 v3 v4 t0 t1 t2 t3 t4 z0 z1 e0 e1
          cases s
          · go_wp2_with fail
            (with_reducible refine Calls.mono (HAl.out _) ?_)
            rintro e wz ⟨rfl, hbz⟩
            have HBz := hid_ (HB5.out.trans (hbz.mono HB5.out.size))
            clear hbz
            go_wp2_with fail
            go_ret
            exact ⟨rfl, HBz.out⟩
          · obtain ⟨rfl, rfl⟩ := HM.out (by simp) (by simp)
            clear HM
            have y0 := HP5.out.cell 0 (.int .u64 (y.p.pos : Nat)) rfl
            have y1 := HP5.out.cell 1 (.int .u64 (y.p.id : Nat)) rfl
            have y2 := HP5.out.cell 2 (.int .u64 (y.t.pos : Nat)) rfl
            have y3 := HP5.out.cell 3 (.int .u64 (y.t.id : Nat)) rfl
            have y4 := HP5.out.cell 4 (.int .i64 y.v) rfl
            have e0 := HY5.out.cell 0 (.int .u64 (c.pos : Nat)) rfl
            have e1 := HY5.out.cell 1 (.int .u64 (c.id : Nat)) rfl
            go_wp2_with fail
            (with_reducible refine Calls.mono (HPr3.out _) ?_)
            rintro e w6 ⟨rfl, hb⟩
            have HBb := hid_ (HB5.out.trans (hb.mono HB5.out.size))
            have HB6 := hid_ (Below.alloc HBb.out HBb.out.size (.cells #[.int .u64 (t.p.pos : Nat), .int .u64 (t.p.id : Nat), .int .u64 (t.t.pos : Nat), .int .u64 (t.t.id : Nat), .int .i64 t.v] 54))
            have HY6 := hid_ ((HY5.out.below hb HY5.out.lt).alloc (.cells #[.int .u64 (t.p.pos : Nat), .int .u64 (t.p.id : Nat), .int .u64 (t.t.pos : Nat), .int .u64 (t.t.id : Nat), .int .i64 t.v] 54))
            have HP6 := hid_ ((HP5.out.below hb HP5.out.lt).alloc (.cells #[.int .u64 (t.p.pos : Nat), .int .u64 (t.p.id : Nat), .int .u64 (t.t.pos : Nat), .int .u64 (t.t.id : Nat), .int .i64 t.v] 54))
            clear hb HBb y0 y1 y2 y3 y4 e0 e1
            have y0 := HP6.out.cell 0 (.int .u64 (y.p.pos : Nat)) rfl
            have y1 := HP6.out.cell 1 (.int .u64 (y.p.id : Nat)) rfl
            have y2 := HP6.out.cell 2 (.int .u64 (y.t.pos : Nat)) rfl
            have y3 := HP6.out.cell 3 (.int .u64 (y.t.id : Nat)) rfl
            have y4 := HP6.out.cell 4 (.int .i64 y.v) rfl
            have e0 := HY6.out.cell 0 (.int .u64 (c.pos : Nat)) rfl
            have e1 := HY6.out.cell 1 (.int .u64 (c.id : Nat)) rfl
            go_wp2_with fail
            (with_reducible refine Calls.mono (HAc3.out _) ?_)
            rintro e w7 ⟨rfl, hb⟩
            have HBb := hid_ (HB6.out.trans (hb.mono HB6.out.size))
            have HB7 := hid_ (Below.alloc HBb.out HBb.out.size (.cells #[.int .u64 (u.p.pos : Nat), .int .u64 (u.p.id : Nat), .int .u64 (u.t.pos : Nat), .int .u64 (u.t.id : Nat), .int .i64 u.v] 54))
            clear hb HBb
            go_wp2_with fail
            (with_reducible refine Calls.mono (HAl.out _) ?_)
            rintro e wz ⟨rfl, hbz⟩
            have HBz := hid_ (HB7.out.trans (hbz.mono HB7.out.size))
            clear hbz
            go_wp2_with fail
            go_ret
            exact ⟨rfl, HBz.out⟩

set_option maxRecDepth 100000 in
theorem lifted (os : Os) (started : os.Started) (H : Type) (enc : TypeId × Value → H) :
    ReturnsInHanded {} Try.checked os 10 .any (Rows.registerAgainSpec.pre6 enc Try.prog Try.f10 Rows.registerAgainRow.domain false) (Rows.registerAgainSpec.post enc Try.prog Try.f10 false true false false) := by
  refine returnsInHanded_of_change (C := Try.checked) own started (by kernel_rfl) Try.func10
    (ChangeSpec.witness6 (enc := enc) (C := Try.checked) false ⟨#[], #[(.agg #[.int .u64 0, .int .u64 0, .int .u64 0, .int .u64 0, .int .i64 0]), (.agg #[.int .u64 0, .int .u64 0]), (.agg #[.int .u64 0, .int .u64 0]), .int .i64 0], []⟩ 8 (by kernel_rfl) (by kernel_rfl) (by kernel_rfl) (by kernel_rfl)) ?_
  intro W base args ds gs before hval0 hW hcnd _
  have hval : ∀ (j : Nat) t v, Try.f10.params[j]? = some t → args[j]? = some v → Value.okWide Try.prog W .any base t v := hval0
  have hW' := hW
  obtain ⟨p, q, hA0, hV, rfl, hfz, hnd⟩ := hW
  have hA : DataW.TrodAll enc Try.prog W 0 (fun _ => true) true Try.f10.params.toList args.toList ds p := hA0
  rw [Try.params10] at hA hval
  obtain ⟨v0, vs0, d0, ds0, p0, q0, hargs, rfl, rfl, h0, r0⟩ := trodAll_cons hA
  obtain ⟨v1, vs1, d1, ds1, p1, q1, rfl, rfl, rfl, h1, r1⟩ := trodAll_cons r0
  obtain ⟨v2, vs2, d2, ds2, p2, q2, rfl, rfl, rfl, h2, r2⟩ := trodAll_cons r1
  obtain ⟨v3, vs3, d3, ds3, p3, q3, rfl, rfl, rfl, h3, r3⟩ := trodAll_cons r2
  obtain ⟨rfl, rfl, rfl⟩ := trodAll_nil r3
  obtain rfl : args = #[v0, v1, v2, v3] := by cases args; simp_all
  obtain ⟨rfl, rfl⟩ := trodVars_none hV
  have k0 := h0
  have lt0 : ∀ x ∈ p0, x.block < W.heap.size := by obtain ⟨m, hm⟩ := k0; exact DataW.trod_lt m _ _ _ hm
  have w0 : Re.RegV W v0 := Re.open_regV (hval 0 53 v0 rfl rfl) h0
  have k1 := h1
  have lt1 : ∀ x ∈ p1, x.block < W.heap.size := by obtain ⟨m, hm⟩ := k1; exact DataW.trod_lt m _ _ _ hm
  have w1 : Bl.BalV W v1 := Bl.open_balV (hval 1 50 v1 rfl rfl) h1
  have k2 := h2
  have lt2 : ∀ x ∈ p2, x.block < W.heap.size := by obtain ⟨m, hm⟩ := k2; exact DataW.trod_lt m _ _ _ hm
  have w2 : Bl.BalV W v2 := Bl.open_balV (hval 2 50 v2 rfl rfl) h2
  obtain ⟨a3, rfl, rfl, rfl, w3⟩ := open_int Try.underlying51 (hval 3 51 v3 rfl rfl) h3
  clear hA0 hval0
  refine (walk v0 v1 v2 a3 W w0 w1 w2 w3).mono fun e W' ⟨he, bel⟩ => ?_
  subst he
  exact ⟨_, rfl, _, _, _, [], _, [], hW', trodAll_mk1 (shut_bool Try.underlying4 _), (trodAll_cons_mk (Below.trod laidOut (by kernel_rfl) (of_decide_eq_true (by kernel_rfl)) k0 bel lt0) (trodAll_cons_mk (Below.trod laidOut (by kernel_rfl) (of_decide_eq_true (by kernel_rfl)) k1 bel lt1) (trodAll_cons_mk (Below.trod laidOut (by kernel_rfl) (of_decide_eq_true (by kernel_rfl)) k2 bel lt2) (trodAll_cons_mk (shut_int Try.underlying51 w3) trodAll_mk0)))), rfl, bel.frame _, fun h => by cases h⟩

theorem over : Rows.registerAgainRow.holds Try.pinned (OpenSpec.ofChange Rows.registerAgainSpec) :=
  OpenClaim.holds_of_wide 10 Try.f10 rfl rfl rfl rfl rfl rfl rfl ⟨rfl, rfl, rfl, rfl, rfl⟩ rfl rfl rfl rfl rfl (by kernel_rfl) Try.func10 (by kernel_rfl)
    (of_decide_eq_true (by kernel_rfl)) (by unfold Func.isWrapper; first | (rw [if_pos (by decide +kernel)]; kernel_rfl) | (rw [if_neg (by decide +kernel)]; exact ⟨rfl, rfl⟩))
    (fun os started H enc _ => lifted os started H enc)

theorem proved : Rows.RegisterAgainSaid := over
#print axioms proved
end Go.Proofs.Ytljlhaillmeedaa.registerAgain
