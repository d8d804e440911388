/-
  BallotAbove: of whatever was seen, version and nodes, what the program's Next answers is above what was seen, not below the version, never zero, and never what it answers another node; with no ballot it answers the zero one; no condition on the input.
  The frame round the walk is written by the guide's own program for this statement.
-/
import Derived.Test.YtgmeggilojcoeaaZGBD
import Derived.Test.YtgmeggilojcoeaaRows
import Derived.WalkKit
import Derived.ProofKit
import Derived.OpenShut
import Derived.ShutString
import Derived.ChangeOld
import Derived.Below
namespace Go.Proofs.Ytgmeggilojcoeaa.ballotAbove
set_option linter.unusedSimpArgs false
set_option linter.unusedVariables false
open Go.ChangeShapes Go.WideShapes Go.ChangeAt Go.RowKit
open Go.ChangeMaps (open_string shut_string)
set_option linter.unusedVariables false

theorem own : ownKnob Try.prog.godebug = none := by kernel_rfl
theorem laidOut : laidOutB Try.prog = true := by kernel_rfl

/-- WHAT THE WALK IS TOLD OF A SLICE OF INTEGERS THAT CAME IN: it is nil; or it leads to a row of 'cap' cells, the numbers 'zs' (the first 'len' are its elements, the rest its spare room), each fitting its kind. -/
def IsRow (k : IntKind) (w : World) (a : Option Addr) (len cap : Nat) (zs : List Int) : Prop :=
  (a = none ∧ len = 0 ∧ cap = 0 ∧ zs = []) ∨
  ∃ x, a = some x ∧ len ≤ cap ∧ cap ≤ maxLen ∧ zs.length = cap ∧ (∀ i, i < zs.length → w.cell? (x.add i) = some (.int k (zs.getD i 0))) ∧ ∀ n ∈ zs, (Lit.int k n).wf = true

open Rg Bl
set_option maxRecDepth 100000 in
set_option maxHeartbeats 8000000 in
theorem walk (v0 : Value) (v1 : Value) (a2 : Int) (a3 : Int) (a4 : Int) (w : World) (w0 : Bl.BalV w v0) (w1 : Bl.BalV w v1) (w2 : (Lit.int .u64 a2).wf = true) (w3 : (Lit.int .u64 a3).wf = true) (w4 : (Lit.int .u64 a4).wf = true) :
    Calls Try.prog 10 #[v0, v1, .int .u64 a2, .int .u64 a3, .int .u64 a4] w fun e w' => e = .returned (.bool true) ∧ Below w.heap.size w w' := by
  obtain ⟨s, ⟨hs1, hs2⟩, rfl⟩ := w0
  obtain ⟨o, ⟨ho1, ho2⟩, rfl⟩ := w1
  obtain ⟨v, rfl, hv⟩ := u64_of w2
  obtain ⟨d, rfl, hd⟩ := u64_of w3
  obtain ⟨f, rfl, hf⟩ := u64_of w4
  have HN := hid_ (fun (W : World) => next_any s v d W hs1 hv)
  have HM := hid_ (fun (W : World) => next_any o v f W ho1 hv)
  have HA := hid_ (fun W => balive_any W)
  have HY := hid_ (fun h => next_yes (s := s) (v := v) (d := d) h)
  have HZ := hid_ (fun h => next_no (s := s) (v := v) (d := d) h)
  have HYo := hid_ (fun h => (next_yes (s := o) (v := v) (d := f) h).2.2.2)
  have HLs := hid_ (fun (m : BalD) (W : World) => show Calls Try.prog 35 #[.agg #[.int .u64 (s.pos : Nat), .int .u64 (s.id : Nat)], .agg #[.int .u64 (m.pos : Nat), .int .u64 (m.id : Nat)]] W (RetB W.heap.size W (.bool (lessB s m))) from less_any s m W)
  generalize nextD s v d = m at *
  generalize nextK s v d = k at *
  generalize nextD o v f = p at *
  generalize nextK o v f = j at *
  have HB0 := hid_ (((Below.refl w.heap.size w).alloc (Nat.le_refl _) (.cells #[.int .u64 (s.pos : Nat), .int .u64 (s.id : Nat)] 66)).alloc (by simp) (.cells #[.int .u64 (o.pos : Nat), .int .u64 (o.id : Nat)] 66))
  have HS0 := hid_ ((whole_new w 66 #[.int .u64 (s.pos : Nat), .int .u64 (s.id : Nat)]).alloc (.cells #[.int .u64 (o.pos : Nat), .int .u64 (o.id : Nat)] 66))
  have HO0 := hid_ (whole_at (w.alloc (.cells #[.int .u64 (s.pos : Nat), .int .u64 (s.id : Nat)] 66)) (w.heap.size + 1) 66 #[.int .u64 (o.pos : Nat), .int .u64 (o.id : Nat)] (by simp))
  clear hs1 hs2 hv hd ho1 ho2 hf
  by_cases hk : k = 0
  · subst hk
    obtain ⟨hl, hv2, hpos, hid2⟩ := HY.out rfl
    have HL := hid_ hl
    have g1 : decide (m.pos < v) = false := decide_eq_false (by omega)
    have g2 : (m.pos == 0) = false := by rw [beq_eq_false_iff_ne]; omega
    have g3 : (((m.pos : Nat) : Int) == 0) = false := by rw [beq_eq_false_iff_ne]; omega
    have HI := hid_ hid2
    clear hl hv2 hpos hid2 HY HZ
    by_cases hj : j = 0
    · subst hj
      have HIo := hid_ (HYo.out rfl)
      by_cases hdf : d = f
      · subst hdf
        have g4 : (d == d) = true := by simp
        have g5 : ((d : Int) == (d : Int)) = true := by simp
        go_enter Try.func10, Try.ntmps10
        go_wp2_with fail
        (with_reducible refine Calls.mono (HN.out _) ?_)
        rintro e w1 ⟨rfl, hb1⟩
        have HB1 := hid_ (Below.alloc (HB0.out.trans (hb1.mono HB0.out.size)) (HB0.out.trans (hb1.mono HB0.out.size)).size (.cells #[.int .u64 (m.pos : Nat), .int .u64 (m.id : Nat)] 66))
        have HS1 := hid_ ((HS0.out.below hb1 HS0.out.lt).alloc (.cells #[.int .u64 (m.pos : Nat), .int .u64 (m.id : Nat)] 66))
        have HO1 := hid_ ((HO0.out.below hb1 HO0.out.lt).alloc (.cells #[.int .u64 (m.pos : Nat), .int .u64 (m.id : Nat)] 66))
        have HM1 := hid_ (whole_new w1 66 #[.int .u64 (m.pos : Nat), .int .u64 (m.id : Nat)])
        have y0 := HO1.out.cell 0 (.int .u64 (o.pos : Nat)) rfl
        have y1 := HO1.out.cell 1 (.int .u64 (o.id : Nat)) rfl
        clear hb1
        go_wp2_with fail
        (with_reducible refine Calls.mono (HM.out _) ?_)
        rintro e w2 ⟨rfl, hb2⟩
        have HB2 := hid_ (Below.alloc (HB1.out.trans (hb2.mono HB1.out.size)) (HB1.out.trans (hb2.mono HB1.out.size)).size (.cells #[.int .u64 (p.pos : Nat), .int .u64 (p.id : Nat)] 66))
        have HS2 := hid_ ((HS1.out.below hb2 HS1.out.lt).alloc (.cells #[.int .u64 (p.pos : Nat), .int .u64 (p.id : Nat)] 66))
        have HM2 := hid_ ((HM1.out.below hb2 HM1.out.lt).alloc (.cells #[.int .u64 (p.pos : Nat), .int .u64 (p.id : Nat)] 66))
        have HP2 := hid_ (whole_new w2 66 #[.int .u64 (p.pos : Nat), .int .u64 (p.id : Nat)])
        have z0 := HM2.out.cell 0 (.int .u64 (m.pos : Nat)) rfl
        have z1 := HM2.out.cell 1 (.int .u64 (m.id : Nat)) rfl
        have s0 := HS2.out.cell 0 (.int .u64 (s.pos : Nat)) rfl
        have s1 := HS2.out.cell 1 (.int .u64 (s.id : Nat)) rfl
        clear hb2 y0 y1
        go_wp2_with fail
        (with_reducible refine Calls.mono (HLs.out m _) ?_)
        rw [HL.out]
        rintro e w3 ⟨rfl, hb3⟩
        have HB3 := hid_ (HB2.out.trans (hb3.mono HB2.out.size))
        have HM3 := hid_ (HM2.out.below hb3 HM2.out.lt)
        have HP3 := hid_ (HP2.out.below hb3 HP2.out.lt)
        have y0 := HM3.out.cell 0 (.int .u64 (m.pos : Nat)) rfl
        have y1 := HM3.out.cell 1 (.int .u64 (m.id : Nat)) rfl
        have x0 := HP3.out.cell 0 (.int .u64 (p.pos : Nat)) rfl
        have x1 := HP3.out.cell 1 (.int .u64 (p.id : Nat)) rfl
        clear hb3 z0 z1 s0 s1
        go_wp2_with fail
        (with_reducible refine Calls.mono (HA.out _) ?_)
        rintro e wz ⟨rfl, hbz⟩
        have HBz := hid_ (HB3.out.trans (hbz.mono HB3.out.size))
        clear hbz
        go_wp2_with fail
        go_ret
        exact ⟨rfl, HBz.out⟩
      · have g4 : (d == f) = false := by rw [beq_eq_false_iff_ne]; exact hdf
        have g5 : ((d : Int) == (f : Int)) = false := by rw [beq_eq_false_iff_ne]; omega
        have hne : sameB m p = false := by
          rcases hb : sameB m p with _ | _
          · rfl
          · exact absurd (by rw [← HI.out, ← HIo.out, (sameB_iff m p).1 hb]) hdf
        have kn : ∀ w, (binOp .neq 66 (.agg #[.int .u64 (m.pos : Nat), .int .u64 (m.id : Nat)]) (.agg #[.int .u64 (p.pos : Nat), .int .u64 (p.id : Nat)])).run Try.prog w = .ok (.bool true) w := fun w => by have := bal_neq m p w; rw [hne] at this; exact this
        clear hdf hne
        go_enter Try.func10, Try.ntmps10
        go_wp2_with fail
        (with_reducible refine Calls.mono (HN.out _) ?_)
        rintro e w1 ⟨rfl, hb1⟩
        have HB1 := hid_ (Below.alloc (HB0.out.trans (hb1.mono HB0.out.size)) (HB0.out.trans (hb1.mono HB0.out.size)).size (.cells #[.int .u64 (m.pos : Nat), .int .u64 (m.id : Nat)] 66))
        have HS1 := hid_ ((HS0.out.below hb1 HS0.out.lt).alloc (.cells #[.int .u64 (m.pos : Nat), .int .u64 (m.id : Nat)] 66))
        have HO1 := hid_ ((HO0.out.below hb1 HO0.out.lt).alloc (.cells #[.int .u64 (m.pos : Nat), .int .u64 (m.id : Nat)] 66))
        have HM1 := hid_ (whole_new w1 66 #[.int .u64 (m.pos : Nat), .int .u64 (m.id : Nat)])
        have y0 := HO1.out.cell 0 (.int .u64 (o.pos : Nat)) rfl
        have y1 := HO1.out.cell 1 (.int .u64 (o.id : Nat)) rfl
        clear hb1
        go_wp2_with fail
        (with_reducible refine Calls.mono (HM.out _) ?_)
        rintro e w2 ⟨rfl, hb2⟩
        have HB2 := hid_ (Below.alloc (HB1.out.trans (hb2.mono HB1.out.size)) (HB1.out.trans (hb2.mono HB1.out.size)).size (.cells #[.int .u64 (p.pos : Nat), .int .u64 (p.id : Nat)] 66))
        have HS2 := hid_ ((HS1.out.below hb2 HS1.out.lt).alloc (.cells #[.int .u64 (p.pos : Nat), .int .u64 (p.id : Nat)] 66))
        have HM2 := hid_ ((HM1.out.below hb2 HM1.out.lt).alloc (.cells #[.int .u64 (p.pos : Nat), .int .u64 (p.id : Nat)] 66))
        have HP2 := hid_ (whole_new w2 66 #[.int .u64 (p.pos : Nat), .int .u64 (p.id : Nat)])
        have z0 := HM2.out.cell 0 (.int .u64 (m.pos : Nat)) rfl
        have z1 := HM2.out.cell 1 (.int .u64 (m.id : Nat)) rfl
        have s0 := HS2.out.cell 0 (.int .u64 (s.pos : Nat)) rfl
        have s1 := HS2.out.cell 1 (.int .u64 (s.id : Nat)) rfl
        clear hb2 y0 y1
        go_wp2_with fail
        (with_reducible refine Calls.mono (HLs.out m _) ?_)
        rw [HL.out]
        rintro e w3 ⟨rfl, hb3⟩
        have HB3 := hid_ (HB2.out.trans (hb3.mono HB2.out.size))
        have HM3 := hid_ (HM2.out.below hb3 HM2.out.lt)
        have HP3 := hid_ (HP2.out.below hb3 HP2.out.lt)
        have y0 := HM3.out.cell 0 (.int .u64 (m.pos : Nat)) rfl
        have y1 := HM3.out.cell 1 (.int .u64 (m.id : Nat)) rfl
        have x0 := HP3.out.cell 0 (.int .u64 (p.pos : Nat)) rfl
        have x1 := HP3.out.cell 1 (.int .u64 (p.id : Nat)) rfl
        clear hb3 z0 z1 s0 s1
        go_wp2_with fail
        (with_reducible refine Calls.mono (HA.out _) ?_)
        rintro e wz ⟨rfl, hbz⟩
        have HBz := hid_ (HB3.out.trans (hbz.mono HB3.out.size))
        clear hbz
        go_wp2_with fail
        go_ret
        exact ⟨rfl, HBz.out⟩
    · have g4 : (j != 0) = true := by simpa using hj
      clear hj
      go_enter Try.func10, Try.ntmps10
      go_wp2_with fail
      (with_reducible refine Calls.mono (HN.out _) ?_)
      rintro e w1 ⟨rfl, hb1⟩
      have HB1 := hid_ (Below.alloc (HB0.out.trans (hb1.mono HB0.out.size)) (HB0.out.trans (hb1.mono HB0.out.size)).size (.cells #[.int .u64 (m.pos : Nat), .int .u64 (m.id : Nat)] 66))
      have HS1 := hid_ ((HS0.out.below hb1 HS0.out.lt).alloc (.cells #[.int .u64 (m.pos : Nat), .int .u64 (m.id : Nat)] 66))
      have HO1 := hid_ ((HO0.out.below hb1 HO0.out.lt).alloc (.cells #[.int .u64 (m.pos : Nat), .int .u64 (m.id : Nat)] 66))
      have HM1 := hid_ (whole_new w1 66 #[.int .u64 (m.pos : Nat), .int .u64 (m.id : Nat)])
      have y0 := HO1.out.cell 0 (.int .u64 (o.pos : Nat)) rfl
      have y1 := HO1.out.cell 1 (.int .u64 (o.id : Nat)) rfl
      clear hb1
      go_wp2_with fail
      (with_reducible refine Calls.mono (HM.out _) ?_)
      rintro e w2 ⟨rfl, hb2⟩
      have HB2 := hid_ (Below.alloc (HB1.out.trans (hb2.mono HB1.out.size)) (HB1.out.trans (hb2.mono HB1.out.size)).size (.cells #[.int .u64 (p.pos : Nat), .int .u64 (p.id : Nat)] 66))
      have HS2 := hid_ ((HS1.out.below hb2 HS1.out.lt).alloc (.cells #[.int .u64 (p.pos : Nat), .int .u64 (p.id : Nat)] 66))
      have HM2 := hid_ ((HM1.out.below hb2 HM1.out.lt).alloc (.cells #[.int .u64 (p.pos : Nat), .int .u64 (p.id : Nat)] 66))
      have HP2 := hid_ (whole_new w2 66 #[.int .u64 (p.pos : Nat), .int .u64 (p.id : Nat)])
      have z0 := HM2.out.cell 0 (.int .u64 (m.pos : Nat)) rfl
      have z1 := HM2.out.cell 1 (.int .u64 (m.id : Nat)) rfl
      have s0 := HS2.out.cell 0 (.int .u64 (s.pos : Nat)) rfl
      have s1 := HS2.out.cell 1 (.int .u64 (s.id : Nat)) rfl
      clear hb2 y0 y1
      go_wp2_with fail
      (with_reducible refine Calls.mono (HLs.out m _) ?_)
      rw [HL.out]
      rintro e w3 ⟨rfl, hb3⟩
      have HB3 := hid_ (HB2.out.trans (hb3.mono HB2.out.size))
      have HM3 := hid_ (HM2.out.below hb3 HM2.out.lt)
      have HP3 := hid_ (HP2.out.below hb3 HP2.out.lt)
      have y0 := HM3.out.cell 0 (.int .u64 (m.pos : Nat)) rfl
      have y1 := HM3.out.cell 1 (.int .u64 (m.id : Nat)) rfl
      have x0 := HP3.out.cell 0 (.int .u64 (p.pos : Nat)) rfl
      have x1 := HP3.out.cell 1 (.int .u64 (p.id : Nat)) rfl
      clear hb3 z0 z1 s0 s1
      go_wp2_with fail
      (with_reducible refine Calls.mono (HA.out _) ?_)
      rintro e wz ⟨rfl, hbz⟩
      have HBz := hid_ (HB3.out.trans (hbz.mono HB3.out.size))
      clear hbz
      go_wp2_with fail
      go_ret
      exact ⟨rfl, HBz.out⟩
  · obtain rfl := HZ.out hk
    have g4 : (k != 0) = true := by simpa using hk
    have kn : ∀ w, (binOp .eql 66 (.agg #[.int .u64 0, .int .u64 0]) (.agg #[.int .u64 0, .int .u64 0])).run Try.prog w = .ok (.bool true) w := fun w => bal_eql ⟨0, 0⟩ ⟨0, 0⟩ w
    clear HZ HY hk
    go_enter Try.func10, Try.ntmps10
    go_wp2_with fail
    (with_reducible refine Calls.mono (HN.out _) ?_)
    rintro e w1 ⟨rfl, hb1⟩
    have HB1 := hid_ (Below.alloc (HB0.out.trans (hb1.mono HB0.out.size)) (HB0.out.trans (hb1.mono HB0.out.size)).size (.cells #[.int .u64 0, .int .u64 0] 66))
    have HS1 := hid_ ((HS0.out.below hb1 HS0.out.lt).alloc (.cells #[.int .u64 0, .int .u64 0] 66))
    have HO1 := hid_ ((HO0.out.below hb1 HO0.out.lt).alloc (.cells #[.int .u64 0, .int .u64 0] 66))
    have HM1 := hid_ (whole_new w1 66 #[.int .u64 0, .int .u64 0])
    have y0 := HO1.out.cell 0 (.int .u64 (o.pos : Nat)) rfl
    have y1 := HO1.out.cell 1 (.int .u64 (o.id : Nat)) rfl
    clear hb1
    go_wp2_with fail
    (with_reducible refine Calls.mono (HM.out _) ?_)
    rintro e w2 ⟨rfl, hb2⟩
    have HB2 := hid_ (Below.alloc (HB1.out.trans (hb2.mono HB1.out.size)) (HB1.out.trans (hb2.mono HB1.out.size)).size (.cells #[.int .u64 (p.pos : Nat), .int .u64 (p.id : Nat)] 66))
    have HS2 := hid_ ((HS1.out.below hb2 HS1.out.lt).alloc (.cells #[.int .u64 (p.pos : Nat), .int .u64 (p.id : Nat)] 66))
    have HM2 := hid_ ((HM1.out.below hb2 HM1.out.lt).alloc (.cells #[.int .u64 (p.pos : Nat), .int .u64 (p.id : Nat)] 66))
    have HP2 := hid_ (whole_new w2 66 #[.int .u64 (p.pos : Nat), .int .u64 (p.id : Nat)])
    have z0 := HM2.out.cell 0 (.int .u64 0) rfl
    have z1 := HM2.out.cell 1 (.int .u64 0) rfl
    have s0 := HS2.out.cell 0 (.int .u64 (s.pos : Nat)) rfl
    have s1 := HS2.out.cell 1 (.int .u64 (s.id : Nat)) rfl
    clear hb2 y0 y1
    go_wp2_with fail
    (with_reducible refine Calls.mono (HA.out _) ?_)
    rintro e wz ⟨rfl, hbz⟩
    have HBz := hid_ (HB2.out.trans (hbz.mono HB2.out.size))
    clear hbz
    go_wp2_with fail
    go_ret
    exact ⟨rfl, HBz.out⟩

set_option maxRecDepth 100000 in
theorem lifted (os : Os) (started : os.Started) (H : Type) (enc : TypeId × Value → H) :
    ReturnsInHanded {} Try.checked os 10 .any (Rows.ballotAboveSpec.pre6 enc Try.prog Try.f10 Rows.ballotAboveRow.domain false) (Rows.ballotAboveSpec.post enc Try.prog Try.f10 false true false false) := by
  refine returnsInHanded_of_change (C := Try.checked) own started (by kernel_rfl) Try.func10
    (ChangeSpec.witness6 (enc := enc) (C := Try.checked) false ⟨#[], #[(.agg #[.int .u64 0, .int .u64 0]), (.agg #[.int .u64 0, .int .u64 0]), .int .u64 0, .int .u64 0, .int .u64 0], []⟩ 8 (by kernel_rfl) (by kernel_rfl) (by kernel_rfl) (by kernel_rfl)) ?_
  intro W base args ds gs before hval0 hW hcnd _
  have hval : ∀ (j : Nat) t v, Try.f10.params[j]? = some t → args[j]? = some v → Value.okWide Try.prog W .any base t v := hval0
  have hW' := hW
  obtain ⟨p, q, hA0, hV, rfl, hfz, hnd⟩ := hW
  have hA : DataW.TrodAll enc Try.prog W 0 (fun _ => true) true Try.f10.params.toList args.toList ds p := hA0
  rw [Try.params10] at hA hval
  obtain ⟨v0, vs0, d0, ds0, p0, q0, hargs, rfl, rfl, h0, r0⟩ := trodAll_cons hA
  obtain ⟨v1, vs1, d1, ds1, p1, q1, rfl, rfl, rfl, h1, r1⟩ := trodAll_cons r0
  obtain ⟨v2, vs2, d2, ds2, p2, q2, rfl, rfl, rfl, h2, r2⟩ := trodAll_cons r1
  obtain ⟨v3, vs3, d3, ds3, p3, q3, rfl, rfl, rfl, h3, r3⟩ := trodAll_cons r2
  obtain ⟨v4, vs4, d4, ds4, p4, q4, rfl, rfl, rfl, h4, r4⟩ := trodAll_cons r3
  obtain ⟨rfl, rfl, rfl⟩ := trodAll_nil r4
  obtain rfl : args = #[v0, v1, v2, v3, v4] := by cases args; simp_all
  obtain ⟨rfl, rfl⟩ := trodVars_none hV
  have k0 := h0
  have lt0 : ∀ x ∈ p0, x.block < W.heap.size := by obtain ⟨m, hm⟩ := k0; exact DataW.trod_lt m _ _ _ hm
  have w0 : Bl.BalV W v0 := Bl.open_balV (hval 0 66 v0 rfl rfl) h0
  have k1 := h1
  have lt1 : ∀ x ∈ p1, x.block < W.heap.size := by obtain ⟨m, hm⟩ := k1; exact DataW.trod_lt m _ _ _ hm
  have w1 : Bl.BalV W v1 := Bl.open_balV (hval 1 66 v1 rfl rfl) h1
  obtain ⟨a2, rfl, rfl, rfl, w2⟩ := open_int Try.underlying60 (hval 2 60 v2 rfl rfl) h2
  obtain ⟨a3, rfl, rfl, rfl, w3⟩ := open_int Try.underlying60 (hval 3 60 v3 rfl rfl) h3
  obtain ⟨a4, rfl, rfl, rfl, w4⟩ := open_int Try.underlying60 (hval 4 60 v4 rfl rfl) h4
  clear hA0 hval0
  refine (walk v0 v1 a2 a3 a4 W w0 w1 w2 w3 w4).mono fun e W' ⟨he, bel⟩ => ?_
  subst he
  exact ⟨_, rfl, _, _, _, [], _, [], hW', trodAll_mk1 (shut_bool Try.underlying4 _), (trodAll_cons_mk (Below.trod laidOut (by kernel_rfl) (of_decide_eq_true (by kernel_rfl)) k0 bel lt0) (trodAll_cons_mk (Below.trod laidOut (by kernel_rfl) (of_decide_eq_true (by kernel_rfl)) k1 bel lt1) (trodAll_cons_mk (shut_int Try.underlying60 w2) (trodAll_cons_mk (shut_int Try.underlying60 w3) (trodAll_cons_mk (shut_int Try.underlying60 w4) trodAll_mk0))))), rfl, bel.frame _, fun h => by cases h⟩

theorem over : Rows.ballotAboveRow.holds Try.pinned (OpenSpec.ofChange Rows.ballotAboveSpec) :=
  OpenClaim.holds_of_wide 10 Try.f10 rfl rfl rfl rfl rfl rfl rfl ⟨rfl, rfl, rfl, rfl, rfl⟩ rfl rfl rfl rfl rfl (by kernel_rfl) Try.func10 (by kernel_rfl)
    (of_decide_eq_true (by kernel_rfl)) (by unfold Func.isWrapper; first | (rw [if_pos (by decide +kernel)]; kernel_rfl) | (rw [if_neg (by decide +kernel)]; exact ⟨rfl, rfl⟩))
    (fun os started H enc _ => lifted os started H enc)

theorem proved : Rows.BallotAboveSaid := over
#print axioms proved
end Go.Proofs.Ytgmeggilojcoeaa.ballotAbove
