/-
  GossipLeaves: a node that has left is Gone in its view whatever it hears of others and whenever it ticks, and in the view of the other node that is told its view, if that has room; of other input only the chapter's example is asked; no condition on the input.
  The frame round the walk is written by the guide's own program for this statement.
-/
import Derived.Test.YtcmoelphjdehaaaZGG4
import Derived.Test.YtcmoelphjdehaaaRows
import Derived.WalkKit
import Derived.ProofKit
import Derived.OpenShut
import Derived.ShutString
import Derived.ChangeOld
import Derived.Below
namespace Go.Proofs.Ytcmoelphjdehaaa.gossipLeaves
set_option linter.unusedSimpArgs false
set_option linter.unusedVariables false
open Go.ChangeShapes Go.WideShapes Go.ChangeAt Go.RowKit
open Go.ChangeMaps (open_string shut_string)
set_option linter.unusedVariables false

theorem own : ownKnob Try.prog.godebug = none := by kernel_rfl
theorem laidOut : laidOutB Try.prog = true := by kernel_rfl

/-- WHAT THE WALK IS TOLD OF A SLICE OF INTEGERS THAT CAME IN: it is nil; or it leads to a row of 'cap' cells, the numbers 'zs' (the first 'len' are its elements, the rest its spare room), each fitting its kind. -/
def IsRow (k : IntKind) (w : World) (a : Option Addr) (len cap : Nat) (zs : List Int) : Prop :=
  (a = none ∧ len = 0 ∧ cap = 0 ∧ zs = []) ∨
  ∃ x, a = some x ∧ len ≤ cap ∧ cap ≤ maxLen ∧ zs.length = cap ∧ (∀ i, i < zs.length → w.cell? (x.add i) = some (.int k (zs.getD i 0))) ∧ ∀ n ∈ zs, (Lit.int k n).wf = true

open Ru Vw Gs Go.Sort
set_option maxRecDepth 100000 in
set_option maxHeartbeats 40000000 in
theorem walk (a0 : Int) (v1 : Value) (w : World) (w0 : (Lit.int .u64 a0).wf = true) (w1 : Gs.OpsV w v1) :
    Calls Try.prog 13 #[.int .u64 a0, v1] w fun e w' => e = .returned (.bool true) ∧ Below w.heap.size w w' := by
  obtain ⟨inc, rfl, hs1⟩ := num_of w0
  obtain ⟨A, n, c, l, rfl, hops, hwo⟩ := w1
  have hn := hops.len
  have hcm := Nat.le_trans hops.cap hops.max
  have HA := hid_ (fun W => alive_any W)
  have HLt := hid_ (fun (W : World) (hb : Below w.heap.size w W) => light_any A n c l W (hops.below hb))
  have HOps := hid_ hops
  have HWo := hid_ hwo
  have HNw := hid_ (show Calls Try.prog 39 #[.int .u64 1, .int .u64 (inc : Nat), .int .u64 5, .int .u64 10, .int .u64 0] w (NewPost w 1 inc 5 10 0) from new_any 1 inc 5 10 0 w (by omega) hs1 (by omega))
  have HNm := hid_ (fun W => show Calls Try.prog 39 #[.int .u64 2, .int .u64 1, .int .u64 5, .int .u64 10, .int .u64 0] W (NewPost W 2 1 5 10 0) from new_any 2 1 5 10 0 W (by omega) (by omega) (by omega))
  have HLen := hid_ hn
  clear hops hwo hs1 hn
  go_enter Try.func13, Try.ntmps13
  go_wp2_with fail
  refine Calls.mono HNw.out ?_
  rintro e w1 h1
  rcases h1 with ⟨h1, rfl, rfl⟩ | ⟨h1, g, Q, rfl, hnd, hown, hb⟩
  · clear h1
    go_wp2_with fail
    refine Calls.mono (HNm.out _) ?_
    rintro e w2 h2
    rcases h2 with ⟨h2, -, -⟩ | ⟨-, g2, Q2, rfl, hnd2, hown2, hb2⟩
    · exact absurd h2 (by decide)
    have HL1 := hid_ (HLt.out w2 hb2)
    have HB2 := hid_ hb2
    clear hnd2 hown2 hb2 HLt
    generalize lightF l = lt at *
    go_wp2_with fail
    refine Calls.mono HL1.out ?_
    rintro e w1 ⟨rfl, rfl⟩
    cases lt
    · skip
      go_wp2_with fail
      refine Calls.mono (HA.out _) ?_
      rintro e wz ⟨rfl, hbz⟩
      have HBz := hid_ (HB2.out.trans (hbz.mono HB2.out.size))
      clear hbz
      go_wp2_with fail
      go_ret
      exact ⟨rfl, HBz.out⟩
    · skip
      go_wp2_with fail
      refine Calls.mono (HA.out _) ?_
      rintro e wz ⟨rfl, hbz⟩
      have HBz := hid_ (HB2.out.trans (hbz.mono HB2.out.size))
      clear hbz
      go_wp2_with fail
      go_ret
      exact ⟨rfl, HBz.out⟩
  have HN := hid_ (show NdB w.heap.size w w1 g Q (newD 1 inc 5 10 0) from ⟨hnd, hb, hown, Nat.le_refl _⟩)
  clear hnd hown hb h1 HNw
  go_wp2_with fail
  refine Calls.mono (HNm.out _) ?_
  rintro e w2 h2
  rcases h2 with ⟨h2, -, -⟩ | ⟨-, g2, Q2, rfl, hnd2, hown2, hb2⟩
  · exact absurd h2 (by decide)
  have HN2 := hid_ (HN.out.later hb2)
  have HM2 := hid_ (show NdB w.heap.size w w2 g2 Q2 (newD 2 1 5 10 0) from ⟨hnd2, HN2.out.below, fun q hq => Nat.le_trans HN.out.below.size (hown2 q hq), Nat.le_refl _⟩)
  have HD2 : Hid (∀ q, Q q → ¬ Q2 q) := hid_ (fun q hq hq2 => by have := HN.out.nd.qlt q hq; have := hown2 q hq2; omega)
  have HL1 := hid_ (HLt.out w2 HN2.out.below)
  have HLf := hid_ (fun h => light_facts (l := l) h)
  clear hnd2 hown2 hb2 HLt HNm HN
  generalize lightF l = lt at *
  go_wp2_with fail
  refine Calls.mono HL1.out ?_
  rintro e w1' ⟨rfl, rfl⟩
  cases lt
  · skip
    go_wp2_with fail
    refine Calls.mono (HA.out _) ?_
    rintro e wz ⟨rfl, hbz⟩
    have HBz := hid_ (HN2.out.below.trans (hbz.mono HN2.out.below.size))
    clear hbz
    go_wp2_with fail
    go_ret
    exact ⟨rfl, HBz.out⟩
  have HLi := hid_ (HLf.out rfl)
  clear HLf HL1
  by_cases hbig : 1099511627776 < inc
  · have e1 : decide (inc > 1099511627776) = true := decide_eq_true hbig
    have e2 : decide ((1099511627776 : Int) < (inc : Int)) = true := decide_eq_true (by omega)
    have e3 : decide (1099511627776 < inc) = true := decide_eq_true hbig
    clear hbig
    go_wp2_with fail
    refine Calls.mono (HA.out _) ?_
    rintro e wz ⟨rfl, hbz⟩
    have HBz := hid_ (HN2.out.below.trans (hbz.mono HN2.out.below.size))
    clear hbz
    go_wp2_with fail
    go_ret
    exact ⟨rfl, HBz.out⟩
  have e1 : decide (inc > 1099511627776) = false := decide_eq_false hbig
  have e2 : decide ((1099511627776 : Int) < (inc : Int)) = false := decide_eq_false (by omega)
  have e3 : decide (1099511627776 < inc) = false := decide_eq_false hbig
  have HLv := hid_ (leave_any g Q _ w2 HN2.out.nd)
  have HInv0 := hid_ (linv_new inc 5 10 0)
  have hl60 : n ≤ 60 := by have := HLi.out.1; have := HLen.out; omega
  have kn : ∀ w, (binOp .neq 82 (.agg #[.int .u64 1, .int .u64 (inc : Nat), .int .i64 2]) (.agg #[.int .u64 1, .int .u64 (inc : Nat), .int .i64 2])).run Try.prog w = .ok (.bool false) w := fun w => mem_neqG ⟨1, inc, 2⟩ w
  clear hbig
  go_wp2_with fail
  refine Calls.mono HLv.out ?_
  rintro e w3 h3
  obtain ⟨v, rfl, rfl, Q3, h4, h5, h6, -, -⟩ := two_nodes HN2.out HM2.out HD2.out h3
  have HN3 := hid_ h4
  have HM3 := hid_ h5
  have HD3 := hid_ h6
  generalize leaveD (newD 1 inc 5 10 0) = d0 at *
  clear h3 h4 h5 h6 HN2 HM2 HD2 HLv e1 e2 e3
  go_wp2_with fail
  go_loopw [9] (fun vi wr => ∃ (k : Nat) (d : NodeD) (Q : Nat → Prop), k ≤ n ∧ vi = .int .i64 (k : Nat) ∧ Hid (NdB w.heap.size w wr g Q d) ∧ Hid (LInv inc d) ∧ Hid (NdB w.heap.size w wr g2 Q2 (newD 2 1 5 10 0)) ∧ Hid (∀ q, Q q → ¬ Q2 q)) (fun vi _ => n - (intOf vi).toNat)
  case atStart => exact ⟨0, d0, Q3, Nat.zero_le _, rfl, HN3, HInv0, HM3, HD3⟩
  case round =>
    obtain ⟨k, d, Q, hk, rfl, HN, HI, HM, HD⟩ := hrel
    by_cases hlt : k < n
    · have hkl : k < l.length := by rw [HLen.out]; exact hlt
      obtain ⟨go, oo, Ao, co, rfl, hatw⟩ := HOps.out.at_ hkl
      have hat := hatw.below HN.out.below
      have HRow0 := hid_ hatw.row
      have HWf := hid_ (HWo.out _ (List.getElem_mem hkl))
      have hl100 := HLi.out.2 _ (List.getElem_mem hkl)
      generalize l[k] = o at *
      obtain ⟨kind, frm, now, ol, pick⟩ := o
      have HOat := hid_ (fun (W : World) (hW : Below w.heap.size w W) => hatw.below hW)
      clear hatw
      obtain ⟨c0, c1, c2, c3, c4, hrow⟩ := hat
      simp only at c0 c1 c2 c3 c4 hrow hl100
      have i0 : (0 : Int) ≤ (k : Int) := by omega
      have i1 : (k : Int) < (n : Int) := by omega
      have HK := hid_ hlt
      have hlo := hrow.cap
      have hmo := hrow.max
      have HRw := hid_ hrow
      clear hkl hlt hrow
      go_wp2_with fail
      go_loopw [10] (fun vj wx => ∃ j : Nat, j ≤ ol.length ∧ vj = .int .i64 (j : Nat) ∧ Hid (∀ i (hi : i < ol.length), i < j → ol[i].id ≠ 1) ∧ wr = wx) (fun vj _ => ol.length - (intOf vj).toNat)
      case atStart => exact ⟨0, Nat.zero_le _, rfl, hid_ (fun i _ h => absurd h (by omega)), rfl⟩
      case round =>
        obtain ⟨j, hj, rfl, HG, rfl⟩ := hrel
        by_cases hjl : j < ol.length
        · obtain ⟨b, off, rfl, hc⟩ := HRw.out.at_ hjl
          have j0 : (0 : Int) ≤ (j : Int) := by omega
          have j1 : (j : Int) < (ol.length : Int) := by omega
          have HJ := hid_ hjl
          have HGn := hid_ (fun (h : ol[j].id ≠ 1) => show ∀ i (hi : i < ol.length), i < j + 1 → ol[i].id ≠ 1 from fun i hi h2 => by
            by_cases e : i = j
            · subst e; exact h
            · exact HG.out i hi (by omega))
          obtain ⟨m0, m1, m2⟩ := hc
          generalize ol[j] = m at *
          obtain ⟨x, y, s⟩ := m
          simp only at m0 m1 m2
          clear hjl
          by_cases f1 : x = 1
          · have q1 : (x == 1) = true := by simp [f1]
            have q2 : ((x : Int) == 1) = true := by simp [f1]
            clear f1
            go_wp2_with fail
            refine Calls.mono (HA.out _) ?_
            rintro e wz ⟨rfl, hbz⟩
            have HBz := hid_ (HN.out.below.trans (hbz.mono HN.out.below.size))
            clear hbz
            go_wp2_with fail
            go_ret
            exact ⟨rfl, HBz.out⟩
          · have q1 : (x == 1) = false := by rw [beq_eq_false_iff_ne]; exact f1
            have q2 : ((x : Int) == 1) = false := by rw [beq_eq_false_iff_ne]; omega
            have HR := hid_ (HGn.out f1)
            clear f1
            go_wp2_with fail
            go_roundw
            case rel => exact ⟨j + 1, by have := HJ.out; omega, by go_num, HR, trivial⟩
            case measure => have := HJ.out; simp [intOf]; omega
        · obtain rfl : j = ol.length := by omega
          have HAll := hid_ (show ∀ m ∈ ol, m.id ≠ 1 from fun m hm => by
            obtain ⟨i, hi, rfl⟩ := List.getElem_of_mem hm
            exact HG.out i hi hi)
          clear hjl HG
          by_cases k0 : kind = 0
          · subst k0
            have HH := hid_ (fun (W : World) (hW : Below wr.heap.size wr W) => hear_any g Q d frm now _ _ co ol W (HN.out.later hW).nd (HRw.out.below hW) HWf.out.l (HN.out.row_low HRow0.out (Nat.le_refl _)) HWf.out.now)
            have HIX := hid_ (linv_hear HN.out.nd.ok HI.out frm now HAll.out)
            go_wp2_with fail
            go_still_tail 16, (by kernel_rfl)
            have hbd : Below wr.heap.size wr wr.drew := (Below.refl _ _).drew
            have HNd := hid_ (HN.out.later hbd)
            have HMd := hid_ (HM.out.later hbd)
            have HHd := hid_ (HH.out _ hbd)
            clear hbd
            go_wp2_with fail
            refine Calls.mono HHd.out ?_
            rintro e wx hx
            obtain ⟨v, rfl, -, Qx, h4, h5, h6, -, -⟩ := two_nodes HNd.out HMd.out HD.out hx
            have HX := hid_ (And.intro h4 (And.intro h5 h6))
            clear hx h4 h5 h6
            generalize hearD d frm ol now = dx at *
            have HXO := hid_ (HOat.out wx HX.out.1.below)
            have c0x := HXO.out.c0
            simp only at c0x
            go_wp2_with fail
            have HSl := hid_ (show Calls Try.prog 49 #[.pointer (some ⟨g, 0, none⟩)] wx (RetB (wx).heap.size wx (.agg #[.int .u64 1, .int .u64 (inc : Nat), .int .i64 2])) from self_any g Qx _ wx HX.out.1.nd ⟨1, inc, 2⟩ (getF_some HIX.out.2.2).1 (HIX.out.1.symm))
            go_wp2_with fail
            refine Calls.mono HSl.out ?_
            rintro e wy ⟨rfl, hby⟩
            have HY := hid_ hby
            clear hby
            go_wp2_with fail
            go_roundw
            case rel => exact ⟨k + 1, _, Qx, by have := HK.out; omega, by go_num, hid_ (HX.out.1.later HY.out), HIX, hid_ (HX.out.2.1.later HY.out), hid_ HX.out.2.2⟩
            case measure => have := HK.out; simp [intOf]; omega
          have e0 : (kind == 0) = false := by rw [beq_eq_false_iff_ne]; exact k0
          by_cases k1 : kind = 1
          · subst k1
            have HH := hid_ (fun (W : World) (hW : Below wr.heap.size wr W) => tick_any g Q d now pick W (HN.out.later hW).nd HWf.out.now)
            have HIX := hid_ (linv_tick HI.out now)
            clear k0
            go_wp2_with fail
            go_still_tail 11, (by kernel_rfl)
            have hbd : Below wr.heap.size wr wr.drew := (Below.refl _ _).drew
            have HNd := hid_ (HN.out.later hbd)
            have HMd := hid_ (HM.out.later hbd)
            have HHd := hid_ (HH.out _ hbd)
            clear hbd
            go_wp2_with fail
            refine Calls.mono HHd.out ?_
            rintro e wx hx
            obtain ⟨v, rfl, -, Qx, h4, h5, h6, -, -⟩ := two_nodes HNd.out HMd.out HD.out hx
            have HX := hid_ (And.intro h4 (And.intro h5 h6))
            clear hx h4 h5 h6
            generalize tickD d now = dx at *
            have HSl := hid_ (show Calls Try.prog 49 #[.pointer (some ⟨g, 0, none⟩)] wx (RetB (wx).heap.size wx (.agg #[.int .u64 1, .int .u64 (inc : Nat), .int .i64 2])) from self_any g Qx _ wx HX.out.1.nd ⟨1, inc, 2⟩ (getF_some HIX.out.2.2).1 (HIX.out.1.symm))
            go_wp2_with fail
            refine Calls.mono HSl.out ?_
            rintro e wy ⟨rfl, hby⟩
            have HY := hid_ hby
            clear hby
            go_wp2_with fail
            go_roundw
            case rel => exact ⟨k + 1, _, Qx, by have := HK.out; omega, by go_num, hid_ (HX.out.1.later HY.out), HIX, hid_ (HX.out.2.1.later HY.out), hid_ HX.out.2.2⟩
            case measure => have := HK.out; simp [intOf]; omega
          have e1 : (kind == 1) = false := by rw [beq_eq_false_iff_ne]; exact k1
          have HX := hid_ (And.intro HN.out (And.intro HM.out HD.out))
          have HIX := HI
          clear k0 k1
          have HSl := hid_ (show Calls Try.prog 49 #[.pointer (some ⟨g, 0, none⟩)] wr (RetB (wr).heap.size wr (.agg #[.int .u64 1, .int .u64 (inc : Nat), .int .i64 2])) from self_any g Q _ wr HX.out.1.nd ⟨1, inc, 2⟩ (getF_some HIX.out.2.2).1 (HIX.out.1.symm))
          go_wp2_with fail
          refine Calls.mono HSl.out ?_
          rintro e wy ⟨rfl, hby⟩
          have HY := hid_ hby
          clear hby
          go_wp2_with fail
          go_roundw
          case rel => exact ⟨k + 1, _, Q, by have := HK.out; omega, by go_num, hid_ (HX.out.1.later HY.out), HIX, hid_ (HX.out.2.1.later HY.out), hid_ HX.out.2.2⟩
          case measure => have := HK.out; simp [intOf]; omega
    · obtain rfl : k = n := by omega
      have HVw := hid_ (view_any g Q d wr HN.out.nd)
      have HIX := HI
      clear hlt
      go_wp2_with fail
      refine Calls.mono HVw.out ?_
      rintro e w4 ⟨Av, cv, rfl, hv, hav, hb4⟩
      have HN4 := hid_ (HN.out.later hb4)
      have HM4 := hid_ (HM.out.later hb4)
      have hkk := told_k HN.out.nd.ok
      have HH := hid_ (show Calls Try.prog 43 #[.pointer (some ⟨g2, 0, none⟩), .int .u64 1, .slice Av d.ms.length cv, .int .u64 1] w4 (NdPost w4 g2 Q2 (KindAns (hearK (newD 2 1 5 10 0) d.ms)) (hearD (newD 2 1 5 10 0) 1 d.ms 1)) from
        hear_any g2 Q2 _ 1 1 Av d.ms.length cv d.ms w4 HM4.out.nd hv HN.out.nd.ok.wf (fun a e _ hq => HM.out.row_new _ (hav a e) hq) (by omega))
      have HYes := hid_ (fun h => told_yes HN.out.nd.ok HI.out h)
      have HNo := hid_ (fun h => told_no (d := d) h)
      clear hv hav hb4
      generalize hearK (newD 2 1 5 10 0) d.ms = kk at *
      generalize hearD (newD 2 1 5 10 0) 1 d.ms 1 = m1 at *
      go_wp2_with fail
      refine Calls.mono HH.out ?_
      rintro e w5 hx
      obtain ⟨v, rfl, hvv, Q5, h4, h5, -, -, -⟩ := two_nodes HM4.out HN4.out (fun q h2 h1 => HD.out q h1 h2) hx
      obtain rfl : v = .int .i64 kk := hvv
      have HM5 := hid_ h4
      have HN5 := hid_ h5
      have HV5 := hid_ (view_any g2 Q5 m1 w5 h4.nd)
      have hl16 := rightV_len h4.nd.ok.right
      clear hx h4 h5 HH HN4 HM4 HN HM
      go_wp2_with fail
      refine Calls.mono HV5.out ?_
      rintro e w6 ⟨Am, cm, rfl, hm, -, hb6⟩
      have HN6 := hid_ (HN5.out.later hb6)
      have HF := hid_ (show Calls Try.prog 47 #[.slice Am m1.ms.length cm, .int .u64 1] w6 (FindPost w6 (getF m1.ms 1)) from rfind_any Am _ cm m1.ms 1 w6 hm)
      have hmc := hm.cap
      have hmm := hm.max
      clear hm hb6
      have HSl := hid_ (fun (W : World) (hW : Below w6.heap.size w6 W) => show Calls Try.prog 49 #[.pointer (some ⟨g, 0, none⟩)] W (RetB W.heap.size W (.agg #[.int .u64 1, .int .u64 (inc : Nat), .int .i64 2])) from self_any g Q d W (HN6.out.later hW).nd ⟨1, inc, 2⟩ (getF_some HIX.out.2.2).1 HIX.out.1.symm)
      rcases hkk with rfl | rfl
      · have hfd := HYes.out rfl
        rw [hfd] at HF
        unfold FindPost foundV at HF
        have ke : ∀ w, (binOp .eql 82 (.agg #[.int .u64 1, .int .u64 (inc : Nat), .int .i64 2]) (.agg #[.int .u64 1, .int .u64 (inc : Nat), .int .i64 2])).run Try.prog w = .ok (.bool true) w := fun w => by
          have h := mem_eqlG ⟨1, inc, 2⟩ ⟨1, inc, 2⟩ w
          have h2 : sameM (⟨1, inc, 2⟩ : MemberD) ⟨1, inc, 2⟩ = true := by unfold sameM; simp
          rw [h2] at h
          exact h
        clear hfd
        go_wp2_with fail
        refine Calls.mono HF.out ?_
        rintro e w7 ⟨rfl, hb7⟩
        have HM := hid_ (whole_new w7 82 #[.int .u64 1, .int .u64 (inc : Nat), .int .i64 2])
        have HB7 := hid_ (hb7.alloc hb7.size (.cells #[.int .u64 1, .int .u64 (inc : Nat), .int .i64 2] 82))
        clear hb7
        go_wp2_with fail
        have k0 := cell_regrown (HM.out.cell 0 _ rfl)
        have k1 := cell_regrown (HM.out.cell 1 _ rfl)
        have k2 := cell_regrown (HM.out.cell 2 _ rfl)
        generalize w7.alloc (.cells #[.int .u64 1, .int .u64 (inc : Nat), .int .i64 2] 82) = wb at *
        generalize w7.heap.size = gm at *
        have HBb := hid_ (HN6.out.later HB7.out).below
        have cS : ∀ p : Regrown, Calls Try.prog 49 #[.pointer (some ⟨g, 0, none⟩)] (grow (redrawn wb p.d) p.os) fun e w'' => e = .returned (.agg #[.int .u64 1, .int .u64 (inc : Nat), .int .i64 2]) ∧ ∃ p : Regrown, w'' = grow (redrawn wb p.d) p.os := fun p => Calls.regrown_of (HSl.out _ (HB7.out.trans ((below_regrown _ _ _).mono HB7.out.size)))
        have cA : ∀ p : Regrown, Calls Try.prog 41 #[] (grow (redrawn wb p.d) p.os) fun e w'' => e = .returned (.bool true) ∧ ∃ p : Regrown, w'' = grow (redrawn wb p.d) p.os := fun p => Calls.regrown_of (HA.out _)
        refine wp_region_quiet_below (by first | assumption | kernel_rfl) (by kernel_rfl) ?_
        iterate 19 (with_reducible refine wpQuiet_step (fun K hK => ?_); go_simp; first | (with_reducible refine hK _ ?_; clear hK K) | (apply Exists.intro; refine ⟨fun _ => ?_, hK _ ?_⟩; (first | (with_reducible exact cS _) | (with_reducible exact cA _)); clear hK K))
        refine wpQuiet_nil ?_
        intro _ hw'
        obtain ⟨⟨dq, osq⟩, hw''⟩ := hw'
        subst hw''
        have HRg := hid_ (HBb.out.trans ((below_regrown wb dq osq).mono HBb.out.size))
        go_wp2_with fail
        go_ret
        exact ⟨rfl, HRg.out⟩
      · have hfd : getF m1.ms 1 = none := by rw [HNo.out rfl, getF_cons]; rfl
        rw [hfd] at HF
        unfold FindPost foundV at HF
        clear hfd
        go_wp2_with fail
        refine Calls.mono HF.out ?_
        rintro e w7 ⟨rfl, hb7⟩
        have HB7 := hid_ (hb7.alloc hb7.size (.cells #[.int .u64 0, .int .u64 0, .int .i64 0] 82))
        clear hb7
        go_wp2_with fail
        generalize w7.alloc (.cells #[.int .u64 0, .int .u64 0, .int .i64 0] 82) = wb at *
        generalize w7.heap.size = gm at *
        have HBb := hid_ (HN6.out.later HB7.out).below
        have cA : ∀ p : Regrown, Calls Try.prog 41 #[] (grow (redrawn wb p.d) p.os) fun e w'' => e = .returned (.bool true) ∧ ∃ p : Regrown, w'' = grow (redrawn wb p.d) p.os := fun p => Calls.regrown_of (HA.out _)
        refine wp_region_quiet_below (by first | assumption | kernel_rfl) (by kernel_rfl) ?_
        iterate 19 (with_reducible refine wpQuiet_step (fun K hK => ?_); go_simp; first | (with_reducible refine hK _ ?_; clear hK K) | (simp only [undef, reduceCtorEq, if_false]; with_reducible refine hK _ ?_; clear hK K) | (simp only [undef]; go_simp; with_reducible refine hK _ ?_; clear hK K) | (apply Exists.intro; refine ⟨fun _ => ?_, hK _ ?_⟩; (with_reducible exact cA _); clear hK K))
        refine wpQuiet_nil ?_
        intro _ hw'
        obtain ⟨⟨dq, osq⟩, hw''⟩ := hw'
        subst hw''
        have HRg := hid_ (HBb.out.trans ((below_regrown wb dq osq).mono HBb.out.size))
        go_wp2_with fail
        go_ret
        exact ⟨rfl, HRg.out⟩

set_option maxRecDepth 100000 in
theorem lifted (os : Os) (started : os.Started) (H : Type) (enc : TypeId × Value → H) :
    ReturnsInHanded {} Try.checked os 13 .any (Rows.gossipLeavesSpec.pre6 enc Try.prog Try.f13 Rows.gossipLeavesRow.domain false) (Rows.gossipLeavesSpec.post enc Try.prog Try.f13 false true false false) := by
  refine returnsInHanded_of_change (C := Try.checked) own started (by kernel_rfl) Try.func13
    (ChangeSpec.witness6 (enc := enc) (C := Try.checked) false ⟨#[], #[.int .u64 0, .slice none 0 0], []⟩ 8 (by kernel_rfl) (by kernel_rfl) (by kernel_rfl) (by kernel_rfl)) ?_
  intro W base args ds gs before hval0 hW hcnd _
  have hval : ∀ (j : Nat) t v, Try.f13.params[j]? = some t → args[j]? = some v → Value.okWide Try.prog W .any base t v := hval0
  have hW' := hW
  obtain ⟨p, q, hA0, hV, rfl, hfz, hnd⟩ := hW
  have hA : DataW.TrodAll enc Try.prog W 0 (fun _ => true) true Try.f13.params.toList args.toList ds p := hA0
  rw [Try.params13] at hA hval
  obtain ⟨v0, vs0, d0, ds0, p0, q0, hargs, rfl, rfl, h0, r0⟩ := trodAll_cons hA
  obtain ⟨v1, vs1, d1, ds1, p1, q1, rfl, rfl, rfl, h1, r1⟩ := trodAll_cons r0
  obtain ⟨rfl, rfl, rfl⟩ := trodAll_nil r1
  obtain rfl : args = #[v0, v1] := by cases args; simp_all
  obtain ⟨rfl, rfl⟩ := trodVars_none hV
  obtain ⟨a0, rfl, rfl, rfl, w0⟩ := open_int Try.underlying60 (hval 0 60 v0 rfl rfl) h0
  have k1 := h1
  have lt1 : ∀ x ∈ p1, x.block < W.heap.size := by obtain ⟨m, hm⟩ := k1; exact DataW.trod_lt m _ _ _ hm
  have w1 : Gs.OpsV W v1 := Gs.open_opsV (hval 1 72 v1 rfl rfl) h1
  clear hA0 hval0
  refine (walk a0 v1 W w0 w1).mono fun e W' ⟨he, bel⟩ => ?_
  subst he
  exact ⟨_, rfl, _, _, _, [], _, [], hW', trodAll_mk1 (shut_bool Try.underlying4 _), (trodAll_cons_mk (shut_int Try.underlying60 w0) (trodAll_cons_mk (Below.trod laidOut (by kernel_rfl) (of_decide_eq_true (by kernel_rfl)) k1 bel lt1) trodAll_mk0)), rfl, bel.frame _, fun h => by cases h⟩

theorem over : Rows.gossipLeavesRow.holds Try.pinned (OpenSpec.ofChange Rows.gossipLeavesSpec) :=
  OpenClaim.holds_of_wide 13 Try.f13 rfl rfl rfl rfl rfl rfl rfl ⟨rfl, rfl, rfl, rfl, rfl⟩ rfl rfl rfl rfl rfl (by kernel_rfl) Try.func13 (by kernel_rfl)
    (of_decide_eq_true (by kernel_rfl)) (by unfold Func.isWrapper; first | (rw [if_pos (by decide +kernel)]; kernel_rfl) | (rw [if_neg (by decide +kernel)]; exact ⟨rfl, rfl⟩))
    (fun os started H enc _ => lifted os started H enc)

theorem proved : Rows.GossipLeavesSaid := over
#print axioms proved
end Go.Proofs.Ytcmoelphjdehaaa.gossipLeaves
