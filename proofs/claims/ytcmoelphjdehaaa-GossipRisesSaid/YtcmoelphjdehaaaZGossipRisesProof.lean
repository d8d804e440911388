/-
  GossipRises: of whatever a node is told, and whenever, its view never falls, is a view with the node in it, and the node that has not left is Alive in it, as long as nobody tells of it what is beyond 2^40; of other input only the chapter's example is asked; no condition on the input.
  The frame round the walk is written by the guide's own program for this statement.
-/
import Derived.Test.YtcmoelphjdehaaaZGG4
import Derived.Test.YtcmoelphjdehaaaRows
import Derived.WalkKit
import Derived.ProofKit
import Derived.OpenShut
import Derived.ShutString
import Derived.ChangeOld
import Derived.Below
namespace Go.Proofs.Ytcmoelphjdehaaa.gossipRises
set_option linter.unusedSimpArgs false
set_option linter.unusedVariables false
open Go.ChangeShapes Go.WideShapes Go.ChangeAt Go.RowKit
open Go.ChangeMaps (open_string shut_string)
set_option linter.unusedVariables false

theorem own : ownKnob Try.prog.godebug = none := by kernel_rfl
theorem laidOut : laidOutB Try.prog = true := by kernel_rfl

/-- WHAT THE WALK IS TOLD OF A SLICE OF INTEGERS THAT CAME IN: it is nil; or it leads to a row of 'cap' cells, the numbers 'zs' (the first 'len' are its elements, the rest its spare room), each fitting its kind. -/
def IsRow (k : IntKind) (w : World) (a : Option Addr) (len cap : Nat) (zs : List Int) : Prop :=
  (a = none ∧ len = 0 ∧ cap = 0 ∧ zs = []) ∨
  ∃ x, a = some x ∧ len ≤ cap ∧ cap ≤ maxLen ∧ zs.length = cap ∧ (∀ i, i < zs.length → w.cell? (x.add i) = some (.int k (zs.getD i 0))) ∧ ∀ n ∈ zs, (Lit.int k n).wf = true

open Ru Vw Gs Go.Sort
set_option maxRecDepth 100000 in
set_option maxHeartbeats 40000000 in
theorem walk (a0 : Int) (a1 : Int) (a2 : Int) (a3 : Int) (v4 : Value) (w : World) (w0 : (Lit.int .u64 a0).wf = true) (w1 : (Lit.int .u64 a1).wf = true) (w2 : (Lit.int .u64 a2).wf = true) (w3 : (Lit.int .u64 a3).wf = true) (w4 : Gs.OpsV w v4) :
    Calls Try.prog 9 #[.int .u64 a0, .int .u64 a1, .int .u64 a2, .int .u64 a3, v4] w fun e w' => e = .returned (.bool true) ∧ Below w.heap.size w w' := by
  obtain ⟨self, rfl, hs0⟩ := num_of w0
  obtain ⟨inc, rfl, hs1⟩ := num_of w1
  obtain ⟨per, rfl, hs2⟩ := num_of w2
  obtain ⟨wai, rfl, hs3⟩ := num_of w3
  obtain ⟨A, n, c, l, rfl, hops, hwo⟩ := w4
  have hn := hops.len
  have hcm := Nat.le_trans hops.cap hops.max
  have HA := hid_ (fun W => alive_any W)
  have HLt := hid_ (fun (W : World) (hb : Below w.heap.size w W) => light_any A n c l W (hops.below hb))
  have HOps := hid_ hops
  have HWo := hid_ hwo
  have HNw := hid_ (show Calls Try.prog 39 #[.int .u64 (self : Nat), .int .u64 (inc : Nat), .int .u64 (per : Nat), .int .u64 (wai : Nat), .int .u64 0] w (NewPost w self inc per wai 0) from new_any self inc per wai 0 w hs0 hs1 (by omega))
  have HLen := hid_ hn
  have HS0 := hid_ hs0
  clear hops hwo hs0 hs1 hs2 hs3 hn
  go_enter Try.func9, Try.ntmps9
  go_wp2_with fail
  refine Calls.mono HNw.out ?_
  rintro e w1 h1
  rcases h1 with ⟨h1, rfl, rfl⟩ | ⟨h1, g, Q, rfl, hnd, hown, hb⟩
  · have HL1 := hid_ (HLt.out w (Below.refl _ _))
    clear h1 HLt
    generalize lightF l = lt at *
    go_wp2_with fail
    refine Calls.mono HL1.out ?_
    rintro e w1 ⟨rfl, rfl⟩
    cases lt
    · go_wp2_with fail
      refine Calls.mono (HA.out _) ?_
      rintro e wz ⟨rfl, hbz⟩
      have HBz := hid_ hbz
      clear hbz
      go_wp2_with fail
      go_ret
      exact ⟨rfl, HBz.out⟩
    · go_wp2_with fail
      refine Calls.mono (HA.out _) ?_
      rintro e wz ⟨rfl, hbz⟩
      have HBz := hid_ hbz
      clear hbz
      go_wp2_with fail
      go_ret
      exact ⟨rfl, HBz.out⟩
  have HN := hid_ (show NdB w.heap.size w w1 g Q (newD self inc per wai 0) from ⟨hnd, hb, hown, Nat.le_refl _⟩)
  have HL1 := hid_ (HLt.out w1 hb)
  have HLf := hid_ (fun h => light_facts (l := l) h)
  clear hnd hown hb h1 HLt HNw
  generalize lightF l = lt at *
  go_wp2_with fail
  refine Calls.mono HL1.out ?_
  rintro e w1' ⟨rfl, rfl⟩
  cases lt
  · go_wp2_with fail
    refine Calls.mono (HA.out _) ?_
    rintro e wz ⟨rfl, hbz⟩
    have HBz := hid_ (HN.out.below.trans (hbz.mono HN.out.below.size))
    clear hbz
    go_wp2_with fail
    go_ret
    exact ⟨rfl, HBz.out⟩
  have HLi := hid_ (HLf.out rfl)
  clear HLf HL1
  by_cases hbig : 1099511627776 < inc
  · have e1 : decide (inc > 1099511627776) = true := decide_eq_true hbig
    have e2 : decide ((1099511627776 : Int) < (inc : Int)) = true := decide_eq_true (by omega)
    have e3 : decide (1099511627776 < inc) = true := decide_eq_true hbig
    clear hbig
    go_wp2_with fail
    refine Calls.mono (HA.out _) ?_
    rintro e wz ⟨rfl, hbz⟩
    have HBz := hid_ (HN.out.below.trans (hbz.mono HN.out.below.size))
    clear hbz
    go_wp2_with fail
    go_ret
    exact ⟨rfl, HBz.out⟩
  have e1 : decide (inc > 1099511627776) = false := decide_eq_false hbig
  have e2 : decide ((1099511627776 : Int) < (inc : Int)) = false := decide_eq_false (by omega)
  have e3 : decide (1099511627776 < inc) = false := decide_eq_false hbig
  have HInv := hid_ (rinv_new self inc per wai 0 (by omega))
  have HVw := hid_ (view_any g Q _ w1 HN.out.nd)
  generalize newD self inc per wai 0 = d0 at *
  clear hbig
  go_wp2_with fail
  refine Calls.mono HVw.out ?_
  rintro e w2 ⟨Aw, cw, rfl, hvw, haw, hbw⟩
  have HN2 := hid_ (HN.out.later hbw)
  have HW2 := hid_ hvw
  have HAp : Hid (∀ a, Aw = some a → ¬ Q a.block) := hid_ (fun a e hq => HN.out.row_new _ (haw a e) hq)
  have hl60 : n ≤ 60 := by have := HLi.out.1; have := HLen.out; omega
  clear hvw haw hbw HN HVw e1 e2 e3
  go_wp2_with fail
  go_loopw [13, 14, 15] (fun vl vw vi wr => ∃ (k : Nat) (d : NodeD) (Q : Nat → Prop) (lf : Bool) (Aw : Option Addr) (cw : Nat), k ≤ n ∧ vi = .int .i64 (k : Nat) ∧ vl = .bool lf ∧ vw = .slice Aw d.ms.length cw ∧ Hid (NdB w.heap.size w wr g Q d) ∧ Hid (RInv self lf d) ∧ Hid (MemRow wr Aw d.ms.length cw d.ms) ∧ Hid (∀ a, Aw = some a → ¬ Q a.block)) (fun _ _ vi _ => n - (intOf vi).toNat)
  case atStart => exact ⟨0, d0, Q, false, Aw, cw, Nat.zero_le _, rfl, rfl, rfl, HN2, HInv, HW2, HAp⟩
  case round =>
    obtain ⟨k, d, Q, lf, Aw, cw, hk, rfl, rfl, rfl, HN, HI, HWs, HAp⟩ := hrel
    by_cases hlt : k < n
    · have hkl : k < l.length := by rw [HLen.out]; exact hlt
      obtain ⟨go, oo, Ao, co, rfl, hatw⟩ := HOps.out.at_ hkl
      have hat := hatw.below HN.out.below
      have HRow0 := hid_ hatw.row
      have HWf := hid_ (HWo.out _ (List.getElem_mem hkl))
      have hl100 := HLi.out.2 _ (List.getElem_mem hkl)
      generalize l[k] = o at *
      obtain ⟨kind, frm, now, ol, pick⟩ := o
      clear hatw
      obtain ⟨c0, c1, c2, c3, c4, hrow⟩ := hat
      simp only at c0 c1 c2 c3 c4 hrow hl100
      have i0 : (0 : Int) ≤ (k : Int) := by omega
      have i1 : (k : Int) < (n : Int) := by omega
      have HK := hid_ hlt
      have hlo := hrow.cap
      have hmo := hrow.max
      have HNo := hid_ (HN.out.later ((Below.refl _ _).alloc (Nat.le_refl _) (.cells #[.int .i64 kind, .int .u64 (frm : Nat), .int .u64 (now : Nat), .slice Ao ol.length co, .int .u64 (pick : Nat)] 80)))
      have HRw := hid_ (hrow.below ((Below.refl _ _).alloc (Nat.le_refl _) (.cells #[.int .i64 kind, .int .u64 (frm : Nat), .int .u64 (now : Nat), .slice Ao ol.length co, .int .u64 (pick : Nat)] 80)))
      have HWs2 := hid_ (HWs.out.below ((Below.refl _ _).alloc (Nat.le_refl _) (.cells #[.int .i64 kind, .int .u64 (frm : Nat), .int .u64 (now : Nat), .slice Ao ol.length co, .int .u64 (pick : Nat)] 80)))
      have HZ := hid_ (whole_new wr 80 #[.int .i64 kind, .int .u64 (frm : Nat), .int .u64 (now : Nat), .slice Ao ol.length co, .int .u64 (pick : Nat)])
      clear hkl hlt hrow
      obtain ⟨p0, p1, p2, p3, p4⟩ : ((wr.alloc (.cells #[.int .i64 kind, .int .u64 (frm : Nat), .int .u64 (now : Nat), .slice Ao ol.length co, .int .u64 (pick : Nat)] 80)).cell? ⟨wr.heap.size, 0, none⟩ = some (.int .i64 kind)) ∧ ((wr.alloc (.cells #[.int .i64 kind, .int .u64 (frm : Nat), .int .u64 (now : Nat), .slice Ao ol.length co, .int .u64 (pick : Nat)] 80)).cell? ⟨wr.heap.size, 1, none⟩ = some (.int .u64 (frm : Nat))) ∧ ((wr.alloc (.cells #[.int .i64 kind, .int .u64 (frm : Nat), .int .u64 (now : Nat), .slice Ao ol.length co, .int .u64 (pick : Nat)] 80)).cell? ⟨wr.heap.size, 2, none⟩ = some (.int .u64 (now : Nat))) ∧ ((wr.alloc (.cells #[.int .i64 kind, .int .u64 (frm : Nat), .int .u64 (now : Nat), .slice Ao ol.length co, .int .u64 (pick : Nat)] 80)).cell? ⟨wr.heap.size, 3, none⟩ = some (.slice Ao ol.length co)) ∧ ((wr.alloc (.cells #[.int .i64 kind, .int .u64 (frm : Nat), .int .u64 (now : Nat), .slice Ao ol.length co, .int .u64 (pick : Nat)] 80)).cell? ⟨wr.heap.size, 4, none⟩ = some (.int .u64 (pick : Nat))) :=
        ⟨HZ.out.cell 0 _ rfl, HZ.out.cell 1 _ rfl, HZ.out.cell 2 _ rfl, HZ.out.cell 3 _ rfl, HZ.out.cell 4 _ rfl⟩
      go_wp2_with fail
      have HAp2 := hid_ (show wr.heap.size ≤ (wr.alloc (.cells #[.int .i64 kind, .int .u64 (frm : Nat), .int .u64 (now : Nat), .slice Ao ol.length co, .int .u64 (pick : Nat)] 80)).heap.size by simp)
      clear c0 c1 c2 c3 c4 HZ
      generalize wr.alloc (.cells #[.int .i64 kind, .int .u64 (frm : Nat), .int .u64 (now : Nat), .slice Ao ol.length co, .int .u64 (pick : Nat)] 80) = wo at *
      generalize wr.heap.size = gz at *
      go_loopw [17] (fun vj wx => ∃ j : Nat, j ≤ ol.length ∧ vj = .int .i64 (j : Nat) ∧ Hid (∀ i (hi : i < ol.length), i < j → ol[i].id = self → ol[i].inc ≤ 1099511627776) ∧ wo = wx) (fun vj _ => ol.length - (intOf vj).toNat)
      case atStart => exact ⟨0, Nat.zero_le _, rfl, hid_ (fun i _ h => absurd h (by omega)), rfl⟩
      case round =>
        obtain ⟨j, hj, rfl, HG, rfl⟩ := hrel
        by_cases hjl : j < ol.length
        · obtain ⟨b, off, rfl, hc⟩ := HRw.out.at_ hjl
          have j0 : (0 : Int) ≤ (j : Int) := by omega
          have j1 : (j : Int) < (ol.length : Int) := by omega
          have HJ := hid_ hjl
          have HGn := hid_ (fun (h : ol[j].id = self → ol[j].inc ≤ 1099511627776) => show ∀ i (hi : i < ol.length), i < j + 1 → ol[i].id = self → ol[i].inc ≤ 1099511627776 from fun i hi h2 => by
            by_cases e : i = j
            · subst e; exact h
            · exact HG.out i hi (by omega))
          obtain ⟨m0, m1, m2⟩ := hc
          generalize ol[j] = m at *
          obtain ⟨x, y, s⟩ := m
          simp only at m0 m1 m2
          clear hjl
          by_cases f1 : x = self
          · have q1 : (x == self) = true := by simp [f1]
            have q2 : ((x : Int) == (self : Int)) = true := by simp [f1]
            by_cases f2 : 1099511627776 < y
            · have q3 : decide (y > 1099511627776) = true := decide_eq_true f2
              have q4 : decide ((1099511627776 : Int) < (y : Int)) = true := decide_eq_true (by omega)
              have q5 : decide (1099511627776 < y) = true := decide_eq_true f2
              clear f1 f2
              go_wp2_with fail
              refine Calls.mono (HA.out _) ?_
              rintro e wz ⟨rfl, hbz⟩
              have HBz := hid_ (HNo.out.below.trans (hbz.mono HNo.out.below.size))
              clear hbz
              go_wp2_with fail
              go_ret
              exact ⟨rfl, HBz.out⟩
            · have q3 : decide (y > 1099511627776) = false := decide_eq_false f2
              have q4 : decide ((1099511627776 : Int) < (y : Int)) = false := decide_eq_false (by omega)
              have q5 : decide (1099511627776 < y) = false := decide_eq_false f2
              have HR := hid_ (HGn.out (fun _ => by simp only; omega))
              clear f1 f2
              go_wp2_with fail
              go_roundw
              case rel => exact ⟨j + 1, by have := HJ.out; omega, by go_num, HR, trivial⟩
              case measure => have := HJ.out; simp [intOf]; omega
          · have q1 : (x == self) = false := by rw [beq_eq_false_iff_ne]; exact f1
            have q2 : ((x : Int) == (self : Int)) = false := by rw [beq_eq_false_iff_ne]; omega
            have HR := hid_ (HGn.out (fun h => absurd h f1))
            clear f1
            go_wp2_with fail
            go_roundw
            case rel => exact ⟨j + 1, by have := HJ.out; omega, by go_num, HR, trivial⟩
            case measure => have := HJ.out; simp [intOf]; omega
        · obtain rfl : j = ol.length := by omega
          have HAll := hid_ (show ∀ m ∈ ol, m.id = self → m.inc ≤ 1099511627776 from fun m hm => by
            obtain ⟨i, hi, rfl⟩ := List.getElem_of_mem hm
            exact HG.out i hi hi)
          clear hjl HG
          go_upto_block 4 with fail
          go_cut [13] (fun v13 wc => ∃ (d' : NodeD) (Q' : Nat → Prop) (lf' : Bool) (wx : World), wx = wc ∧ v13 = .bool lf' ∧ Hid (NdB w.heap.size w wx g Q' d') ∧ Hid (RInv self lf' d') ∧ Hid (IsUnder d.ms d'.ms) ∧ Hid (MemRow wx Aw d.ms.length cw d.ms) ∧ Hid (∀ a, Aw = some a → ¬ Q' a.block))
          case first =>
            have HLtw := hid_ (memRow_lt HWs2.out (nok_pos HNo.out.nd.ok))
            by_cases k0 : kind = 0
            · have e0 : (kind == 0) = true := by rw [k0]; rfl
              have HH := hid_ (hear_any g Q d frm now _ _ co ol wo HNo.out.nd HRw.out HWf.out.l (HNo.out.row_low HRow0.out (Nat.le_refl _)) HWf.out.now)
              clear k0
              go_wp2_with fail
              refine Calls.mono HH.out ?_
              rintro e wx hx
              obtain ⟨v, rfl, -, Q', hN, ht, hq⟩ := HNo.out.post hx
              have HX := hid_ (And.intro hN (And.intro ht hq))
              clear hx hN ht hq
              go_wp2_with fail
              go_meet
              exact ⟨_, Q', lf, _, rfl, rfl, hid_ HX.out.1, hid_ (rinv_hear HNo.out.nd.ok HI.out frm now HAll.out), hid_ (under_hear HNo.out.nd.ok frm now ol), hid_ (memRow_tn HWs2.out HX.out.2.1 (fun a e _ hq => HAp.out a e hq)), hid_ (apart_step HAp.out HLtw.out HX.out.2.2)⟩
            have e0 : (kind == 0) = false := by rw [beq_eq_false_iff_ne]; exact k0
            by_cases k1 : kind = 1
            · have e1 : (kind == 1) = true := by rw [k1]; rfl
              have HH := hid_ (tick_any g Q d now pick wo HNo.out.nd HWf.out.now)
              clear k0 k1
              go_wp2_with fail
              refine Calls.mono HH.out ?_
              rintro e wx hx
              obtain ⟨v, rfl, -, Q', hN, ht, hq⟩ := HNo.out.post hx
              have HX := hid_ (And.intro hN (And.intro ht hq))
              clear hx hN ht hq
              go_wp2_with fail
              go_meet
              exact ⟨_, Q', lf, _, rfl, rfl, hid_ HX.out.1, hid_ (rinv_tick HI.out now), hid_ (under_tick HNo.out.nd.ok now), hid_ (memRow_tn HWs2.out HX.out.2.1 (fun a e _ hq => HAp.out a e hq)), hid_ (apart_step HAp.out HLtw.out HX.out.2.2)⟩
            have e1 : (kind == 1) = false := by rw [beq_eq_false_iff_ne]; exact k1
            by_cases k2 : kind = 2
            · have e2 : (kind == 2) = true := by rw [k2]; rfl
              have HH := hid_ (leave_any g Q d wo HNo.out.nd)
              clear k0 k1 k2
              go_wp2_with fail
              refine Calls.mono HH.out ?_
              rintro e wx hx
              obtain ⟨v, rfl, -, Q', hN, ht, hq⟩ := HNo.out.post hx
              have HX := hid_ (And.intro hN (And.intro ht hq))
              clear hx hN ht hq
              go_wp2_with fail
              go_meet
              exact ⟨_, Q', true, _, rfl, rfl, hid_ HX.out.1, hid_ (rinv_leave HI.out), hid_ (under_leave HNo.out.nd.ok), hid_ (memRow_tn HWs2.out HX.out.2.1 (fun a e _ hq => HAp.out a e hq)), hid_ (apart_step HAp.out HLtw.out HX.out.2.2)⟩
            have e2 : (kind == 2) = false := by rw [beq_eq_false_iff_ne]; exact k2
            clear k0 k1 k2
            go_wp2_with fail
            go_meet
            exact ⟨d, Q, lf, _, rfl, rfl, HNo, HI, hid_ (under_refl (right_rising HNo.out.nd.ok.right)), HWs2, HAp⟩
          case rest =>
            obtain ⟨d', Q', lf', wx, rfl, rfl, HN', HI', HU, HWs', HAp'⟩ := hcut
            have HVw := hid_ (view_any g Q' d' wx HN'.out.nd)
            have hlp : 0 < d'.ms.length := List.length_pos_iff.2 (nok_pos HN'.out.nd.ok)
            have z1 : ((d'.ms.length : Int) == 0) = false := by rw [beq_eq_false_iff_ne]; omega
            have z2 : (d'.ms.length == 0) = false := by rw [beq_eq_false_iff_ne]; omega
            have hl16 := rightV_len HN'.out.nd.ok.right
            have hw16 := rightV_len HNo.out.nd.ok.right
            clear HNo HRw HWs2 HAll HRow0
            go_wp2_with fail
            refine Calls.mono HVw.out ?_
            rintro e w3 ⟨Av, cv, rfl, hv, hav, hb3⟩
            have HAv : Hid (∀ a, Av = some a → ¬ Q' a.block) := hid_ (fun a e hq => HN'.out.row_new _ (hav a e) hq)
            have HV := hid_ hv
            have HRt := hid_ (rright_any Av _ cv d'.ms w3 hv)
            rw [HN'.out.nd.ok.right] at HRt
            unfold kindP at HRt
            have HB3 := hid_ hb3
            have hvc := hv.cap
            have hvm := hv.max
            clear hv hav hb3
            go_wp2_with fail
            refine Calls.mono HRt.out ?_
            rintro e w4 ⟨rfl, hb4⟩
            have HV4 := hid_ (HV.out.below hb4)
            have HW4 := hid_ ((HWs'.out.below HB3.out).below hb4)
            have HN4 := hid_ ((HN'.out.later HB3.out).later hb4)
            have hwc := HW4.out.cap
            have hwm := HW4.out.max
            clear hb4 HV HWs' HN' HB3 HRt HVw
            go_wp2_with fail
            go_loopw [19] (fun vj wr => ∃ j : Nat, j ≤ d.ms.length ∧ vj = .int .i64 (j : Nat) ∧ Hid (Below w4.heap.size w4 wr)) (fun vj _ => d.ms.length - (intOf vj).toNat)
            case atStart => exact ⟨0, Nat.zero_le _, rfl, hid_ (Below.refl _ _)⟩
            case round =>
              obtain ⟨j, hj, rfl, HB⟩ := hrel
              by_cases hjl : j < d.ms.length
              · obtain ⟨b, off, rfl, hc⟩ := (HW4.out.below HB.out).at_ hjl
                obtain ⟨m', hg, hn⟩ := HU.out d.ms[j] (List.getElem_mem hjl)
                have hf := rfind_any Av _ cv d'.ms d.ms[j].id wr (HV4.out.below HB.out)
                rw [hg] at hf
                have HF := hid_ hf
                have HJ := hid_ hjl
                have j0 : (0 : Int) ≤ (j : Int) := by omega
                have j1 : (j : Int) < (d.ms.length : Int) := by omega
                have HC := hid_ hc
                obtain ⟨c0, c1, c2⟩ := hc
                generalize d.ms[j] = sm at *
                have HNew := hid_ (fun W => rnewer_any sm m' W)
                rw [hn] at HNew
                obtain ⟨mi, mc, ms⟩ := m'
                unfold FindPost at HF
                simp only [foundV] at HF
                clear hf hg hn hjl
                go_wp2_with fail
                refine Calls.mono HF.out ?_
                rintro e w5 ⟨rfl, hb5⟩
                have HB5 := hid_ (HB.out.trans (hb5.mono HB.out.size))
                have HM := hid_ (whole_new w5 82 #[.int .u64 (mi : Nat), .int .u64 (mc : Nat), .int .i64 ms])
                have HB6 := hid_ (HB5.out.alloc HB5.out.size (.cells #[.int .u64 (mi : Nat), .int .u64 (mc : Nat), .int .i64 ms] 82))
                have S0 : MemTwoG (w5.alloc (.cells #[.int .u64 (mi : Nat), .int .u64 (mc : Nat), .int .i64 ms] 82)) b (off + j * 3) w5.heap.size sm ⟨mi, mc, ms⟩ (w5.alloc (.cells #[.int .u64 (mi : Nat), .int .u64 (mc : Nat), .int .i64 ms] 82)) :=
                  ⟨Below.refl _ _, ((hb5.alloc hb5.size (.cells #[.int .u64 (mi : Nat), .int .u64 (mc : Nat), .int .i64 ms] 82)).cell (lt_of_cell c0)).trans c0, ((hb5.alloc hb5.size (.cells #[.int .u64 (mi : Nat), .int .u64 (mc : Nat), .int .i64 ms] 82)).cell (lt_of_cell c1)).trans c1, ((hb5.alloc hb5.size (.cells #[.int .u64 (mi : Nat), .int .u64 (mc : Nat), .int .i64 ms] 82)).cell (lt_of_cell c2)).trans c2, HM.out.cell 0 _ rfl, HM.out.cell 1 _ rfl, HM.out.cell 2 _ rfl⟩
                clear hb5 c0 c1 c2
                go_wp2_with fail
                generalize w5.alloc (.cells #[.int .u64 (mi : Nat), .int .u64 (mc : Nat), .int .i64 ms] 82) = wb at *
                generalize w5.heap.size = gm at *
                go_region_held3 (MemTwoG wb b (off + j * 3) gm sm ⟨mi, mc, ms⟩) (first | assumption | (refine memTwoG_keep (by assumption) (by assumption)) | (refine memTwoG_keep (by assumption) (Below.drew (Below.refl _ _))))
                  (first | (go_at_call 48; (with_reducible refine Calls.mono (HNew.out _) ?_); rintro e w' ⟨rfl, hb'⟩) | fail)
                go_wp2_with fail
                go_roundw
                case rel => exact ⟨j + 1, by have := HJ.out; omega, by go_num, hid_ (HB6.out.trans (Below.mono (And.left (by assumption)) HB6.out.size))⟩
                case measure => have := HJ.out; simp [intOf]; omega
              obtain rfl : j = d.ms.length := by omega
              obtain ⟨hsf, -, mm, hmm, hms⟩ := HI'.out
              have hf := rfind_any Av _ cv d'.ms self wr (HV4.out.below HB.out)
              rw [hmm] at hf
              have HF := hid_ hf
              have hmem := (getF_some hmm).1
              have hmid := (getF_some hmm).2
              obtain ⟨x, y, s⟩ := mm
              unfold FindPost at HF
              simp only [foundV] at HF
              have HMs := hid_ hms
              have HSl := hid_ (fun (W : World) (hW : Below w4.heap.size w4 W) => self_any g Q' d' W (HN4.out.later hW).nd ⟨x, y, s⟩ hmem (hmid.trans hsf.symm))
              have kn : ∀ w, (binOp .neq 82 (.agg #[.int .u64 (x : Nat), .int .u64 (y : Nat), .int .i64 s]) (.agg #[.int .u64 (x : Nat), .int .u64 (y : Nat), .int .i64 s])).run Try.prog w = .ok (.bool false) w := fun w => mem_neqG ⟨x, y, s⟩ w
              clear hjl hf hmem hmid hmm hms hsf
              go_wp2_with fail
              refine Calls.mono HF.out ?_
              rintro e w6 ⟨rfl, hb6⟩
              have HB6 := hid_ (HB.out.trans (hb6.mono HB.out.size))
              have HM := hid_ (whole_new w6 82 #[.int .u64 (x : Nat), .int .u64 (y : Nat), .int .i64 s])
              have HB7 := hid_ (HB6.out.alloc HB6.out.size (.cells #[.int .u64 (x : Nat), .int .u64 (y : Nat), .int .i64 s] 82))
              have HN6 := hid_ (HN4.out.later HB7.out)
              have HV6 := hid_ (HV4.out.below HB7.out)
              have HSelf := hid_ (fun (W : World) (hW : Below (w6.alloc (.cells #[.int .u64 (x : Nat), .int .u64 (y : Nat), .int .i64 s] 82)).heap.size (w6.alloc (.cells #[.int .u64 (x : Nat), .int .u64 (y : Nat), .int .i64 s] 82)) W) => HSl.out W (HB7.out.trans (hW.mono HB7.out.size)))
              have S0 : MemOneG (w6.alloc (.cells #[.int .u64 (x : Nat), .int .u64 (y : Nat), .int .i64 s] 82)) w6.heap.size x y s (w6.alloc (.cells #[.int .u64 (x : Nat), .int .u64 (y : Nat), .int .i64 s] 82)) := ⟨Below.refl _ _, HM.out.cell 0 _ rfl, HM.out.cell 1 _ rfl, HM.out.cell 2 _ rfl⟩
              clear hb6 HSl HB6 HB HM
              go_wp2_with fail
              generalize w6.alloc (.cells #[.int .u64 (x : Nat), .int .u64 (y : Nat), .int .i64 s] 82) = wb at *
              generalize w6.heap.size = gm at *
              by_cases hs0 : s = 0
              · have e5 : (s != 0) = false := by rw [hs0]; rfl
                have k0 := cell_regrown S0.2.1
                have k1 := cell_regrown S0.2.2.1
                have k2 := cell_regrown S0.2.2.2
                have cS : ∀ p : Regrown, Calls Try.prog 49 #[.pointer (some ⟨g, 0, none⟩)] (grow (redrawn wb p.d) p.os) fun e w'' => e = .returned (.agg #[.int .u64 (x : Nat), .int .u64 (y : Nat), .int .i64 s]) ∧ ∃ p : Regrown, w'' = grow (redrawn wb p.d) p.os := fun p => Calls.regrown_of (HSelf.out _ (below_regrown _ _ _))
                clear hs0 S0
                refine wp_region_quiet_below (by first | assumption | kernel_rfl) (by kernel_rfl) ?_
                iterate 17 (with_reducible refine wpQuiet_step (fun K hK => ?_); go_simp; first | (with_reducible refine hK _ ?_; clear hK K) | (apply Exists.intro; refine ⟨fun _ => ?_, hK _ ?_⟩; (with_reducible exact cS _); clear hK K))
                refine wpQuiet_nil ?_
                intro _ hw'
                obtain ⟨⟨dq, osq⟩, hw''⟩ := hw'
                subst hw''
                have HRg := hid_ (below_regrown wb dq osq)
                go_wp2_with fail
                go_roundw
                case rel => exact ⟨k + 1, d', Q', lf', Av, cv, by have := HK.out; omega, by go_num, rfl, rfl, hid_ (HN6.out.later HRg.out), HI', hid_ (HV6.out.below HRg.out), HAv⟩
                case measure => have := HK.out; simp [intOf]; omega
              have e5 : (s != 0) = true := by rw [bne_iff_ne]; exact hs0
              have hlf : lf' = true := by
                cases hq : lf'
                · exact absurd (HMs.out hq).1 hs0
                · rfl
              subst hlf
              clear hs0
              go_region_held3 (MemOneG wb gm x y s) (first | assumption | (refine memOneG_keep (by assumption) (by assumption)) | (refine memOneG_keep (by assumption) (Below.drew (Below.refl _ _))))
                (first | (go_at_call 49; (with_reducible refine Calls.mono (HSelf.out _ ?_) ?_); (exact And.left (by assumption)); rintro e w' ⟨rfl, hb'⟩) | fail)
              go_wp2_with fail
              go_roundw
              case rel => exact ⟨k + 1, d', Q', true, Av, cv, by have := HK.out; omega, by go_num, rfl, rfl, hid_ (HN6.out.later (And.left (by assumption))), HI', hid_ (HV6.out.below (And.left (by assumption))), HAv⟩
              case measure => have := HK.out; simp [intOf]; omega
    · obtain rfl : k = n := by omega
      clear hlt
      go_wp2_with fail
      refine Calls.mono (HA.out _) ?_
      rintro e wz ⟨rfl, hbz⟩
      have HBz := hid_ (HN.out.below.trans (hbz.mono HN.out.below.size))
      clear hbz
      go_wp2_with fail
      go_ret
      exact ⟨rfl, HBz.out⟩

set_option maxRecDepth 100000 in
theorem lifted (os : Os) (started : os.Started) (H : Type) (enc : TypeId × Value → H) :
    ReturnsInHanded {} Try.checked os 9 .any (Rows.gossipRisesSpec.pre6 enc Try.prog Try.f9 Rows.gossipRisesRow.domain false) (Rows.gossipRisesSpec.post enc Try.prog Try.f9 false true false false) := by
  refine returnsInHanded_of_change (C := Try.checked) own started (by kernel_rfl) Try.func9
    (ChangeSpec.witness6 (enc := enc) (C := Try.checked) false ⟨#[], #[.int .u64 0, .int .u64 0, .int .u64 0, .int .u64 0, .slice none 0 0], []⟩ 8 (by kernel_rfl) (by kernel_rfl) (by kernel_rfl) (by kernel_rfl)) ?_
  intro W base args ds gs before hval0 hW hcnd _
  have hval : ∀ (j : Nat) t v, Try.f9.params[j]? = some t → args[j]? = some v → Value.okWide Try.prog W .any base t v := hval0
  have hW' := hW
  obtain ⟨p, q, hA0, hV, rfl, hfz, hnd⟩ := hW
  have hA : DataW.TrodAll enc Try.prog W 0 (fun _ => true) true Try.f9.params.toList args.toList ds p := hA0
  rw [Try.params9] at hA hval
  obtain ⟨v0, vs0, d0, ds0, p0, q0, hargs, rfl, rfl, h0, r0⟩ := trodAll_cons hA
  obtain ⟨v1, vs1, d1, ds1, p1, q1, rfl, rfl, rfl, h1, r1⟩ := trodAll_cons r0
  obtain ⟨v2, vs2, d2, ds2, p2, q2, rfl, rfl, rfl, h2, r2⟩ := trodAll_cons r1
  obtain ⟨v3, vs3, d3, ds3, p3, q3, rfl, rfl, rfl, h3, r3⟩ := trodAll_cons r2
  obtain ⟨v4, vs4, d4, ds4, p4, q4, rfl, rfl, rfl, h4, r4⟩ := trodAll_cons r3
  obtain ⟨rfl, rfl, rfl⟩ := trodAll_nil r4
  obtain rfl : args = #[v0, v1, v2, v3, v4] := by cases args; simp_all
  obtain ⟨rfl, rfl⟩ := trodVars_none hV
  obtain ⟨a0, rfl, rfl, rfl, w0⟩ := open_int Try.underlying60 (hval 0 60 v0 rfl rfl) h0
  obtain ⟨a1, rfl, rfl, rfl, w1⟩ := open_int Try.underlying60 (hval 1 60 v1 rfl rfl) h1
  obtain ⟨a2, rfl, rfl, rfl, w2⟩ := open_int Try.underlying60 (hval 2 60 v2 rfl rfl) h2
  obtain ⟨a3, rfl, rfl, rfl, w3⟩ := open_int Try.underlying60 (hval 3 60 v3 rfl rfl) h3
  have k4 := h4
  have lt4 : ∀ x ∈ p4, x.block < W.heap.size := by obtain ⟨m, hm⟩ := k4; exact DataW.trod_lt m _ _ _ hm
  have w4 : Gs.OpsV W v4 := Gs.open_opsV (hval 4 72 v4 rfl rfl) h4
  clear hA0 hval0
  refine (walk a0 a1 a2 a3 v4 W w0 w1 w2 w3 w4).mono fun e W' ⟨he, bel⟩ => ?_
  subst he
  exact ⟨_, rfl, _, _, _, [], _, [], hW', trodAll_mk1 (shut_bool Try.underlying4 _), (trodAll_cons_mk (shut_int Try.underlying60 w0) (trodAll_cons_mk (shut_int Try.underlying60 w1) (trodAll_cons_mk (shut_int Try.underlying60 w2) (trodAll_cons_mk (shut_int Try.underlying60 w3) (trodAll_cons_mk (Below.trod laidOut (by kernel_rfl) (of_decide_eq_true (by kernel_rfl)) k4 bel lt4) trodAll_mk0))))), rfl, bel.frame _, fun h => by cases h⟩

theorem over : Rows.gossipRisesRow.holds Try.pinned (OpenSpec.ofChange Rows.gossipRisesSpec) :=
  OpenClaim.holds_of_wide 9 Try.f9 rfl rfl rfl rfl rfl rfl rfl ⟨rfl, rfl, rfl, rfl, rfl⟩ rfl rfl rfl rfl rfl (by kernel_rfl) Try.func9 (by kernel_rfl)
    (of_decide_eq_true (by kernel_rfl)) (by unfold Func.isWrapper; first | (rw [if_pos (by decide +kernel)]; kernel_rfl) | (rw [if_neg (by decide +kernel)]; exact ⟨rfl, rfl⟩))
    (fun os started H enc _ => lifted os started H enc)

theorem proved : Rows.GossipRisesSaid := over
#print axioms proved
end Go.Proofs.Ytcmoelphjdehaaa.gossipRises
