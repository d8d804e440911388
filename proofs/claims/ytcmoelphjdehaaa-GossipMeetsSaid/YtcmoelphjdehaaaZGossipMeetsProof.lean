/-
  GossipMeets: nodes that have told one another all have one view, in which each is Alive: of two to six nodes, whatever right numbers up to 1000 they were told before; of other input only the chapter's example is asked; no condition on the input.
  The frame round the walk is written by the guide's own program for this statement.
-/
import Derived.Test.YtcmoelphjdehaaaZGosFleet
import Derived.Test.YtcmoelphjdehaaaRows
import Derived.WalkKit
import Derived.ProofKit
import Derived.OpenShut
import Derived.ShutString
import Derived.ChangeOld
import Derived.Below
namespace Go.Proofs.Ytcmoelphjdehaaa.gossipMeets
set_option linter.unusedSimpArgs false
set_option linter.unusedVariables false
open Go.ChangeShapes Go.WideShapes Go.ChangeAt Go.RowKit
open Go.ChangeMaps (open_string shut_string)
set_option linter.unusedVariables false

theorem own : ownKnob Try.prog.godebug = none := by kernel_rfl
theorem laidOut : laidOutB Try.prog = true := by kernel_rfl

/-- WHAT THE WALK IS TOLD OF A SLICE OF INTEGERS THAT CAME IN: it is nil; or it leads to a row of 'cap' cells, the numbers 'zs' (the first 'len' are its elements, the rest its spare room), each fitting its kind. -/
def IsRow (k : IntKind) (w : World) (a : Option Addr) (len cap : Nat) (zs : List Int) : Prop :=
  (a = none ∧ len = 0 ∧ cap = 0 ∧ zs = []) ∨
  ∃ x, a = some x ∧ len ≤ cap ∧ cap ≤ maxLen ∧ zs.length = cap ∧ (∀ i, i < zs.length → w.cell? (x.add i) = some (.int k (zs.getD i 0))) ∧ ∀ n ∈ zs, (Lit.int k n).wf = true

open Ru Vw Gs
set_option maxRecDepth 100000 in
set_option maxHeartbeats 60000000 in
theorem walk (a0 : Option Addr) (len0 cap0 : Nat) (z0 : List Int) (v1 : Value) (w : World) (w0 : IsRow .u64 w a0 len0 cap0 z0) (w1 : Gs.OpsV w v1) :
    Calls Try.prog 11 #[.slice a0 len0 cap0, v1] w fun e w' => e = .returned (.bool true) ∧ Below w.heap.size w w' := by
  obtain ⟨ids, hids, hbd, hpl⟩ := nums_of w0
  obtain ⟨A, n, c, l, rfl, hops, hwo⟩ := w1
  have hn := hops.len
  have hcm := Nat.le_trans hops.cap hops.max
  have hl := hids.len
  have hle := Nat.le_trans hids.cap hids.max
  have HA := hid_ (fun W => alive_any W)
  have HLt := hid_ (light_any A n c l w hops)
  have HOps := hid_ hops
  have HWo := hid_ hwo
  have HIds := hid_ hids
  have HLen := hid_ hn
  have HLenI := hid_ hl
  clear hops hwo hids hpl hn hl w0
  by_cases k0 : len0 < 2
  · have t0 : decide ((len0 : Int) < 2) = true := decide_eq_true (by omega)
    have t1 : decide (len0 < 2) = true := decide_eq_true k0
    clear k0
    go_enter Try.func11, Try.ntmps11
    go_wp2_with fail
    refine Calls.mono (HA.out _) ?_
    rintro e wz ⟨rfl, hbz⟩
    have HBz := hid_ hbz
    clear hbz
    go_wp2_with fail
    go_ret
    exact ⟨rfl, HBz.out⟩
  have t0 : decide ((len0 : Int) < 2) = false := decide_eq_false (by omega)
  have t1 : decide (len0 < 2) = false := decide_eq_false k0
  by_cases k1 : 6 < len0
  · have t2 : decide ((len0 : Int) > 6) = true := decide_eq_true (by omega)
    have t3 : decide ((6 : Int) < (len0 : Int)) = true := decide_eq_true (by omega)
    have t4 : decide (6 < len0) = true := decide_eq_true k1
    clear k0 k1
    go_enter Try.func11, Try.ntmps11
    go_wp2_with fail
    refine Calls.mono (HA.out _) ?_
    rintro e wz ⟨rfl, hbz⟩
    have HBz := hid_ hbz
    clear hbz
    go_wp2_with fail
    go_ret
    exact ⟨rfl, HBz.out⟩
  have t2 : decide ((len0 : Int) > 6) = false := decide_eq_false (by omega)
  have t3 : decide ((6 : Int) < (len0 : Int)) = false := decide_eq_false (by omega)
  have t4 : decide (6 < len0) = false := decide_eq_false k1
  have hlo : 2 ≤ len0 := by omega
  have hhi : len0 ≤ 6 := by omega
  have HLf := hid_ (fun h => light_facts (l := l) h)
  clear k0 k1
  generalize lightF l = lt at *
  go_enter Try.func11, Try.ntmps11
  go_wp2_with fail
  refine Calls.mono HLt.out ?_
  rintro e w1 ⟨rfl, rfl⟩
  cases lt
  · go_wp2_with fail
    refine Calls.mono (HA.out _) ?_
    rintro e wz ⟨rfl, hbz⟩
    have HBz := hid_ hbz
    clear hbz
    go_wp2_with fail
    go_ret
    exact ⟨rfl, HBz.out⟩
  have HLi := hid_ (HLf.out rfl)
  have hl60 : n ≤ 60 := by have := HLi.out.1; have := HLen.out; omega
  clear HLf HLt t0 t1 t2 t3 t4
  go_wp2_with fail
  go_loopw [5, 6] (fun vp vi wr => ∃ (k : Nat) (A5 : Option Addr) (c5 : Nat) (g : Nat → Nat) (Q : Nat → Nat → Prop) (S : Nat → NodeD), k ≤ len0 ∧ vi = .int .i64 (k : Nat) ∧ vp = .slice A5 k c5 ∧ Hid (Fleet w.heap.size w wr k g Q S) ∧ Hid (FInv k len0 S) ∧ Hid (OwnP w.heap.size wr A5 k c5 (placesF k g)) ∧ Hid (Gs.Away A5 k Q) ∧ Hid (Below w.heap.size w wr)) (fun _ vi _ => len0 - (intOf vi).toNat)
  case atStart => exact ⟨0, none, 0, fun _ => 0, fun _ _ => False, fun _ => newD 1 1 5 100 0, Nat.zero_le _, rfl, rfl, hid_ (fleet_zero _ _ _ _ _ _), hid_ (finv_zero _ _), hid_ (Enc.Own.none _ _), hid_ (fun a e => by cases e), hid_ (Below.refl _ _)⟩
  case round =>
    obtain ⟨k, A5, c5, g, Q, S, hk, rfl, rfl, HF, HI, HP, HAw, HB⟩ := hrel
    by_cases hlt : k < len0
    · obtain ⟨gi, oi, rfl, hbi, hci⟩ := (HIds.out.below HB.out).at_ (k := k) (by rw [HLenI.out]; exact hlt)
      have c0 : wr.cell? ⟨gi, oi + k, none⟩ = some (.int .u64 (ids[k]'(by rw [HLenI.out]; exact hlt) : Nat)) := by
        have := hci 0 _ rfl
        rwa [show oi + k * Rg.numE.K + 0 = oi + k by show oi + k * 1 + 0 = _; omega] at this
      clear hci
      generalize ids[k]'(by rw [HLenI.out]; exact hlt) = x at *
      have i0 : (0 : Int) ≤ (k : Int) := by omega
      have i1 : (k : Int) < (len0 : Int) := by omega
      have HK := hid_ hlt
      by_cases x1 : x < 1
      · have q0 : decide (x < 1) = true := decide_eq_true x1
        have q1 : decide ((x : Int) < 1) = true := decide_eq_true (by omega)
        clear x1 hlt
        go_wp2_with fail
        refine Calls.mono (HA.out _) ?_
        rintro e wz ⟨rfl, hbz⟩
        have HBz := hid_ (HB.out.trans (hbz.mono HB.out.size))
        clear hbz
        go_wp2_with fail
        go_ret
        exact ⟨rfl, HBz.out⟩
      have q0 : decide (x < 1) = false := decide_eq_false x1
      have q1 : decide ((x : Int) < 1) = false := decide_eq_false (by omega)
      by_cases x2 : 1000 < x
      · have q2 : decide (x > 1000) = true := decide_eq_true x2
        have q3 : decide ((1000 : Int) < (x : Int)) = true := decide_eq_true (by omega)
        have q4 : decide (1000 < x) = true := decide_eq_true x2
        clear x1 x2 hlt
        go_wp2_with fail
        refine Calls.mono (HA.out _) ?_
        rintro e wz ⟨rfl, hbz⟩
        have HBz := hid_ (HB.out.trans (hbz.mono HB.out.size))
        clear hbz
        go_wp2_with fail
        go_ret
        exact ⟨rfl, HBz.out⟩
      have q2 : decide (x > 1000) = false := decide_eq_false x2
      have q3 : decide ((1000 : Int) < (x : Int)) = false := decide_eq_false (by omega)
      have q4 : decide (1000 < x) = false := decide_eq_false x2
      obtain ⟨k1, hk1⟩ : ∃ k1 : Nat, k1 = k + 1 := ⟨_, rfl⟩
      have f1 : IntKind.i64.wrap ((k : Int) + 1) = (k1 : Int) := by rw [IntKind.wrap_i64]; omega
      have f2 : IntKind.u64.wrap (k1 : Int) = (k1 : Int) := by rw [wrap_u64]; omega
      have HNw := hid_ (show Calls Try.prog 39 #[.int .u64 (k1 : Nat), .int .u64 (x : Nat), .int .u64 5, .int .u64 100, .int .u64 0] wr (NewPost wr k1 x 5 100 0) from new_any k1 x 5 100 0 wr (by omega) (by omega) (by omega))
      have hok : newOk k1 x 5 100 = true := by rw [hk1]; exact new_okN k x (by omega)
      have HOk := hid_ hok
      have HK1 := hid_ hk1
      have HX := hid_ (show x ≤ 1000 by omega)
      clear x1 x2 hlt hok hk1
      go_wp2_with fail
      refine Calls.mono HNw.out ?_
      rintro e w3 h3
      rcases h3 with ⟨h3, -, -⟩ | ⟨-, gx, Qx, rfl, hnd, hown, hb3⟩
      · rw [HOk.out] at h3; cases h3
      have hN3 : NdB w.heap.size w w3 gx Qx (newD k1 x 5 100 0) := ⟨hnd, HB.out.trans (hb3.mono HB.out.size), fun q hq => Nat.le_trans HB.out.size (hown q hq), Nat.le_refl _⟩
      have HF3 := hid_ (HF.out.more hb3 hN3 hown)
      have HI3 : Hid (FInv (k + 1) len0 (upd S k (newD k1 x 5 100 0))) := hid_ (HI.out.more hnd.ok (by rw [HK1.out]; rfl) rfl (by rw [HK1.out]; exact new_small HK.out HX.out) (by rw [HK1.out]; exact new_own k x))
      have HB3 := hid_ (HB.out.trans (hb3.mono HB.out.size))
      have HP3 := hid_ (HP.out.later hb3)
      have HAw3 : Hid (Gs.Away A5 (k + 1) (upd Q k Qx)) := hid_ (fun a e i hi h1 => by
        by_cases e2 : i = k
        · subst e2
          rw [upd_same] at h1
          have := hown _ h1
          have := ownP_lt HP.out a e
          omega
        · rw [upd_other _ _ e2] at h1
          exact HAw.out a e i (by omega) h1)
      clear hnd hown hb3 hN3 HF HI HP HAw
      have HF4 := hid_ (HF3.out.later ((Below.refl _ _).alloc (Nat.le_refl _) (.cells #[.pointer (some ⟨gx, 0, none⟩)] 73)))
      have HP4 := hid_ (HP3.out.later ((Below.refl _ _).alloc (Nat.le_refl _) (.cells #[.pointer (some ⟨gx, 0, none⟩)] 73)))
      have HB4 := hid_ (HB3.out.alloc HB3.out.size (.cells #[.pointer (some ⟨gx, 0, none⟩)] 73))
      have HLit := hid_ (ptr_new w3 w3.heap.size gx 73 rfl)
      have HPl := hid_ (places_more k g gx)
      go_wp2_with (at_builtin; refine Enc.wpList_rows (E := ptrE) (e := 73) rfl (.tmp 68) (.tmp 70) 92 rfl _ 8 Try.underlying92 info_ptr rfl w.heap.size A5 k c5 _ rfl HP4.out (some ⟨w3.heap.size, 0, none⟩) 1 1 [gx] rfl HLit.out (k + 1) _ rfl HPl.out (by omega) (by omega) HB4.out.size ?_; intro A7 c7 w7 ho7 hb7 hg7 ha7; have HX7 := hid_ (And.intro ho7 (And.intro hb7 (And.intro hg7 ha7))); clear ho7 hb7 hg7 ha7)
      have HF7 := hid_ (HF4.out.grown HX7.out.2.2.1 (fun j e => by
        rcases A5 with _ | a5
        · cases e
        · injection e with e
          subst e
          exact ⟨fun i hi => HAw3.out a5 rfl i hi, (HP4.out.from_ _ rfl).1⟩))
      have HAw7 : Hid (Gs.Away A7 (k + 1) (upd Q k Qx)) := hid_ (fun a e i hi h1 => by
        rcases HX7.out.2.2.2 with h2 | h2
        · rw [e] at h2
          rcases A5 with _ | a5
          · cases h2
          · injection h2 with h2
            rw [h2] at h1
            exact HAw3.out a5 rfl i hi h1
        · rw [e] at h2
          injection h2 with h2
          have := (HF4.out.each i hi).nd.qlt _ h1
          omega)
      have HB7 := hid_ (HB4.out.trans HX7.out.2.1)
      go_roundw
      case rel => exact ⟨k + 1, A7, c7, upd g k gx, upd Q k Qx, upd S k (newD k1 x 5 100 0), by have := HK.out; omega, by rw [HK1.out], rfl, HF7, HI3, hid_ HX7.out.1, HAw7, HB7⟩
      case measure => have := HK.out; have := HK1.out; simp [intOf]; omega
    · obtain rfl : k = len0 := by omega
      obtain ⟨ra, rfl, hra, hrl, hrc⟩ := HP.out.place (by omega)
      have hcm5 := HP.out.row.max
      clear hlt hk
      go_wp2_with fail
      clear HB
      go_loopw [9] (fun vi wr => ∃ (k2 : Nat) (Q : Nat → Nat → Prop) (S : Nat → NodeD), k2 ≤ n ∧ vi = .int .i64 (k2 : Nat) ∧ Hid (Fleet w.heap.size w wr k g Q S) ∧ Hid (FInv k k S) ∧ Hid (OwnP w.heap.size wr (some ⟨ra, 0, none⟩) k c5 (placesF k g)) ∧ Hid (Gs.Away (some ⟨ra, 0, none⟩) k Q)) (fun vi _ => n - (intOf vi).toNat)
      case atStart => exact ⟨0, Q, S, Nat.zero_le _, rfl, HF, HI, HP, HAw⟩
      case round =>
        clear HF HI HP HAw
        obtain ⟨k2, Q, S, hk, rfl, HF, HI, HP, HAw⟩ := hrel
        by_cases hlt : k2 < n
        · have hkl : k2 < l.length := by rw [HLen.out]; exact hlt
          have HBr := hid_ (HF.out.each 0 (by omega)).below
          obtain ⟨go, oo, Ao, co, rfl, hatw⟩ := HOps.out.at_ hkl
          have hat := hatw.below HBr.out
          have HRow0 := hid_ hatw.row
          have HWf := hid_ (HWo.out _ (List.getElem_mem hkl))
          have hl100 := HLi.out.2 _ (List.getElem_mem hkl)
          generalize l[k2] = o at *
          obtain ⟨kind, frm, now, ol, pick⟩ := o
          clear hatw
          obtain ⟨c0, c1, c2, c3, c4, hrow⟩ := hat
          simp only at c0 c1 c2 c3 c4 hrow hl100
          have i0 : (0 : Int) ≤ (k2 : Int) := by omega
          have i1 : (k2 : Int) < (n : Int) := by omega
          have HK := hid_ hlt
          have hloL := hrow.cap
          have hmoL := hrow.max
          have HRw := hid_ hrow
          have g1 : IntKind.u64.wrap (k : Int) = (k : Int) := by rw [wrap_u64]; omega
          clear hkl hlt hrow
          go_wp2_with fail
          go_loopw [10] (fun vj wx => ∃ j : Nat, j ≤ ol.length ∧ vj = .int .i64 (j : Nat) ∧ Hid (∀ i (hi : i < ol.length), i < j → ol[i].inc ≤ 1000 ∧ ol[i].id ≤ k) ∧ wr = wx) (fun vj _ => ol.length - (intOf vj).toNat)
          case atStart => exact ⟨0, Nat.zero_le _, rfl, hid_ (fun i _ h => absurd h (by omega)), rfl⟩
          case round =>
            obtain ⟨j, hj, rfl, HG, rfl⟩ := hrel
            by_cases hjl : j < ol.length
            · obtain ⟨b, off, rfl, hc⟩ := HRw.out.at_ hjl
              have j0 : (0 : Int) ≤ (j : Int) := by omega
              have j1 : (j : Int) < (ol.length : Int) := by omega
              have HJ := hid_ hjl
              have HGn := hid_ (fun (h : ol[j].inc ≤ 1000 ∧ ol[j].id ≤ k) => show ∀ i (hi : i < ol.length), i < j + 1 → ol[i].inc ≤ 1000 ∧ ol[i].id ≤ k from fun i hi h2 => by
                by_cases e : i = j
                · subst e; exact h
                · exact HG.out i hi (by omega))
              obtain ⟨m0, m1, m2⟩ := hc
              generalize ol[j] = m at *
              obtain ⟨x, y, s⟩ := m
              simp only at m0 m1 m2
              clear hjl
              by_cases f1 : 1000 < y
              · have q1 : decide (y > 1000) = true := decide_eq_true f1
                have q2 : decide ((1000 : Int) < (y : Int)) = true := decide_eq_true (by omega)
                have q3 : decide (1000 < y) = true := decide_eq_true f1
                clear f1
                go_wp2_with fail
                refine Calls.mono (HA.out _) ?_
                rintro e wz ⟨rfl, hbz⟩
                have HBz := hid_ (HBr.out.trans (hbz.mono HBr.out.size))
                clear hbz
                go_wp2_with fail
                go_ret
                exact ⟨rfl, HBz.out⟩
              have q1 : decide (y > 1000) = false := decide_eq_false f1
              have q2 : decide ((1000 : Int) < (y : Int)) = false := decide_eq_false (by omega)
              have q3 : decide (1000 < y) = false := decide_eq_false f1
              by_cases f2 : k < x
              · have q4 : decide (x > k) = true := decide_eq_true f2
                have q5 : decide ((k : Int) < (x : Int)) = true := decide_eq_true (by omega)
                have q6 : decide (k < x) = true := decide_eq_true f2
                clear f1 f2
                go_wp2_with fail
                refine Calls.mono (HA.out _) ?_
                rintro e wz ⟨rfl, hbz⟩
                have HBz := hid_ (HBr.out.trans (hbz.mono HBr.out.size))
                clear hbz
                go_wp2_with fail
                go_ret
                exact ⟨rfl, HBz.out⟩
              have q4 : decide (x > k) = false := decide_eq_false f2
              have q5 : decide ((k : Int) < (x : Int)) = false := decide_eq_false (by omega)
              have q6 : decide (k < x) = false := decide_eq_false f2
              have HR := hid_ (HGn.out ⟨by simp only; omega, by simp only; omega⟩)
              clear f1 f2
              go_wp2_with fail
              go_roundw
              case rel => exact ⟨j + 1, by have := HJ.out; omega, by go_num, HR, trivial⟩
              case measure => have := HJ.out; simp [intOf]; omega
            · obtain rfl : j = ol.length := by omega
              have HAll := hid_ (show ∀ m ∈ ol, Small k m from fun m hm => by
                obtain ⟨i, hi, rfl⟩ := List.getElem_of_mem hm
                have := HG.out i hi hi
                exact ⟨this.2, by omega, fun e => by omega⟩)
              clear hjl HG
              by_cases k0 : kind = 0
              · subst k0
                obtain ⟨pi, hpi⟩ : ∃ pi : Nat, pi = k2 % k := ⟨_, rfl⟩
                have hpl : pi < k := by rw [hpi]; exact Nat.mod_lt _ (by omega)
                have e1 : Int.tmod (k2 : Int) (k : Int) = (pi : Int) := by rw [hpi]; rfl
                have e2 : (k2 : Int) % (k : Int) = (pi : Int) := by rw [hpi]; rfl
                have e3 : ((k : Int) == 0) = false := by rw [beq_eq_false_iff_ne]; omega
                have e4 : (k == 0) = false := by rw [beq_eq_false_iff_ne]; omega
                have e5 : ((k : Int) == -1) = false := by rw [beq_eq_false_iff_ne]; omega
                have e6 : ¬ k = 0 := by omega
                have p0 : (0 : Int) ≤ (pi : Int) := by omega
                have p1 : (pi : Int) < (k : Int) := by omega
                obtain ⟨rb, roff, er, y0⟩ := ptr_at HP.out.row hpl
                injection er with er
                injection er with er1 er2 _
                subst er1 er2
                rw [Nat.zero_add] at y0
                have HH := hid_ (fun (W : World) (hW : Below wr.heap.size wr W) => show Calls Try.prog 43 #[.pointer (some ⟨g pi, 0, none⟩), .int .u64 0, .slice Ao ol.length co, .int .u64 0] W _ from hear_any (g pi) (Q pi) (S pi) 0 0 _ _ co ol W ((HF.out.each pi hpl).later hW).nd (HRw.out.below hW) HWf.out.l ((HF.out.each pi hpl).row_low HRow0.out (Nat.le_refl _)) (by omega))
                have HPl := hid_ hpl
                have HI2 := hid_ (finv_hear HI.out hpl 0 0 HWf.out.l (by omega) HAll.out)
                clear hpi hpl
                go_wp2_with fail
                go_still_tail 12, (by kernel_rfl)
                have hbd : Below wr.heap.size wr wr.drew := (Below.refl _ _).drew
                have HFd := hid_ (HF.out.later hbd)
                have HPd := hid_ (HP.out.later hbd)
                have HHd := hid_ (HH.out _ hbd)
                clear hbd HH
                go_wp2_with fail
                refine Calls.mono HHd.out ?_
                rintro e wx hx
                obtain ⟨v, rfl, -, Qx, h4, ht, hq⟩ := HFd.out.post HPl.out hx
                have HX := hid_ (And.intro h4 (And.intro (ownP_tn HPd.out ht (fun a e hq => HAw.out a e pi HPl.out hq)) (HAw.out.upd HPl.out (ownP_lt HPd.out) hq)))
                clear hx h4 ht hq HHd
                go_wp2_with fail
                go_roundw
                case rel => exact ⟨k2 + 1, upd Q pi Qx, upd S pi (hearD (S pi) 0 ol 0), by have := HK.out; omega, by go_num, hid_ HX.out.1, HI2, hid_ HX.out.2.1, hid_ HX.out.2.2⟩
                case measure => have := HK.out; simp [intOf]; omega
              · have e0 : (kind == 0) = false := by rw [beq_eq_false_iff_ne]; exact k0
                clear k0
                go_wp2_with fail
                go_roundw
                case rel => exact ⟨k2 + 1, Q, S, by have := HK.out; omega, by go_num, HF, HI, HP, HAw⟩
                case measure => have := HK.out; simp [intOf]; omega
        · obtain rfl : k2 = n := by omega
          clear hlt hk
          go_wp2_with fail
          obtain ⟨wA, hwA⟩ : ∃ wA, wA = wr := ⟨_, rfl⟩
          subst hwA
          go_loopw [11] (fun vr wr => ∃ (r : Nat) (Q : Nat → Nat → Prop) (S : Nat → NodeD), r ≤ 3 ∧ vr = .int .i64 (r : Nat) ∧ Hid (Fleet w.heap.size w wr k g Q S) ∧ Hid (FInv k k S) ∧ Hid ((1 ≤ r → Dom k S) ∧ (2 ≤ r → Gs.Alike k S)) ∧ Hid (OwnP w.heap.size wr (some ⟨ra, 0, none⟩) k c5 (placesF k g)) ∧ Hid (Gs.Away (some ⟨ra, 0, none⟩) k Q)) (fun vr _ => 3 - (intOf vr).toNat)
          case atStart => exact ⟨0, Q, S, by omega, rfl, HF, HI, hid_ ⟨fun h => absurd h (by omega), fun h => absurd h (by omega)⟩, HP, HAw⟩
          case round =>
            clear HF HI HP HAw
            obtain ⟨r, Q0, S0, hr, rfl, HF0, HI0, HD, HP0, HAw0⟩ := hrel
            by_cases hrl : r < 3
            · have q0 : decide ((r : Int) < 3) = true := decide_eq_true (by omega)
              have q1 : decide (r < 3) = true := decide_eq_true hrl
              have HRl := hid_ hrl
              have r0 : (0 : Int) ≤ (r : Int) := by omega
              have r1 : (r : Int) < 3 := by omega
              clear hrl hr
              go_wp2_with fail
              obtain ⟨wB, hwB⟩ : ∃ wB, wB = wr := ⟨_, rfl⟩
              subst hwB
              go_loopw [12] (fun vi wr => ∃ (i : Nat) (Q : Nat → Nat → Prop) (S : Nat → NodeD), i ≤ k ∧ vi = .int .i64 (i : Nat) ∧ Hid (Fleet w.heap.size w wr k g Q S) ∧ Hid (InvR r k S0 S i 0) ∧ Hid (OwnP w.heap.size wr (some ⟨ra, 0, none⟩) k c5 (placesF k g)) ∧ Hid (Gs.Away (some ⟨ra, 0, none⟩) k Q)) (fun vi _ => k - (intOf vi).toNat)
              case atStart => exact ⟨0, Q0, S0, Nat.zero_le _, rfl, HF0, hid_ (invR_start HI0.out HD.out.1), HP0, HAw0⟩
              case round =>
                clear HF0 HI0 HD HP0 HAw0
                obtain ⟨i, Q1, S1, hi, rfl, HF1, HV1, HP1, HAw1⟩ := hrel
                by_cases hil : i < k
                · have i0 : (0 : Int) ≤ (i : Int) := by omega
                  have i1 : (i : Int) < (k : Int) := by omega
                  have HIl := hid_ hil
                  clear hi hil
                  go_wp2_with fail
                  obtain ⟨wC, hwC⟩ : ∃ wC, wC = wr := ⟨_, rfl⟩
                  subst hwC
                  go_loopw [13] (fun vj wr => ∃ (j : Nat) (Q : Nat → Nat → Prop) (S : Nat → NodeD), j ≤ k ∧ vj = .int .i64 (j : Nat) ∧ Hid (Fleet w.heap.size w wr k g Q S) ∧ Hid (InvR r k S0 S i j) ∧ Hid (OwnP w.heap.size wr (some ⟨ra, 0, none⟩) k c5 (placesF k g)) ∧ Hid (Gs.Away (some ⟨ra, 0, none⟩) k Q)) (fun vj _ => k - (intOf vj).toNat)
                  case atStart => exact ⟨0, Q1, S1, Nat.zero_le _, rfl, HF1, HV1, HP1, HAw1⟩
                  case round =>
                    clear HF1 HV1 HP1 HAw1
                    obtain ⟨j, Q2, S2, hj, rfl, HF, HV, HP, HAw⟩ := hrel
                    by_cases hjl : j < k
                    · have j0 : (0 : Int) ≤ (j : Int) := by omega
                      have j1 : (j : Int) < (k : Int) := by omega
                      have HJl := hid_ hjl
                      by_cases hij : i = j
                      · subst hij
                        have e1 : ((i : Int) != (i : Int)) = false := by simp
                        have e2 : (i != i) = false := by simp
                        clear hjl
                        go_wp2_with fail
                        go_quiet (fail)
                        go_wp2_with fail
                        go_roundw
                        case rel => exact ⟨i + 1, Q2, S2, by have := HJl.out; omega, by go_num, hid_ (HF.out.later (below_drewN (Below.refl _ _) _)), hid_ (invR_skip HV.out), hid_ (HP.out.later (below_drewN (Below.refl _ _) _)), HAw⟩
                        case measure => have := HJl.out; simp [intOf]; omega
                      · have e1 : ((i : Int) != (j : Int)) = true := by rw [bne_iff_ne]; omega
                        have e2 : (i != j) = true := by rw [bne_iff_ne]; exact hij
                        obtain ⟨n1, hn1⟩ : ∃ n1 : Nat, n1 = i + 1 := ⟨_, rfl⟩
                        have f1 : IntKind.i64.wrap ((i : Int) + 1) = (n1 : Int) := by rw [IntKind.wrap_i64]; omega
                        have f2 : IntKind.u64.wrap (n1 : Int) = (n1 : Int) := by rw [wrap_u64]; omega
                        have HRv := hid_ (fun (W : World) (h : RoundAt w.heap.size w r k g c5 ra S0 i j W) => round_view (by omega) HIl.out HJl.out hij hn1 h)
                        have S0' : RoundS w.heap.size w r k g c5 ra S0 i j (g i) (g j) wr := ⟨⟨Q2, S2, j, HF.out, HV.out, .inl rfl, HP.out, HAw.out⟩, ptr_zero HP.out HIl.out, ptr_zero HP.out HJl.out⟩
                        clear hij hjl hn1 HF HV HP HAw
                        go_wp2_with fail
                        go_region_held3 (RoundS w.heap.size w r k g c5 ra S0 i j (g i) (g j)) (first | assumption | (refine roundS_keep (by assumption) (by assumption)) | (refine roundS_keep (by assumption) (Below.drew (Below.refl _ _))))
                          (first
                            | (go_at_call 42; (with_reducible refine Calls.mono (HRv.out _ ?_) ?_); (exact And.left (by assumption)); rintro e w5 ⟨Av, n5, cv, rfl, HHe, hb5⟩)
                            | (go_at_call 43; (with_reducible refine Calls.mono HHe.out ?_); rintro e w6 ⟨rfl, h6⟩; have hS6 := roundS_fin HIl.out HJl.out h6; have HX := hid_ h6; clear h6)
                            | fail)
                        all_goals (
                          obtain ⟨Q6, S6, r1, r2, r3, r4⟩ := HX.out
                          have HR := hid_ (And.intro r1 (And.intro r2 (And.intro r3 r4)))
                          clear r1 r2 r3 r4 HX
                          go_wp2_with fail
                          go_roundw
                          case rel => exact ⟨j + 1, Q6, S6, by have := HJl.out; omega, by go_num, hid_ HR.out.1, hid_ HR.out.2.1, hid_ HR.out.2.2.1, hid_ HR.out.2.2.2⟩
                          case measure => have := HJl.out; simp [intOf]; omega)
                    · obtain rfl : j = k := by omega
                      have HVn := hid_ (invR_next HV.out)
                      clear hjl hj
                      go_wp2_with fail
                      go_roundw
                      case rel => exact ⟨i + 1, Q2, S2, by have := HIl.out; omega, by go_num, HF, HVn, HP, HAw⟩
                      case measure => have := HIl.out; simp [intOf]; omega
                · obtain rfl : i = k := by omega
                  have HE := hid_ (invR_end HV1.out)
                  have HIn := hid_ (invR_f HV1.out)
                  clear hil hi
                  go_wp2_with fail
                  go_roundw
                  case rel => exact ⟨r + 1, Q1, S1, by have := HRl.out; omega, by go_num, HF1, HIn, hid_ ⟨fun _ => HE.out.1, fun h => HE.out.2 (by omega)⟩, HP1, HAw1⟩
                  case measure => have := HRl.out; simp [intOf]; omega
            · obtain rfl : r = 3 := by omega
              have HAl := hid_ (HD.out.2 (by omega))
              have HLn := hid_ (alike_len HI0.out HAl.out (a := 0) (by omega))
              have y0 := ptr_zero HP0.out (k := 0) (by omega)
              have HVw := hid_ (view_any (g 0) (Q0 0) (S0 0) wr (HF0.out.each 0 (by omega)).nd)
              have k0 : (0 : Int) < (k : Int) := by omega
              have k1 : 0 < k := by omega
              clear hrl hr HD
              go_wp2_with fail
              refine Calls.mono HVw.out ?_
              rintro e w5 ⟨Av, cv, rfl, hv, -, hb5⟩
              have hln := HLn.out
              rw [hln] at hv ⊢
              have HF5 := hid_ (HF0.out.later hb5)
              have HP5 := hid_ (HP0.out.later hb5)
              have HV5 := hid_ hv
              have hvc := hv.cap
              have hvm := hv.max
              clear hv hb5 hln HVw HF0 HP0 HAw0 y0
              go_wp2_with fail
              go_loopw [15] (fun vi wr => ∃ i : Nat, i ≤ k ∧ vi = .int .i64 (i : Nat) ∧ Hid (Below w5.heap.size w5 wr)) (fun vi _ => k - (intOf vi).toNat)
              case atStart => exact ⟨0, Nat.zero_le _, rfl, hid_ (Below.refl _ _)⟩
              case round =>
                obtain ⟨i, hi, rfl, HB⟩ := hrel
                by_cases hil : i < k
                · have i0 : (0 : Int) ≤ (i : Int) := by omega
                  have i1 : (i : Int) < (k : Int) := by omega
                  have HIl := hid_ hil
                  obtain ⟨n1, hn1⟩ : ∃ n1 : Nat, n1 = i + 1 := ⟨_, rfl⟩
                  have f1 : IntKind.i64.wrap ((i : Int) + 1) = (n1 : Int) := by rw [IntKind.wrap_i64]; omega
                  have f2 : IntKind.u64.wrap (n1 : Int) = (n1 : Int) := by rw [wrap_u64]; omega
                  have HN1 := hid_ hn1
                  obtain ⟨x, y, hxy⟩ := alike_own HI0.out HAl.out (a := 0) (k := i) (by omega) hil
                  have hf := rfind_any Av k cv (S0 0).ms n1 wr (HV5.out.below HB.out)
                  rw [hn1, hxy, ← hn1] at hf
                  have HFd := hid_ hf
                  unfold FindPost foundV at HFd
                  clear hil hi hn1 hxy hf
                  go_wp2_with fail
                  refine Calls.mono HFd.out ?_
                  rintro e w6 ⟨rfl, hb6⟩
                  have HB6 := hid_ ((HB.out.trans (hb6.mono HB.out.size)).alloc (HB.out.trans (hb6.mono HB.out.size)).size (.cells #[.int .u64 (x : Nat), .int .u64 (y : Nat), .int .i64 0] 82))
                  have HM6 := hid_ (whole_new w6 82 #[.int .u64 (x : Nat), .int .u64 (y : Nat), .int .i64 0])
                  have hw6 := HB.out.trans (hb6.mono HB.out.size)
                  have y1 := ptr_zero (HP5.out.later hw6) HIl.out
                  have hrl6 : ra < w6.heap.size := lt_of_cell y1
                  have HVi := hid_ (view_any (g i) (Q0 i) (S0 i) _ ((HF5.out.later HB6.out).each i HIl.out).nd)
                  have hei : (S0 i).ms = (S0 0).ms := alike_eq HI0.out HAl.out HIl.out (by omega)
                  rw [hei] at HVi
                  clear hb6 hw6 HFd hei
                  go_wp2_with fail
                  refine Calls.mono HVi.out ?_
                  rintro e w7 ⟨A7, c7, rfl, hv7, -, hb7⟩
                  have hlk := HLn.out
                  rw [hlk] at hv7 ⊢
                  have HB7 := hid_ (HB6.out.trans (hb7.mono HB6.out.size))
                  have hs := rsame_any A7 Av k k c7 cv (S0 0).ms (S0 0).ms w7 hv7 (HV5.out.below HB7.out)
                  rw [eqM_self] at hs
                  have HSm := hid_ hs
                  have HM7 := hid_ (HM6.out.below hb7 (by simp))
                  clear hv7 hb7 hs hlk HVi
                  generalize w6.heap.size = g6 at *
                  go_wp2_with fail
                  refine Calls.mono HSm.out ?_
                  rintro e w8 ⟨rfl, hb8⟩
                  have HB8 := hid_ (HB7.out.trans (hb8.mono HB7.out.size))
                  have HM8 := hid_ (HM7.out.below hb8 HM7.out.lt)
                  have y2 := HM8.out.cell 2 (.int .i64 0) rfl
                  clear hb8 HSm
                  go_wp2_with fail
                  go_roundw
                  case rel => exact ⟨i + 1, by have := HIl.out; omega, by first | go_num | rw [HN1.out], HB8⟩
                  case measure => have := HIl.out; have := HN1.out; simp [intOf]; omega
                · obtain rfl : i = k := by omega
                  have e1 : ((i : Int) == (i : Int)) = true := by simp
                  have e2 : (i == i) = true := by simp
                  have HBa := hid_ ((HF5.out.later HB.out).each 0 (by omega)).below
                  clear hil hi
                  go_wp2_with fail
                  refine Calls.mono (HA.out _) ?_
                  rintro e wz ⟨rfl, hbz⟩
                  have HBz := hid_ (HBa.out.trans (hbz.mono HBa.out.size))
                  clear hbz
                  go_wp2_with fail
                  go_ret
                  exact ⟨rfl, HBz.out⟩

set_option maxRecDepth 100000 in
theorem lifted (os : Os) (started : os.Started) (H : Type) (enc : TypeId × Value → H) :
    ReturnsInHanded {} Try.checked os 11 .any (Rows.gossipMeetsSpec.pre6 enc Try.prog Try.f11 Rows.gossipMeetsRow.domain false) (Rows.gossipMeetsSpec.post enc Try.prog Try.f11 false true false false) := by
  refine returnsInHanded_of_change (C := Try.checked) own started (by kernel_rfl) Try.func11
    (ChangeSpec.witness6 (enc := enc) (C := Try.checked) false ⟨#[], #[.slice none 0 0, .slice none 0 0], []⟩ 8 (by kernel_rfl) (by kernel_rfl) (by kernel_rfl) (by kernel_rfl)) ?_
  intro W base args ds gs before hval0 hW hcnd _
  have hval : ∀ (j : Nat) t v, Try.f11.params[j]? = some t → args[j]? = some v → Value.okWide Try.prog W .any base t v := hval0
  have hW' := hW
  obtain ⟨p, q, hA0, hV, rfl, hfz, hnd⟩ := hW
  have hA : DataW.TrodAll enc Try.prog W 0 (fun _ => true) true Try.f11.params.toList args.toList ds p := hA0
  rw [Try.params11] at hA hval
  obtain ⟨v0, vs0, d0, ds0, p0, q0, hargs, rfl, rfl, h0, r0⟩ := trodAll_cons hA
  obtain ⟨v1, vs1, d1, ds1, p1, q1, rfl, rfl, rfl, h1, r1⟩ := trodAll_cons r0
  obtain ⟨rfl, rfl, rfl⟩ := trodAll_nil r1
  obtain rfl : args = #[v0, v1] := by cases args; simp_all
  obtain ⟨rfl, rfl⟩ := trodVars_none hV
  obtain ⟨a0, len0, cap0, rfl⟩ := okWide_slice Try.underlying65 (hval 0 65 v0 rfl rfl)
  have k0 := h0
  have lt0 : ∀ x ∈ p0, x.block < W.heap.size := by obtain ⟨m, hm⟩ := k0; exact DataW.trod_lt m _ _ _ hm
  obtain ⟨z0, w0⟩ : ∃ zs, IsRow .u64 W a0 len0 cap0 zs := by
    obtain ⟨fuel, hf⟩ := h0
    rcases open_ints Try.underlying65 Try.underlying60 (by kernel_rfl) hf with ⟨hcs, _⟩ | ⟨x, l, c, zs, hcs, _, hl, hm, hz, _, hcell, hwz⟩
    · simp [Value.cells] at hcs
      obtain ⟨rfl, rfl, rfl⟩ := hcs
      exact ⟨[], .inl ⟨rfl, rfl, rfl, rfl⟩⟩
    · simp [Value.cells] at hcs
      obtain ⟨rfl, rfl, rfl⟩ := hcs
      exact ⟨zs, .inr ⟨_, rfl, hl, hm, by simpa using hz, hcell, hwz⟩⟩
  have k1 := h1
  have lt1 : ∀ x ∈ p1, x.block < W.heap.size := by obtain ⟨m, hm⟩ := k1; exact DataW.trod_lt m _ _ _ hm
  have w1 : Gs.OpsV W v1 := Gs.open_opsV (hval 1 72 v1 rfl rfl) h1
  clear hA0 hval0
  refine (walk a0 len0 cap0 z0 v1 W w0 w1).mono fun e W' ⟨he, bel⟩ => ?_
  subst he
  exact ⟨_, rfl, _, _, _, [], _, [], hW', trodAll_mk1 (shut_bool Try.underlying4 _), (trodAll_cons_mk (Below.trod laidOut (by kernel_rfl) (of_decide_eq_true (by kernel_rfl)) k0 bel lt0) (trodAll_cons_mk (Below.trod laidOut (by kernel_rfl) (of_decide_eq_true (by kernel_rfl)) k1 bel lt1) trodAll_mk0)), rfl, bel.frame _, fun h => by cases h⟩

theorem over : Rows.gossipMeetsRow.holds Try.pinned (OpenSpec.ofChange Rows.gossipMeetsSpec) :=
  OpenClaim.holds_of_wide 11 Try.f11 rfl rfl rfl rfl rfl rfl rfl ⟨rfl, rfl, rfl, rfl, rfl⟩ rfl rfl rfl rfl rfl (by kernel_rfl) Try.func11 (by kernel_rfl)
    (of_decide_eq_true (by kernel_rfl)) (by unfold Func.isWrapper; first | (rw [if_pos (by decide +kernel)]; kernel_rfl) | (rw [if_neg (by decide +kernel)]; exact ⟨rfl, rfl⟩))
    (fun os started H enc _ => lifted os started H enc)

theorem proved : Rows.GossipMeetsSaid := over
#print axioms proved
end Go.Proofs.Ytcmoelphjdehaaa.gossipMeets
