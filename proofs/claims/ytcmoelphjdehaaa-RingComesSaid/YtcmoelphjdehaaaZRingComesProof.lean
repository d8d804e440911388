/-
  RingComes: a member that comes takes from others and nothing else moves, and back: the arcs that move to it are those that moved from it, the number of the trace lies in one of them just where its owner changes, and that is where the new member owns it; no condition on the input (where the ids are not right, or more than 8, or the points not 1 to 8, or at is no place in them, only the chapter's example is asked).
  The frame round the walk is written by the guide's own program for this statement.
-/
import Derived.Test.YtcmoelphjdehaaaZComesMath
import Derived.Test.YtcmoelphjdehaaaZGRF
import Derived.Test.YtcmoelphjdehaaaRows
import Derived.WalkKit
import Derived.ProofKit
import Derived.OpenShut
import Derived.ShutString
import Derived.ChangeOld
import Derived.Below
namespace Go.Proofs.Ytcmoelphjdehaaa.ringComes
set_option linter.unusedSimpArgs false
set_option linter.unusedVariables false
open Go.ChangeShapes Go.WideShapes Go.ChangeAt Go.RowKit
open Go.ChangeMaps (open_string shut_string)
set_option linter.unusedVariables false

theorem own : ownKnob Try.prog.godebug = none := by kernel_rfl
theorem laidOut : laidOutB Try.prog = true := by kernel_rfl

/-- WHAT THE WALK IS TOLD OF A SLICE OF INTEGERS THAT CAME IN: it is nil; or it leads to a row of 'cap' cells, the numbers 'zs' (the first 'len' are its elements, the rest its spare room), each fitting its kind. -/
def IsRow (k : IntKind) (w : World) (a : Option Addr) (len cap : Nat) (zs : List Int) : Prop :=
  (a = none ∧ len = 0 ∧ cap = 0 ∧ zs = []) ∨
  ∃ x, a = some x ∧ len ≤ cap ∧ cap ≤ maxLen ∧ zs.length = cap ∧ (∀ i, i < zs.length → w.cell? (x.add i) = some (.int k (zs.getD i 0))) ∧ ∀ n ∈ zs, (Lit.int k n).wf = true

open Rg
open Go.Sort
/-- A world that has what another had. -/
abbrev OnlyB (w1 W : World) : Prop := Below w1.heap.size w1 W ∧ (0 : Nat) = 0
theorem onlyB_keep {w1 W W' : World} (h : OnlyB w1 W) (hb : Below W.heap.size W W') : OnlyB w1 W' := ⟨h.1.trans (hb.mono h.1.size), rfl⟩
theorem onlyB_keepB {w1 W W' : World} (h : OnlyB w1 W) (hb : Below w1.heap.size W W') : OnlyB w1 W' := ⟨h.1.trans hb, rfl⟩
set_option maxRecDepth 100000 in
set_option maxHeartbeats 100000000 in
theorem walk (a0 : Option Addr) (len0 cap0 : Nat) (z0 : List Int) (a1 : Int) (a2 : Int) (a3 : Int) (w : World) (w0 : IsRow .u64 w a0 len0 cap0 z0) (w1 : (Lit.int .i64 a1).wf = true) (w2 : (Lit.int .i64 a2).wf = true) (w3 : (Lit.int .u64 a3).wf = true) :
    Calls Try.prog 8 #[.slice a0 len0 cap0, .int .i64 a1, .int .i64 a2, .int .u64 a3] w fun e w' => e = .returned (.bool true) ∧ Below w.heap.size w w' := by
  obtain ⟨ids, hids, hbd, hpl⟩ := nums_of w0
  have hl := hids.len
  have hle := hids.le
  have HRt := hid_ (right_any a0 len0 cap0 ids w hids)
  by_cases hq0 : riseF 0 ids = false
  · rw [hq0] at HRt
    clear w0 w1 w2
    have HQ := hid_ hq0
    clear hq0
    go_enter Try.func8, Try.ntmps8
    go_wp2_with fail
    refine Calls.mono HRt.out ?_
    rintro e w1 ⟨rfl, q, rfl⟩
    go_wp2_with fail
    refine Calls.mono (alive_any _) ?_
    rintro e w2 ⟨rfl, hb⟩
    go_wp2_with fail
    go_ret
    exact ⟨rfl, (below_drewN (Below.refl _ _) q).trans hb⟩
  have hrs : riseF 0 ids = true := by simpa using hq0
  rw [hrs] at HRt
  clear hq0
  by_cases hq1 : (8 : Int) < (len0 : Int)
  · have e1a : decide ((len0 : Int) > (8 : Int)) = true := decide_eq_true (by omega)
    have e1b : decide ((8 : Int) < (len0 : Int)) = true := decide_eq_true (by omega)
    clear w0 w1 w2
    have HQ := hid_ hq1
    clear hq1
    go_enter Try.func8, Try.ntmps8
    go_wp2_with fail
    refine Calls.mono HRt.out ?_
    rintro e w1 ⟨rfl, q, rfl⟩
    go_wp2_with fail
    refine Calls.mono (alive_any _) ?_
    rintro e w2 ⟨rfl, hb⟩
    go_wp2_with fail
    go_ret
    exact ⟨rfl, (below_drewN (Below.refl _ _) q).trans hb⟩
  have e1a : decide ((len0 : Int) > (8 : Int)) = false := decide_eq_false (by omega)
  have e1b : decide ((8 : Int) < (len0 : Int)) = false := decide_eq_false (by omega)
  by_cases hq2 : a1 < (1 : Int)
  · have e2a : decide (a1 < (1 : Int)) = true := decide_eq_true (by omega)
    clear w0 w1 w2
    have HQ := hid_ hq2
    clear hq2
    go_enter Try.func8, Try.ntmps8
    go_wp2_with fail
    refine Calls.mono HRt.out ?_
    rintro e w1 ⟨rfl, q, rfl⟩
    go_wp2_with fail
    refine Calls.mono (alive_any _) ?_
    rintro e w2 ⟨rfl, hb⟩
    go_wp2_with fail
    go_ret
    exact ⟨rfl, (below_drewN (Below.refl _ _) q).trans hb⟩
  have e2a : decide (a1 < (1 : Int)) = false := decide_eq_false (by omega)
  by_cases hq3 : (8 : Int) < a1
  · have e3a : decide (a1 > (8 : Int)) = true := decide_eq_true (by omega)
    have e3b : decide ((8 : Int) < a1) = true := decide_eq_true (by omega)
    clear w0 w1 w2
    have HQ := hid_ hq3
    clear hq3
    go_enter Try.func8, Try.ntmps8
    go_wp2_with fail
    refine Calls.mono HRt.out ?_
    rintro e w1 ⟨rfl, q, rfl⟩
    go_wp2_with fail
    refine Calls.mono (alive_any _) ?_
    rintro e w2 ⟨rfl, hb⟩
    go_wp2_with fail
    go_ret
    exact ⟨rfl, (below_drewN (Below.refl _ _) q).trans hb⟩
  have e3a : decide (a1 > (8 : Int)) = false := decide_eq_false (by omega)
  have e3b : decide ((8 : Int) < a1) = false := decide_eq_false (by omega)
  by_cases hq4 : a2 < (0 : Int)
  · have e4a : decide (a2 < (0 : Int)) = true := decide_eq_true (by omega)
    clear w0 w1 w2
    have HQ := hid_ hq4
    clear hq4
    go_enter Try.func8, Try.ntmps8
    go_wp2_with fail
    refine Calls.mono HRt.out ?_
    rintro e w1 ⟨rfl, q, rfl⟩
    go_wp2_with fail
    refine Calls.mono (alive_any _) ?_
    rintro e w2 ⟨rfl, hb⟩
    go_wp2_with fail
    go_ret
    exact ⟨rfl, (below_drewN (Below.refl _ _) q).trans hb⟩
  have e4a : decide (a2 < (0 : Int)) = false := decide_eq_false (by omega)
  by_cases hq5 : (len0 : Int) ≤ a2
  · have e5a : decide (a2 ≥ (len0 : Int)) = true := decide_eq_true (by omega)
    have e5b : decide ((len0 : Int) ≤ a2) = true := decide_eq_true (by omega)
    clear w0 w1 w2
    have HQ := hid_ hq5
    clear hq5
    go_enter Try.func8, Try.ntmps8
    go_wp2_with fail
    refine Calls.mono HRt.out ?_
    rintro e w1 ⟨rfl, q, rfl⟩
    go_wp2_with fail
    refine Calls.mono (alive_any _) ?_
    rintro e w2 ⟨rfl, hb⟩
    go_wp2_with fail
    go_ret
    exact ⟨rfl, (below_drewN (Below.refl _ _) q).trans hb⟩
  have e5a : decide (a2 ≥ (len0 : Int)) = false := decide_eq_false (by omega)
  have e5b : decide ((len0 : Int) ≤ a2) = false := decide_eq_false (by omega)
  obtain ⟨p, rfl⟩ : ∃ p : Nat, a1 = (p : Int) := ⟨a1.toNat, by omega⟩
  obtain ⟨k, rfl⟩ : ∃ k : Nat, a2 = (k : Int) := ⟨a2.toNat, by omega⟩
  obtain ⟨t, rfl, ht⟩ := u64_of w3
  clear w1 w2 w3
  have hcap := hids.cap
  have hmax := hids.max
  have hkl : k < ids.length := by omega
  have hp1 : 1 ≤ p := by omega
  have hp2 : p ≤ 8 := by omega
  have hl1 : len0 ≤ 8 := by omega
  obtain ⟨m, hm⟩ : ∃ m, m = k + 1 := ⟨_, rfl⟩
  obtain ⟨lm, hlm⟩ : ∃ lm, lm = len0 - 1 := ⟨_, rfl⟩
  have Hless := hid_ (show ids.take k ++ ids.drop m = lessL ids k by rw [hm]; rfl)
  have Hids := hid_ hids
  have HL := hid_ hl
  have Hrs := hid_ hrs
  have Hrl := hid_ (less_rise hrs k)
  have HKL := hid_ hkl
  have HT := hid_ ht
  have HP := hid_ hpl
  clear hids w0 hbd hrs hl ht hpl hkl
  have x0 : (0 : Int) ≤ (k : Int) := by omega
  have x1 : (k : Int) + 1 = (m : Int) := by omega
  have x2 : (0 : Int) ≤ (m : Int) := by omega
  have x3 : (m : Int) ≤ (len0 : Int) := by omega
  have x4 : (k : Int) ≤ (cap0 : Int) := by omega
  have x5 : (len0 : Int) ≤ (cap0 : Int) := by omega
  have x6 : IntKind.i64.wrap (m : Int) = (m : Int) := by simp [IntKind.wrap, IntKind.bits, IntKind.signed]; omega
  have x7 : IntKind.i64.wrap ((k : Int) + 1) = (m : Int) := by rw [x1]; exact x6
  have x8 : wrap64 ((k : Int) + 1) = (m : Int) := by rw [x1]; unfold wrap64; omega
  have hm0 := hid_ hm
  have hlm0 := hid_ hlm
  clear hm hlm
  by_cases hcn : cap0 = m
  · have q1 : len0 = m := by omega
    subst q1
    have q2 : len0 = cap0 := hcn.symm
    clear hcn
    subst q2
    go_enter Try.func8, Try.ntmps8
    go_wp2_with fail
    (with_reducible refine Calls.mono HRt.out ?_)
    rintro e w1 ⟨rfl, q, rfl⟩
    have Hb1 := hid_ (below_drewN (Below.refl w.heap.size w) q)
    generalize w.drewN q = w1 at *
    obtain ⟨b, off, rfl⟩ : ∃ b off, a0 = some ⟨b, off, none⟩ := by
      rcases HP.out with h | h
      · omega
      · exact h
    have Hids1 := hid_ (Hids.out.below Hb1.out)
    have Hra := hid_ (fun (W : World) (h : Below w1.heap.size w1 W) => (Hids1.out.below h).upto k (by omega))
    have Hrb := hid_ (fun (W : World) (h : Below w1.heap.size w1 W) => num_end (Hids1.out.below h) rfl)
    go_wp2_with fail
    have S0 : OnlyB w1 w1 := ⟨Below.refl _ _, rfl⟩
    have HSf := hid_ (fun (o : Obj) => (show OnlyB w1 (w1.alloc o).drew from onlyB_keep S0 (Below.drew (Below.alloc (Below.refl _ _) (Nat.le_refl _) _))))
    go_region_held3 (OnlyB w1) (first | assumption | exact HSf.out _ | refine onlyB_keep (by assumption) (by assumption) | refine onlyB_keepB (by assumption) (by assumption) | refine onlyB_keep (by assumption) (Below.drew (Below.refl _ _)) | refine onlyB_keep (by assumption) (Below.alloc (Below.refl _ _) (Nat.le_refl _) _))
      (first
        | (refine Enc.step_rows (E := numE) (e := 60) (by rfl) (.tmp 46) (.tmp 49) 65 (by rfl) _ 8 Try.underlying65 info_num rfl w1.heap.size _ 0 0 [] (by rfl) ?_ _ k _ (ids.take k) (by rfl) ?_ k (ids.take k) (by omega) (by rfl) (by omega) (by omega) ?_ ?_; (first | exact Enc.own_empty _ _ rfl _ (by simp) | exact Enc.Own.alloc (Enc.own_empty _ _ rfl _ (by simp)) _ | exact Enc.own_empty_at _ _ _ rfl _ (by simp) (by simp) | exact Enc.Own.alloc (Enc.own_empty_at _ _ _ rfl _ (by simp) (by simp)) _); (exact (Hra.out _ (And.left (by assumption))).place rfl (by omega)); (exact Below.size (And.left (by assumption))); (intro A1 c1 wx1 ho1 hb1 hg1))
        | (refine Enc.step_rows (E := numE) (e := 60) (by rfl) (.tmp 50) (.tmp 54) 65 (by rfl) _ 8 Try.underlying65 info_num rfl w1.heap.size A1 k c1 (ids.take k) (by rfl) ho1 _ _ _ (ids.drop len0) (by rfl) ?_ lm (lessL ids k) (by have := hlm0.out; omega) Hless.out (by have := hlm0.out; omega) (by have := hlm0.out; omega) ?_ ?_; (exact (Hrb.out _ (And.left (by assumption))).place rfl (by omega)); (exact Below.size (And.left (by assumption))); (intro A2 c2 wx2 ho2 hb2 hg2)))
    go_wp2_with fail
    have HbX := hid_ (show Below w1.heap.size w1 wx2 from And.left (by assumption))
    have HbA := hid_ (Hb1.out.trans (HbX.out.mono Hb1.out.size))
    have Hlr := hid_ ho2.row
    have Hmk := hid_ (make_any A2 lm c2 (lessL ids k) p wx2 Hlr.out Hrl.out (by omega) (by omega) (by have := hlm0.out; omega))
    (with_reducible refine Calls.mono Hmk.out ?_)
    rintro e w2 ⟨A3, N3, c3, r3, rfl, row3, s3, p3, hb3⟩
    have R3 := hid_ (And.intro row3 (And.intro s3 p3))
    have Hb3 := hid_ (HbA.out.trans (hb3.mono HbA.out.size))
    clear row3 s3 p3 hb3
    go_wp2_with fail
    have Hmk2 := hid_ (make_any (some ⟨b, off, none⟩) len0 len0 ids p w2 (Hids.out.below Hb3.out) Hrs.out (by omega) (by omega) (by omega))
    (with_reducible refine Calls.mono Hmk2.out ?_)
    rintro e w3 ⟨A4, N4, c4, r4, rfl, row4, s4, p4, hb4⟩
    have R4 := hid_ (And.intro row4 (And.intro s4 p4))
    have R3' := hid_ (R3.out.1.below hb4)
    have Hb4 := hid_ (Hb3.out.trans (hb4.mono Hb3.out.size))
    have hN3 : N3 ≤ 1000 := by
      rw [← R3.out.1.len, R3.out.2.2.length_eq, pts_length]
      have h1 := Hlr.out.len
      have : (lessL ids k).length * p ≤ 8 * 8 := Nat.mul_le_mul (by have := hlm0.out; omega) (by omega)
      omega
    have hN4 : N4 ≤ 1000 := by
      rw [← R4.out.1.len, R4.out.2.2.length_eq, pts_length]
      have h1 := HL.out
      have : ids.length * p ≤ 8 * 8 := Nat.mul_le_mul (by omega) (by omega)
      omega
    clear row4 s4 p4 hb4
    go_wp2_with fail
    have Hmv := hid_ (moved_any A3 A4 N3 N4 c3 c4 r3 r4 w3 R3'.out R4.out.1 hN3 hN4 R3.out.2.1 R4.out.2.1)
    (with_reducible refine Calls.mono Hmv.out ?_)
    rintro e w4 ⟨l, r5, A5, n5, c5, rfl, row5, hb5, hE5, hm5, hz5⟩
    have R5 := hid_ (And.intro row5 (And.intro hE5 hm5))
    have Hb5 := hid_ (Hb4.out.trans (hb5.mono Hb4.out.size))
    have R35 := hid_ (R3'.out.below hb5)
    have R45 := hid_ (R4.out.1.below hb5)
    clear row5 hE5 hm5 hz5 hb5
    go_wp2_with fail
    have Hmv2 := hid_ (moved_any A4 A3 N4 N3 c4 c3 r4 r3 w4 R45.out R35.out hN4 hN3 R4.out.2.1 R3.out.2.1)
    (with_reducible refine Calls.mono Hmv2.out ?_)
    rintro e w5 ⟨l', r6, A6, n6, c6, rfl, row6, hb6, hE6, hm6, hz6⟩
    obtain rfl := ends_uniq (ends_swap R5.out.2.1) hE6
    have R56 := hid_ (R5.out.1.below hb6)
    have HSW := hid_ (show r6 = r5.map ArcD.swap by rw [← hm6, ← R5.out.2.2]; exact moved_swap _ _ _ _ _ [])
    have R6 := hid_ row6
    have Hb6 := hid_ (Hb5.out.trans (hb6.mono Hb5.out.size))
    have hn56 : n6 = n5 := by rw [← row6.len, ← R5.out.1.len, HSW.out, List.length_map]
    have hb6' := hb6
    clear row6 hb6 hE6 hm6 hz6
    subst hn56
    have hnn : (n6 != n6) = false := by simp
    go_wp2_with fail
    have R46 := hid_ (R45.out.below hb6')
    have Hmv3 := hid_ (moved_any A4 A4 N4 N4 c4 c4 r4 r4 w5 R46.out R46.out hN4 hN4 R4.out.2.1 R4.out.2.1)
    (with_reducible refine Calls.mono Hmv3.out ?_)
    rintro e w6 ⟨l7, r7, A7, n7, c7, rfl, row7, hb7, hE7, hm7, hz7⟩
    obtain rfl : n7 = 0 := (hz7 (by rw [← hm7]; exact moved_none _ _ _ _ _)).2.1
    have R57 := hid_ (R56.out.below hb7)
    have R67 := hid_ (R6.out.below hb7)
    have R37 := hid_ ((R35.out.below hb6').below hb7)
    have R47 := hid_ (R46.out.below hb7)
    have Hb7 := hid_ (Hb6.out.trans (hb7.mono Hb6.out.size))
    clear row7 hb7 hE7 hm7 hz7 hb6'
    go_wp2_with fail
    have HOwnC := hid_ (fun h => comes_own Hrs.out HKL.out (by omega) R3.out.2.1 R4.out.2.1 R3.out.2.2 R4.out.2.2 h)
    have HCom := hid_ (show ComesOk ids[k] (ownF r3) (ownF r4) r5 by have := comes_ok Hrs.out HKL.out (by omega) R3.out.2.1 R4.out.2.1 R3.out.2.2 R4.out.2.2 R5.out.2.1; rwa [R5.out.2.2] at this)
    have HMixL := hid_ (mix_lt t)
    have HO3 := hid_ (fun (W : World) (hW : Below w6.heap.size w6 W) => Owner_any A3 N3 c3 r3 t W (R37.out.below hW) R3.out.2.1 (by omega))
    have HO4 := hid_ (fun (W : World) (hW : Below w6.heap.size w6 W) => Owner_any A4 N4 c4 r4 t W (R47.out.below hW) R4.out.2.1 (by omega))
    have Hal := hid_ (fun (W : World) => alive_any W)
    have HMx := hid_ (refmix_any t w6)
    obtain ⟨bi, oi, eb, _, hci⟩ := (Hids.out.below Hb7.out).at_ (k := k) HKL.out
    cases eb
    have Hx0 := hid_ (show w6.cell? ⟨b, off + k, none⟩ = some (.int .u64 (ids[k] : Nat)) by
      have := hci 0 _ rfl
      rwa [show off + k * numE.K + 0 = off + k by show off + k * 1 + 0 = _; omega] at this)
    generalize mixN t = mh at *
    generalize ids[k] = x at *
    have hl57 := R57.out.len
    have hl67 := R67.out.len
    have hc5 := R57.out.cap
    have hx5 := R57.out.max
    have hc6 := R67.out.cap
    have hx6 := R67.out.max
    have x9 : (k : Int) < (len0 : Int) := by have := HKL.out; have := HL.out; omega
    clear hci
    (with_reducible refine Calls.mono HMx.out ?_)
    rintro e wm ⟨rfl, rfl⟩
    go_wp2_with fail
    go_loopw [17, 18] (fun vm vi wr => ∃ i : Nat, i ≤ n6 ∧ vi = .int .i64 (i : Nat) ∧ vm = .bool (inArcs mh (r5.take i)) ∧ Hid (Below w6.heap.size w6 wr)) (fun _ vi _ => n6 - (intOf vi).toNat)
    case atStart => exact ⟨0, Nat.zero_le _, rfl, rfl, hid_ (Below.refl _ _)⟩
    case round =>
      obtain ⟨i, hi, rfl, rfl, HB⟩ := hrel
      by_cases hil : i < n6
      · have hi5 : i < r5.length := by omega
        have hi6 : i < r6.length := by omega
        obtain ⟨g5, o5, rfl, _, hc5i⟩ := (R57.out.below HB.out).at_ hi5
        obtain ⟨g6, o6, rfl, _, hc6i⟩ := (R67.out.below HB.out).at_ hi6
        have hsw : r6[i] = (r5[i]).swap := by simp only [HSW.out, List.getElem_map]
        rw [hsw] at hc6i
        have hok := HCom.out.ok _ (List.getElem_mem hi5)
        have HTk := hid_ (inArcs_step mh hi5)
        generalize r5[i] = y at *
        obtain ⟨lo, hh, od, nw⟩ := y
        simp only [ArcD.swap] at hc6i hok
        obtain ⟨rfl, hlh⟩ := hok
        have a0 : wr.cell? ⟨g5, o5 + i * 4, none⟩ = some (.int .u64 (lo : Nat)) := hc5i 0 _ rfl
        have a1 : wr.cell? ⟨g5, o5 + i * 4 + 1, none⟩ = some (.int .u64 (hh : Nat)) := hc5i 1 _ rfl
        have a3 : wr.cell? ⟨g5, o5 + i * 4 + 3, none⟩ = some (.int .u64 (nw : Nat)) := hc5i 3 _ rfl
        have b0 : wr.cell? ⟨g6, o6 + i * 4, none⟩ = some (.int .u64 (lo : Nat)) := hc6i 0 _ rfl
        have b1 : wr.cell? ⟨g6, o6 + i * 4 + 1, none⟩ = some (.int .u64 (hh : Nat)) := hc6i 1 _ rfl
        have b2 : wr.cell? ⟨g6, o6 + i * 4 + 2, none⟩ = some (.int .u64 (nw : Nat)) := hc6i 2 _ rfl
        have d0 : wr.cell? ⟨b, off + k, none⟩ = some (.int .u64 (nw : Nat)) := (HB.out.cell (lt_of_cell Hx0.out)).trans Hx0.out
        have z1 : ((nw : Int) != (nw : Int)) = false := by simp
        have z2 : ((lo : Int) != (lo : Int)) = false := by simp
        have z3 : ((hh : Int) != (hh : Int)) = false := by simp
        have z4 : decide ((lo : Int) > (hh : Int)) = false := decide_eq_false (by omega)
        have z5 : decide ((hh : Int) < (lo : Int)) = false := decide_eq_false (by omega)
        have z6 : decide (lo > hh) = false := decide_eq_false (by omega)
        have z7 : decide (hh < lo) = false := decide_eq_false (by omega)
        have y0 : (0 : Int) ≤ (i : Int) := by omega
        have y1 : (i : Int) < (n6 : Int) := by omega
        have HI := hid_ hil
        clear hc5i hc6i hsw hil hi hlh
        go_wp2_with fail
        go_quiet (fail)
        have HBq := hid_ (below_drewN HB.out nq)
        have HCq := hid_ (show ((wr.drewN nq).cell? ⟨g5, o5 + i * 4, none⟩ = some (.int .u64 (lo : Nat))) ∧ ((wr.drewN nq).cell? ⟨g5, o5 + i * 4 + 1, none⟩ = some (.int .u64 (hh : Nat))) from ⟨a0, a1⟩)
        clear a0 a1 a3 b0 b1 b2 d0
        generalize wr.drewN nq = wq at *
        obtain ⟨a0, a1⟩ := HCq.out
        generalize inArcs mh (r5.take i) = mb at *
        cases mb
        · by_cases h1 : lo ≤ mh
          · have w1 : decide (mh ≥ lo) = true := decide_eq_true h1
            have w2 : decide ((lo : Int) ≤ (mh : Int)) = true := decide_eq_true (by omega)
            have w3 : decide (lo ≤ mh) = true := decide_eq_true h1
            by_cases h2 : mh ≤ hh
            · have w4 : decide (mh ≤ hh) = true := decide_eq_true h2
              have w5 : decide ((mh : Int) ≤ (hh : Int)) = true := decide_eq_true (by omega)
              have HR := hid_ (show inArcs mh (r5.take (i + 1)) = true by rw [HTk.out]; simp [h1, h2])
              clear h1 h2
              go_wp2_with fail
              go_roundw
              case rel => exact ⟨i + 1, by have := HI.out; omega, by go_num, by rw [HR.out], HBq⟩
              case measure => have := HI.out; simp [intOf]; omega
            · have w4 : decide (mh ≤ hh) = false := decide_eq_false h2
              have w5 : decide ((mh : Int) ≤ (hh : Int)) = false := decide_eq_false (by omega)
              have HR := hid_ (show inArcs mh (r5.take (i + 1)) = false by rw [HTk.out]; simp [h1, h2])
              clear h1 h2
              go_wp2_with fail
              go_roundw
              case rel => exact ⟨i + 1, by have := HI.out; omega, by go_num, by rw [HR.out], HBq⟩
              case measure => have := HI.out; simp [intOf]; omega
          · have w1 : decide (mh ≥ lo) = false := decide_eq_false h1
            have w2 : decide ((lo : Int) ≤ (mh : Int)) = false := decide_eq_false (by omega)
            have w3 : decide (lo ≤ mh) = false := decide_eq_false h1
            have HR := hid_ (show inArcs mh (r5.take (i + 1)) = false by rw [HTk.out]; simp [h1])
            clear h1
            go_wp2_with fail
            go_roundw
            case rel => exact ⟨i + 1, by have := HI.out; omega, by go_num, by rw [HR.out], HBq⟩
            case measure => have := HI.out; simp [intOf]; omega
        · have HR := hid_ (show inArcs mh (r5.take (i + 1)) = true by rw [HTk.out]; rfl)
          go_wp2_with fail
          go_roundw
          case rel => exact ⟨i + 1, by have := HI.out; omega, by go_num, by rw [HR.out], HBq⟩
          case measure => have := HI.out; simp [intOf]; omega
      · obtain rfl : i = n6 := by omega
        have hmv : inArcs mh (r5.take i) = decide (ownF r3 mh ≠ ownF r4 mh) := by
          rw [List.take_of_length_le (by omega)]
          exact inArcs_own (HCom.out.own mh HMixL.out)
        have howc := HOwnC.out mh
        have d0 : wr.cell? ⟨b, off + k, none⟩ = some (.int .u64 (x : Nat)) := (HB.out.cell (lt_of_cell Hx0.out)).trans Hx0.out
        rw [hmv]
        generalize ownF r3 mh = oa at *
        generalize ownF r4 mh = ob at *
        have k0 := cell_regrown d0
        have HBw := hid_ HB.out
        have cO3 : ∀ p : Regrown, Calls Try.prog 38 #[.slice A3 N3 c3, .int .u64 (t : Nat)] (grow (redrawn wr p.d) p.os) fun e w'' => e = .returned (.int .u64 (oa : Nat)) ∧ ∃ p : Regrown, w'' = grow (redrawn wr p.d) p.os := fun p => Calls.regrown_of (HO3.out _ (HBw.out.trans ((below_regrown _ _ _).mono HBw.out.size)))
        have cO4 : ∀ p : Regrown, Calls Try.prog 38 #[.slice A4 N4 c4, .int .u64 (t : Nat)] (grow (redrawn wr p.d) p.os) fun e w'' => e = .returned (.int .u64 (ob : Nat)) ∧ ∃ p : Regrown, w'' = grow (redrawn wr p.d) p.os := fun p => Calls.regrown_of (HO4.out _ (HBw.out.trans ((below_regrown _ _ _).mono HBw.out.size)))
        have cA : ∀ p : Regrown, Calls Try.prog 31 #[] (grow (redrawn wr p.d) p.os) fun e w'' => e = .returned (.bool true) ∧ ∃ p : Regrown, w'' = grow (redrawn wr p.d) p.os := fun p => Calls.regrown_of (Hal.out _)
        clear hil hi hmv d0
        by_cases hoo : oa = ob
        · have v1 : ((oa : Int) != (ob : Int)) = false := by simp [hoo]
          have v2 : ((ob : Int) == (x : Int)) = false := by rw [beq_eq_false_iff_ne]; intro h; exact howc.1.2 (by omega) hoo
          rw [decide_eq_false (by simp [hoo])]
          clear howc hoo
          go_wp2_with fail
          refine wp_region_quiet_below (by first | assumption | kernel_rfl) (by kernel_rfl) ?_
          iterate 25 (with_reducible refine wpQuiet_step (fun K hK => ?_); go_simp; first | (with_reducible refine hK _ ?_; clear hK K) | (apply Exists.intro; refine ⟨fun _ => ?_, hK _ ?_⟩; (first | (with_reducible exact cO3 _) | (with_reducible exact cO4 _) | (with_reducible exact cA _)); clear hK K))
          refine wpQuiet_nil ?_
          intro _ hw'
          obtain ⟨⟨dq, osq⟩, hw''⟩ := hw'
          subst hw''
          have HRg := hid_ (Hb7.out.trans ((HBw.out.trans ((below_regrown wr dq osq).mono HBw.out.size)).mono Hb7.out.size))
          go_wp2_with fail
          go_ret
          exact ⟨rfl, HRg.out⟩
        · have v1 : ((oa : Int) != (ob : Int)) = true := by rw [bne_iff_ne]; omega
          have v2 : ((ob : Int) == (x : Int)) = true := by rw [beq_iff_eq]; have := howc.1.1 hoo; omega
          rw [decide_eq_true hoo]
          clear howc hoo
          go_wp2_with fail
          refine wp_region_quiet_below (by first | assumption | kernel_rfl) (by kernel_rfl) ?_
          iterate 25 (with_reducible refine wpQuiet_step (fun K hK => ?_); go_simp; first | (with_reducible refine hK _ ?_; clear hK K) | (apply Exists.intro; refine ⟨fun _ => ?_, hK _ ?_⟩; (first | (with_reducible exact cO3 _) | (with_reducible exact cO4 _) | (with_reducible exact cA _)); clear hK K))
          refine wpQuiet_nil ?_
          intro _ hw'
          obtain ⟨⟨dq, osq⟩, hw''⟩ := hw'
          subst hw''
          have HRg := hid_ (Hb7.out.trans ((HBw.out.trans ((below_regrown wr dq osq).mono HBw.out.size)).mono Hb7.out.size))
          go_wp2_with fail
          go_ret
          exact ⟨rfl, HRg.out⟩
  · go_enter Try.func8, Try.ntmps8
    go_wp2_with fail
    (with_reducible refine Calls.mono HRt.out ?_)
    rintro e w1 ⟨rfl, q, rfl⟩
    have Hb1 := hid_ (below_drewN (Below.refl w.heap.size w) q)
    generalize w.drewN q = w1 at *
    obtain ⟨b, off, rfl⟩ : ∃ b off, a0 = some ⟨b, off, none⟩ := by
      rcases HP.out with h | h
      · omega
      · exact h
    have Hids1 := hid_ (Hids.out.below Hb1.out)
    have Hra := hid_ (fun (W : World) (h : Below w1.heap.size w1 W) => (Hids1.out.below h).upto k (by omega))
    have Hrb := hid_ (fun (W : World) (h : Below w1.heap.size w1 W) => num_from (Hids1.out.below h) m (by omega) hcn)
    go_wp2_with fail
    have S0 : OnlyB w1 w1 := ⟨Below.refl _ _, rfl⟩
    have HSf := hid_ (fun (o : Obj) => (show OnlyB w1 (w1.alloc o).drew from onlyB_keep S0 (Below.drew (Below.alloc (Below.refl _ _) (Nat.le_refl _) _))))
    go_region_held3 (OnlyB w1) (first | assumption | exact HSf.out _ | refine onlyB_keep (by assumption) (by assumption) | refine onlyB_keepB (by assumption) (by assumption) | refine onlyB_keep (by assumption) (Below.drew (Below.refl _ _)) | refine onlyB_keep (by assumption) (Below.alloc (Below.refl _ _) (Nat.le_refl _) _))
      (first
        | (refine Enc.step_rows (E := numE) (e := 60) (by rfl) (.tmp 46) (.tmp 49) 65 (by rfl) _ 8 Try.underlying65 info_num rfl w1.heap.size _ 0 0 [] (by rfl) ?_ _ k _ (ids.take k) (by rfl) ?_ k (ids.take k) (by omega) (by rfl) (by omega) (by omega) ?_ ?_; (first | exact Enc.own_empty _ _ rfl _ (by simp) | exact Enc.Own.alloc (Enc.own_empty _ _ rfl _ (by simp)) _ | exact Enc.own_empty_at _ _ _ rfl _ (by simp) (by simp) | exact Enc.Own.alloc (Enc.own_empty_at _ _ _ rfl _ (by simp) (by simp)) _); (exact (Hra.out _ (And.left (by assumption))).place rfl (by omega)); (exact Below.size (And.left (by assumption))); (intro A1 c1 wx1 ho1 hb1 hg1))
        | (refine Enc.step_rows (E := numE) (e := 60) (by rfl) (.tmp 50) (.tmp 54) 65 (by rfl) _ 8 Try.underlying65 info_num rfl w1.heap.size A1 k c1 (ids.take k) (by rfl) ho1 _ _ _ (ids.drop m) (by rfl) ?_ lm (lessL ids k) (by have := hlm0.out; omega) Hless.out (by have := hlm0.out; omega) (by have := hlm0.out; omega) ?_ ?_; (exact (Hrb.out _ (And.left (by assumption))).place rfl (by omega)); (exact Below.size (And.left (by assumption))); (intro A2 c2 wx2 ho2 hb2 hg2)))
    go_wp2_with fail
    have HbX := hid_ (show Below w1.heap.size w1 wx2 from And.left (by assumption))
    have HbA := hid_ (Hb1.out.trans (HbX.out.mono Hb1.out.size))
    have Hlr := hid_ ho2.row
    have Hmk := hid_ (make_any A2 lm c2 (lessL ids k) p wx2 Hlr.out Hrl.out (by omega) (by omega) (by have := hlm0.out; omega))
    (with_reducible refine Calls.mono Hmk.out ?_)
    rintro e w2 ⟨A3, N3, c3, r3, rfl, row3, s3, p3, hb3⟩
    have R3 := hid_ (And.intro row3 (And.intro s3 p3))
    have Hb3 := hid_ (HbA.out.trans (hb3.mono HbA.out.size))
    clear row3 s3 p3 hb3
    go_wp2_with fail
    have Hmk2 := hid_ (make_any (some ⟨b, off, none⟩) len0 cap0 ids p w2 (Hids.out.below Hb3.out) Hrs.out (by omega) (by omega) (by omega))
    (with_reducible refine Calls.mono Hmk2.out ?_)
    rintro e w3 ⟨A4, N4, c4, r4, rfl, row4, s4, p4, hb4⟩
    have R4 := hid_ (And.intro row4 (And.intro s4 p4))
    have R3' := hid_ (R3.out.1.below hb4)
    have Hb4 := hid_ (Hb3.out.trans (hb4.mono Hb3.out.size))
    have hN3 : N3 ≤ 1000 := by
      rw [← R3.out.1.len, R3.out.2.2.length_eq, pts_length]
      have h1 := Hlr.out.len
      have : (lessL ids k).length * p ≤ 8 * 8 := Nat.mul_le_mul (by have := hlm0.out; omega) (by omega)
      omega
    have hN4 : N4 ≤ 1000 := by
      rw [← R4.out.1.len, R4.out.2.2.length_eq, pts_length]
      have h1 := HL.out
      have : ids.length * p ≤ 8 * 8 := Nat.mul_le_mul (by omega) (by omega)
      omega
    clear row4 s4 p4 hb4
    go_wp2_with fail
    have Hmv := hid_ (moved_any A3 A4 N3 N4 c3 c4 r3 r4 w3 R3'.out R4.out.1 hN3 hN4 R3.out.2.1 R4.out.2.1)
    (with_reducible refine Calls.mono Hmv.out ?_)
    rintro e w4 ⟨l, r5, A5, n5, c5, rfl, row5, hb5, hE5, hm5, hz5⟩
    have R5 := hid_ (And.intro row5 (And.intro hE5 hm5))
    have Hb5 := hid_ (Hb4.out.trans (hb5.mono Hb4.out.size))
    have R35 := hid_ (R3'.out.below hb5)
    have R45 := hid_ (R4.out.1.below hb5)
    clear row5 hE5 hm5 hz5 hb5
    go_wp2_with fail
    have Hmv2 := hid_ (moved_any A4 A3 N4 N3 c4 c3 r4 r3 w4 R45.out R35.out hN4 hN3 R4.out.2.1 R3.out.2.1)
    (with_reducible refine Calls.mono Hmv2.out ?_)
    rintro e w5 ⟨l', r6, A6, n6, c6, rfl, row6, hb6, hE6, hm6, hz6⟩
    obtain rfl := ends_uniq (ends_swap R5.out.2.1) hE6
    have R56 := hid_ (R5.out.1.below hb6)
    have HSW := hid_ (show r6 = r5.map ArcD.swap by rw [← hm6, ← R5.out.2.2]; exact moved_swap _ _ _ _ _ [])
    have R6 := hid_ row6
    have Hb6 := hid_ (Hb5.out.trans (hb6.mono Hb5.out.size))
    have hn56 : n6 = n5 := by rw [← row6.len, ← R5.out.1.len, HSW.out, List.length_map]
    have hb6' := hb6
    clear row6 hb6 hE6 hm6 hz6
    subst hn56
    have hnn : (n6 != n6) = false := by simp
    go_wp2_with fail
    have R46 := hid_ (R45.out.below hb6')
    have Hmv3 := hid_ (moved_any A4 A4 N4 N4 c4 c4 r4 r4 w5 R46.out R46.out hN4 hN4 R4.out.2.1 R4.out.2.1)
    (with_reducible refine Calls.mono Hmv3.out ?_)
    rintro e w6 ⟨l7, r7, A7, n7, c7, rfl, row7, hb7, hE7, hm7, hz7⟩
    obtain rfl : n7 = 0 := (hz7 (by rw [← hm7]; exact moved_none _ _ _ _ _)).2.1
    have R57 := hid_ (R56.out.below hb7)
    have R67 := hid_ (R6.out.below hb7)
    have R37 := hid_ ((R35.out.below hb6').below hb7)
    have R47 := hid_ (R46.out.below hb7)
    have Hb7 := hid_ (Hb6.out.trans (hb7.mono Hb6.out.size))
    clear row7 hb7 hE7 hm7 hz7 hb6'
    go_wp2_with fail
    have HOwnC := hid_ (fun h => comes_own Hrs.out HKL.out (by omega) R3.out.2.1 R4.out.2.1 R3.out.2.2 R4.out.2.2 h)
    have HCom := hid_ (show ComesOk ids[k] (ownF r3) (ownF r4) r5 by have := comes_ok Hrs.out HKL.out (by omega) R3.out.2.1 R4.out.2.1 R3.out.2.2 R4.out.2.2 R5.out.2.1; rwa [R5.out.2.2] at this)
    have HMixL := hid_ (mix_lt t)
    have HO3 := hid_ (fun (W : World) (hW : Below w6.heap.size w6 W) => Owner_any A3 N3 c3 r3 t W (R37.out.below hW) R3.out.2.1 (by omega))
    have HO4 := hid_ (fun (W : World) (hW : Below w6.heap.size w6 W) => Owner_any A4 N4 c4 r4 t W (R47.out.below hW) R4.out.2.1 (by omega))
    have Hal := hid_ (fun (W : World) => alive_any W)
    have HMx := hid_ (refmix_any t w6)
    obtain ⟨bi, oi, eb, _, hci⟩ := (Hids.out.below Hb7.out).at_ (k := k) HKL.out
    cases eb
    have Hx0 := hid_ (show w6.cell? ⟨b, off + k, none⟩ = some (.int .u64 (ids[k] : Nat)) by
      have := hci 0 _ rfl
      rwa [show off + k * numE.K + 0 = off + k by show off + k * 1 + 0 = _; omega] at this)
    generalize mixN t = mh at *
    generalize ids[k] = x at *
    have hl57 := R57.out.len
    have hl67 := R67.out.len
    have hc5 := R57.out.cap
    have hx5 := R57.out.max
    have hc6 := R67.out.cap
    have hx6 := R67.out.max
    have x9 : (k : Int) < (len0 : Int) := by have := HKL.out; have := HL.out; omega
    clear hci
    (with_reducible refine Calls.mono HMx.out ?_)
    rintro e wm ⟨rfl, rfl⟩
    go_wp2_with fail
    go_loopw [17, 18] (fun vm vi wr => ∃ i : Nat, i ≤ n6 ∧ vi = .int .i64 (i : Nat) ∧ vm = .bool (inArcs mh (r5.take i)) ∧ Hid (Below w6.heap.size w6 wr)) (fun _ vi _ => n6 - (intOf vi).toNat)
    case atStart => exact ⟨0, Nat.zero_le _, rfl, rfl, hid_ (Below.refl _ _)⟩
    case round =>
      obtain ⟨i, hi, rfl, rfl, HB⟩ := hrel
      by_cases hil : i < n6
      · have hi5 : i < r5.length := by omega
        have hi6 : i < r6.length := by omega
        obtain ⟨g5, o5, rfl, _, hc5i⟩ := (R57.out.below HB.out).at_ hi5
        obtain ⟨g6, o6, rfl, _, hc6i⟩ := (R67.out.below HB.out).at_ hi6
        have hsw : r6[i] = (r5[i]).swap := by simp only [HSW.out, List.getElem_map]
        rw [hsw] at hc6i
        have hok := HCom.out.ok _ (List.getElem_mem hi5)
        have HTk := hid_ (inArcs_step mh hi5)
        generalize r5[i] = y at *
        obtain ⟨lo, hh, od, nw⟩ := y
        simp only [ArcD.swap] at hc6i hok
        obtain ⟨rfl, hlh⟩ := hok
        have a0 : wr.cell? ⟨g5, o5 + i * 4, none⟩ = some (.int .u64 (lo : Nat)) := hc5i 0 _ rfl
        have a1 : wr.cell? ⟨g5, o5 + i * 4 + 1, none⟩ = some (.int .u64 (hh : Nat)) := hc5i 1 _ rfl
        have a3 : wr.cell? ⟨g5, o5 + i * 4 + 3, none⟩ = some (.int .u64 (nw : Nat)) := hc5i 3 _ rfl
        have b0 : wr.cell? ⟨g6, o6 + i * 4, none⟩ = some (.int .u64 (lo : Nat)) := hc6i 0 _ rfl
        have b1 : wr.cell? ⟨g6, o6 + i * 4 + 1, none⟩ = some (.int .u64 (hh : Nat)) := hc6i 1 _ rfl
        have b2 : wr.cell? ⟨g6, o6 + i * 4 + 2, none⟩ = some (.int .u64 (nw : Nat)) := hc6i 2 _ rfl
        have d0 : wr.cell? ⟨b, off + k, none⟩ = some (.int .u64 (nw : Nat)) := (HB.out.cell (lt_of_cell Hx0.out)).trans Hx0.out
        have z1 : ((nw : Int) != (nw : Int)) = false := by simp
        have z2 : ((lo : Int) != (lo : Int)) = false := by simp
        have z3 : ((hh : Int) != (hh : Int)) = false := by simp
        have z4 : decide ((lo : Int) > (hh : Int)) = false := decide_eq_false (by omega)
        have z5 : decide ((hh : Int) < (lo : Int)) = false := decide_eq_false (by omega)
        have z6 : decide (lo > hh) = false := decide_eq_false (by omega)
        have z7 : decide (hh < lo) = false := decide_eq_false (by omega)
        have y0 : (0 : Int) ≤ (i : Int) := by omega
        have y1 : (i : Int) < (n6 : Int) := by omega
        have HI := hid_ hil
        clear hc5i hc6i hsw hil hi hlh
        go_wp2_with fail
        go_quiet (fail)
        have HBq := hid_ (below_drewN HB.out nq)
        have HCq := hid_ (show ((wr.drewN nq).cell? ⟨g5, o5 + i * 4, none⟩ = some (.int .u64 (lo : Nat))) ∧ ((wr.drewN nq).cell? ⟨g5, o5 + i * 4 + 1, none⟩ = some (.int .u64 (hh : Nat))) from ⟨a0, a1⟩)
        clear a0 a1 a3 b0 b1 b2 d0
        generalize wr.drewN nq = wq at *
        obtain ⟨a0, a1⟩ := HCq.out
        generalize inArcs mh (r5.take i) = mb at *
        cases mb
        · by_cases h1 : lo ≤ mh
          · have w1 : decide (mh ≥ lo) = true := decide_eq_true h1
            have w2 : decide ((lo : Int) ≤ (mh : Int)) = true := decide_eq_true (by omega)
            have w3 : decide (lo ≤ mh) = true := decide_eq_true h1
            by_cases h2 : mh ≤ hh
            · have w4 : decide (mh ≤ hh) = true := decide_eq_true h2
              have w5 : decide ((mh : Int) ≤ (hh : Int)) = true := decide_eq_true (by omega)
              have HR := hid_ (show inArcs mh (r5.take (i + 1)) = true by rw [HTk.out]; simp [h1, h2])
              clear h1 h2
              go_wp2_with fail
              go_roundw
              case rel => exact ⟨i + 1, by have := HI.out; omega, by go_num, by rw [HR.out], HBq⟩
              case measure => have := HI.out; simp [intOf]; omega
            · have w4 : decide (mh ≤ hh) = false := decide_eq_false h2
              have w5 : decide ((mh : Int) ≤ (hh : Int)) = false := decide_eq_false (by omega)
              have HR := hid_ (show inArcs mh (r5.take (i + 1)) = false by rw [HTk.out]; simp [h1, h2])
              clear h1 h2
              go_wp2_with fail
              go_roundw
              case rel => exact ⟨i + 1, by have := HI.out; omega, by go_num, by rw [HR.out], HBq⟩
              case measure => have := HI.out; simp [intOf]; omega
          · have w1 : decide (mh ≥ lo) = false := decide_eq_false h1
            have w2 : decide ((lo : Int) ≤ (mh : Int)) = false := decide_eq_false (by omega)
            have w3 : decide (lo ≤ mh) = false := decide_eq_false h1
            have HR := hid_ (show inArcs mh (r5.take (i + 1)) = false by rw [HTk.out]; simp [h1])
            clear h1
            go_wp2_with fail
            go_roundw
            case rel => exact ⟨i + 1, by have := HI.out; omega, by go_num, by rw [HR.out], HBq⟩
            case measure => have := HI.out; simp [intOf]; omega
        · have HR := hid_ (show inArcs mh (r5.take (i + 1)) = true by rw [HTk.out]; rfl)
          go_wp2_with fail
          go_roundw
          case rel => exact ⟨i + 1, by have := HI.out; omega, by go_num, by rw [HR.out], HBq⟩
          case measure => have := HI.out; simp [intOf]; omega
      · obtain rfl : i = n6 := by omega
        have hmv : inArcs mh (r5.take i) = decide (ownF r3 mh ≠ ownF r4 mh) := by
          rw [List.take_of_length_le (by omega)]
          exact inArcs_own (HCom.out.own mh HMixL.out)
        have howc := HOwnC.out mh
        have d0 : wr.cell? ⟨b, off + k, none⟩ = some (.int .u64 (x : Nat)) := (HB.out.cell (lt_of_cell Hx0.out)).trans Hx0.out
        rw [hmv]
        generalize ownF r3 mh = oa at *
        generalize ownF r4 mh = ob at *
        have k0 := cell_regrown d0
        have HBw := hid_ HB.out
        have cO3 : ∀ p : Regrown, Calls Try.prog 38 #[.slice A3 N3 c3, .int .u64 (t : Nat)] (grow (redrawn wr p.d) p.os) fun e w'' => e = .returned (.int .u64 (oa : Nat)) ∧ ∃ p : Regrown, w'' = grow (redrawn wr p.d) p.os := fun p => Calls.regrown_of (HO3.out _ (HBw.out.trans ((below_regrown _ _ _).mono HBw.out.size)))
        have cO4 : ∀ p : Regrown, Calls Try.prog 38 #[.slice A4 N4 c4, .int .u64 (t : Nat)] (grow (redrawn wr p.d) p.os) fun e w'' => e = .returned (.int .u64 (ob : Nat)) ∧ ∃ p : Regrown, w'' = grow (redrawn wr p.d) p.os := fun p => Calls.regrown_of (HO4.out _ (HBw.out.trans ((below_regrown _ _ _).mono HBw.out.size)))
        have cA : ∀ p : Regrown, Calls Try.prog 31 #[] (grow (redrawn wr p.d) p.os) fun e w'' => e = .returned (.bool true) ∧ ∃ p : Regrown, w'' = grow (redrawn wr p.d) p.os := fun p => Calls.regrown_of (Hal.out _)
        clear hil hi hmv d0
        by_cases hoo : oa = ob
        · have v1 : ((oa : Int) != (ob : Int)) = false := by simp [hoo]
          have v2 : ((ob : Int) == (x : Int)) = false := by rw [beq_eq_false_iff_ne]; intro h; exact howc.1.2 (by omega) hoo
          rw [decide_eq_false (by simp [hoo])]
          clear howc hoo
          go_wp2_with fail
          refine wp_region_quiet_below (by first | assumption | kernel_rfl) (by kernel_rfl) ?_
          iterate 25 (with_reducible refine wpQuiet_step (fun K hK => ?_); go_simp; first | (with_reducible refine hK _ ?_; clear hK K) | (apply Exists.intro; refine ⟨fun _ => ?_, hK _ ?_⟩; (first | (with_reducible exact cO3 _) | (with_reducible exact cO4 _) | (with_reducible exact cA _)); clear hK K))
          refine wpQuiet_nil ?_
          intro _ hw'
          obtain ⟨⟨dq, osq⟩, hw''⟩ := hw'
          subst hw''
          have HRg := hid_ (Hb7.out.trans ((HBw.out.trans ((below_regrown wr dq osq).mono HBw.out.size)).mono Hb7.out.size))
          go_wp2_with fail
          go_ret
          exact ⟨rfl, HRg.out⟩
        · have v1 : ((oa : Int) != (ob : Int)) = true := by rw [bne_iff_ne]; omega
          have v2 : ((ob : Int) == (x : Int)) = true := by rw [beq_iff_eq]; have := howc.1.1 hoo; omega
          rw [decide_eq_true hoo]
          clear howc hoo
          go_wp2_with fail
          refine wp_region_quiet_below (by first | assumption | kernel_rfl) (by kernel_rfl) ?_
          iterate 25 (with_reducible refine wpQuiet_step (fun K hK => ?_); go_simp; first | (with_reducible refine hK _ ?_; clear hK K) | (apply Exists.intro; refine ⟨fun _ => ?_, hK _ ?_⟩; (first | (with_reducible exact cO3 _) | (with_reducible exact cO4 _) | (with_reducible exact cA _)); clear hK K))
          refine wpQuiet_nil ?_
          intro _ hw'
          obtain ⟨⟨dq, osq⟩, hw''⟩ := hw'
          subst hw''
          have HRg := hid_ (Hb7.out.trans ((HBw.out.trans ((below_regrown wr dq osq).mono HBw.out.size)).mono Hb7.out.size))
          go_wp2_with fail
          go_ret
          exact ⟨rfl, HRg.out⟩

set_option maxRecDepth 100000 in
theorem lifted (os : Os) (started : os.Started) (H : Type) (enc : TypeId × Value → H) :
    ReturnsInHanded {} Try.checked os 8 .any (Rows.ringComesSpec.pre6 enc Try.prog Try.f8 Rows.ringComesRow.domain false) (Rows.ringComesSpec.post enc Try.prog Try.f8 false true false false) := by
  refine returnsInHanded_of_change (C := Try.checked) own started (by kernel_rfl) Try.func8
    (ChangeSpec.witness6 (enc := enc) (C := Try.checked) false ⟨#[], #[.slice none 0 0, .int .i64 0, .int .i64 0, .int .u64 0], []⟩ 8 (by kernel_rfl) (by kernel_rfl) (by kernel_rfl) (by kernel_rfl)) ?_
  intro W base args ds gs before hval0 hW hcnd _
  have hval : ∀ (j : Nat) t v, Try.f8.params[j]? = some t → args[j]? = some v → Value.okWide Try.prog W .any base t v := hval0
  have hW' := hW
  obtain ⟨p, q, hA0, hV, rfl, hfz, hnd⟩ := hW
  have hA : DataW.TrodAll enc Try.prog W 0 (fun _ => true) true Try.f8.params.toList args.toList ds p := hA0
  rw [Try.params8] at hA hval
  obtain ⟨v0, vs0, d0, ds0, p0, q0, hargs, rfl, rfl, h0, r0⟩ := trodAll_cons hA
  obtain ⟨v1, vs1, d1, ds1, p1, q1, rfl, rfl, rfl, h1, r1⟩ := trodAll_cons r0
  obtain ⟨v2, vs2, d2, ds2, p2, q2, rfl, rfl, rfl, h2, r2⟩ := trodAll_cons r1
  obtain ⟨v3, vs3, d3, ds3, p3, q3, rfl, rfl, rfl, h3, r3⟩ := trodAll_cons r2
  obtain ⟨rfl, rfl, rfl⟩ := trodAll_nil r3
  obtain rfl : args = #[v0, v1, v2, v3] := by cases args; simp_all
  obtain ⟨rfl, rfl⟩ := trodVars_none hV
  obtain ⟨a0, len0, cap0, rfl⟩ := okWide_slice Try.underlying65 (hval 0 65 v0 rfl rfl)
  have k0 := h0
  have lt0 : ∀ x ∈ p0, x.block < W.heap.size := by obtain ⟨m, hm⟩ := k0; exact DataW.trod_lt m _ _ _ hm
  obtain ⟨z0, w0⟩ : ∃ zs, IsRow .u64 W a0 len0 cap0 zs := by
    obtain ⟨fuel, hf⟩ := h0
    rcases open_ints Try.underlying65 Try.underlying60 (by kernel_rfl) hf with ⟨hcs, _⟩ | ⟨x, l, c, zs, hcs, _, hl, hm, hz, _, hcell, hwz⟩
    · simp [Value.cells] at hcs
      obtain ⟨rfl, rfl, rfl⟩ := hcs
      exact ⟨[], .inl ⟨rfl, rfl, rfl, rfl⟩⟩
    · simp [Value.cells] at hcs
      obtain ⟨rfl, rfl, rfl⟩ := hcs
      exact ⟨zs, .inr ⟨_, rfl, hl, hm, by simpa using hz, hcell, hwz⟩⟩
  obtain ⟨a1, rfl, rfl, rfl, w1⟩ := open_int Try.underlying3 (hval 1 3 v1 rfl rfl) h1
  obtain ⟨a2, rfl, rfl, rfl, w2⟩ := open_int Try.underlying3 (hval 2 3 v2 rfl rfl) h2
  obtain ⟨a3, rfl, rfl, rfl, w3⟩ := open_int Try.underlying60 (hval 3 60 v3 rfl rfl) h3
  clear hA0 hval0
  refine (walk a0 len0 cap0 z0 a1 a2 a3 W w0 w1 w2 w3).mono fun e W' ⟨he, bel⟩ => ?_
  subst he
  exact ⟨_, rfl, _, _, _, [], _, [], hW', trodAll_mk1 (shut_bool Try.underlying4 _), (trodAll_cons_mk (Below.trod laidOut (by kernel_rfl) (of_decide_eq_true (by kernel_rfl)) k0 bel lt0) (trodAll_cons_mk (shut_int Try.underlying3 w1) (trodAll_cons_mk (shut_int Try.underlying3 w2) (trodAll_cons_mk (shut_int Try.underlying60 w3) trodAll_mk0)))), rfl, bel.frame _, fun h => by cases h⟩

theorem over : Rows.ringComesRow.holds Try.pinned (OpenSpec.ofChange Rows.ringComesSpec) :=
  OpenClaim.holds_of_wide 8 Try.f8 rfl rfl rfl rfl rfl rfl rfl ⟨rfl, rfl, rfl, rfl, rfl⟩ rfl rfl rfl rfl rfl (by kernel_rfl) Try.func8 (by kernel_rfl)
    (of_decide_eq_true (by kernel_rfl)) (by unfold Func.isWrapper; first | (rw [if_pos (by decide +kernel)]; kernel_rfl) | (rw [if_neg (by decide +kernel)]; exact ⟨rfl, rfl⟩))
    (fun os started H enc _ => lifted os started H enc)

theorem proved : Rows.RingComesSaid := over
#print axioms proved
end Go.Proofs.Ytcmoelphjdehaaa.ringComes
