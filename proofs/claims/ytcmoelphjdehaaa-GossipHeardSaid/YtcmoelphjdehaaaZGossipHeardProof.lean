/-
  GossipHeard: a node never suspects a member that it hears within each wait; one that is silent is Gone at last, and the node tells of it by a pick alone; for waits and periods of 1 to 1000 and at most 50 steps; of other input only the chapter's example is asked; no condition on the input.
  The frame round the walk is written by the guide's own program for this statement.
-/
import Derived.Test.YtcmoelphjdehaaaZGG4
import Derived.Test.YtcmoelphjdehaaaRows
import Derived.WalkKit
import Derived.ProofKit
import Derived.OpenShut
import Derived.ShutString
import Derived.ChangeOld
import Derived.Below
namespace Go.Proofs.Ytcmoelphjdehaaa.gossipHeard
set_option linter.unusedSimpArgs false
set_option linter.unusedVariables false
open Go.ChangeShapes Go.WideShapes Go.ChangeAt Go.RowKit
open Go.ChangeMaps (open_string shut_string)
set_option linter.unusedVariables false

theorem own : ownKnob Try.prog.godebug = none := by kernel_rfl
theorem laidOut : laidOutB Try.prog = true := by kernel_rfl

/-- WHAT THE WALK IS TOLD OF A SLICE OF INTEGERS THAT CAME IN: it is nil; or it leads to a row of 'cap' cells, the numbers 'zs' (the first 'len' are its elements, the rest its spare room), each fitting its kind. -/
def IsRow (k : IntKind) (w : World) (a : Option Addr) (len cap : Nat) (zs : List Int) : Prop :=
  (a = none ∧ len = 0 ∧ cap = 0 ∧ zs = []) ∨
  ∃ x, a = some x ∧ len ≤ cap ∧ cap ≤ maxLen ∧ zs.length = cap ∧ (∀ i, i < zs.length → w.cell? (x.add i) = some (.int k (zs.getD i 0))) ∧ ∀ n ∈ zs, (Lit.int k n).wf = true

open Ru Vw Gs
set_option maxRecDepth 100000 in
set_option maxHeartbeats 40000000 in
theorem walk (a0 : Int) (a1 : Int) (a2 : Option Addr) (len2 cap2 : Nat) (z2 : List Int) (w : World) (w0 : (Lit.int .u64 a0).wf = true) (w1 : (Lit.int .u64 a1).wf = true) (w2 : IsRow .u64 w a2 len2 cap2 z2) :
    Calls Try.prog 10 #[.int .u64 a0, .int .u64 a1, .slice a2 len2 cap2] w fun e w' => e = .returned (.bool true) ∧ Below w.heap.size w w' := by
  obtain ⟨per, rfl, hs0⟩ := num_of w0
  obtain ⟨wai, rfl, hs1⟩ := num_of w1
  obtain ⟨ids, hids, hbd, hpl⟩ := nums_of w2
  have hl := hids.len
  have hle := Nat.le_trans hids.cap hids.max
  have HA := hid_ (fun W => alive_any W)
  have HIds := hid_ hids
  have HLen := hid_ hl
  clear hids hbd hpl hl w2
  by_cases k0 : 50 < len2
  · have t00 : decide ((len2 : Int) > 50) = true := decide_eq_true (by omega)
    have t01 : decide ((50 : Int) < (len2 : Int)) = true := decide_eq_true (by omega)
    have t02 : decide (50 < len2) = true := decide_eq_true (by omega)
    clear k0
    go_enter Try.func10, Try.ntmps10
    go_wp2_with fail
    refine Calls.mono (HA.out _) ?_
    rintro e wz ⟨rfl, hbz⟩
    have HBz := hid_ hbz
    clear hbz
    go_wp2_with fail
    go_ret
    exact ⟨rfl, HBz.out⟩
  have t00 : decide ((len2 : Int) > 50) = false := decide_eq_false (by omega)
  have t01 : decide ((50 : Int) < (len2 : Int)) = false := decide_eq_false (by omega)
  have t02 : decide (50 < len2) = false := decide_eq_false (by omega)
  by_cases k1 : per < 1
  · have t10 : decide (per < 1) = true := decide_eq_true (by omega)
    have t11 : decide ((per : Int) < 1) = true := decide_eq_true (by omega)
    clear k0 k1
    go_enter Try.func10, Try.ntmps10
    go_wp2_with fail
    refine Calls.mono (HA.out _) ?_
    rintro e wz ⟨rfl, hbz⟩
    have HBz := hid_ hbz
    clear hbz
    go_wp2_with fail
    go_ret
    exact ⟨rfl, HBz.out⟩
  have t10 : decide (per < 1) = false := decide_eq_false (by omega)
  have t11 : decide ((per : Int) < 1) = false := decide_eq_false (by omega)
  by_cases k2 : wai < 1
  · have t20 : decide (wai < 1) = true := decide_eq_true (by omega)
    have t21 : decide ((wai : Int) < 1) = true := decide_eq_true (by omega)
    clear k0 k1 k2
    go_enter Try.func10, Try.ntmps10
    go_wp2_with fail
    refine Calls.mono (HA.out _) ?_
    rintro e wz ⟨rfl, hbz⟩
    have HBz := hid_ hbz
    clear hbz
    go_wp2_with fail
    go_ret
    exact ⟨rfl, HBz.out⟩
  have t20 : decide (wai < 1) = false := decide_eq_false (by omega)
  have t21 : decide ((wai : Int) < 1) = false := decide_eq_false (by omega)
  by_cases k3 : 1000 < per
  · have t30 : decide (per > 1000) = true := decide_eq_true (by omega)
    have t31 : decide ((1000 : Int) < (per : Int)) = true := decide_eq_true (by omega)
    have t32 : decide (1000 < per) = true := decide_eq_true (by omega)
    clear k0 k1 k2 k3
    go_enter Try.func10, Try.ntmps10
    go_wp2_with fail
    refine Calls.mono (HA.out _) ?_
    rintro e wz ⟨rfl, hbz⟩
    have HBz := hid_ hbz
    clear hbz
    go_wp2_with fail
    go_ret
    exact ⟨rfl, HBz.out⟩
  have t30 : decide (per > 1000) = false := decide_eq_false (by omega)
  have t31 : decide ((1000 : Int) < (per : Int)) = false := decide_eq_false (by omega)
  have t32 : decide (1000 < per) = false := decide_eq_false (by omega)
  by_cases k4 : 1000 < wai
  · have t40 : decide (wai > 1000) = true := decide_eq_true (by omega)
    have t41 : decide ((1000 : Int) < (wai : Int)) = true := decide_eq_true (by omega)
    have t42 : decide (1000 < wai) = true := decide_eq_true (by omega)
    clear k0 k1 k2 k3 k4
    go_enter Try.func10, Try.ntmps10
    go_wp2_with fail
    refine Calls.mono (HA.out _) ?_
    rintro e wz ⟨rfl, hbz⟩
    have HBz := hid_ hbz
    clear hbz
    go_wp2_with fail
    go_ret
    exact ⟨rfl, HBz.out⟩
  have t40 : decide (wai > 1000) = false := decide_eq_false (by omega)
  have t41 : decide ((1000 : Int) < (wai : Int)) = false := decide_eq_false (by omega)
  have t42 : decide (1000 < wai) = false := decide_eq_false (by omega)
  have hper : 1 ≤ per ∧ per ≤ 1000 := ⟨by omega, by omega⟩
  have hwai : 1 ≤ wai ∧ wai ≤ 1000 := ⟨by omega, by omega⟩
  have hl50 : len2 ≤ 50 := by omega
  have hok : newOk 1 1 per wai = true := by
    unfold newOk
    simp only [Bool.and_eq_true, decide_eq_true_eq]
    omega
  have HNw := hid_ (show Calls Try.prog 39 #[.int .u64 1, .int .u64 1, .int .u64 (per : Nat), .int .u64 (wai : Nat), .int .u64 0] w (NewPost w 1 1 per wai 0) from new_any 1 1 per wai 0 w (by omega) (by omega) (by omega))
  have HOk := hid_ hok
  clear k0 k1 k2 k3 k4 hok
  go_enter Try.func10, Try.ntmps10
  go_wp2_with fail
  refine Calls.mono HNw.out ?_
  rintro e w1 h1
  rcases h1 with ⟨h1, -, -⟩ | ⟨-, g, Q, rfl, hnd, hown, hb⟩
  · rw [HOk.out] at h1; cases h1
  have HN := hid_ (show NdB w.heap.size w w1 g Q (newD 1 1 per wai 0) from ⟨hnd, hb, hown, Nat.le_refl _⟩)
  have HN2 := hid_ (HN.out.later ((Below.refl _ _).alloc (Nat.le_refl _) (.cells #[.int .u64 2, .int .u64 1, .int .i64 0, .int .u64 3, .int .u64 1, .int .i64 0] 82)))
  have hwf : ∀ m ∈ ([⟨2, 1, 0⟩, ⟨3, 1, 0⟩] : List MemberD), m.Wf := by
    intro m hm
    rcases List.mem_cons.1 hm with rfl | hm
    · exact wf_small 2 1 0 (by omega) (by omega) rfl
    · rw [List.mem_singleton] at hm
      subst hm
      exact wf_small 3 1 0 (by omega) (by omega) rfl
  have HRow := hid_ (show MemRow (w1.alloc (.cells #[.int .u64 2, .int .u64 1, .int .i64 0, .int .u64 3, .int .u64 1, .int .i64 0] 82)) (some ⟨w1.heap.size, 0, none⟩) 2 2 [⟨2, 1, 0⟩, ⟨3, 1, 0⟩] from
    memRow_of_enc (Enc.own_litK (E := memE) (e := 82) w1 [⟨2, 1, 0⟩, ⟨3, 1, 0⟩] _ rfl 2 rfl (by decide) 0 (Nat.zero_le _)).row)
  have HH := hid_ (show Calls Try.prog 43 #[.pointer (some ⟨g, 0, none⟩), .int .u64 2, .slice (some ⟨w1.heap.size, 0, none⟩) 2 2, .int .u64 0] _ _ from
    hear_any g Q _ 2 0 _ 2 2 [⟨2, 1, 0⟩, ⟨3, 1, 0⟩] _ HN2.out.nd HRow.out hwf (fun a e _ hq => by cases e; exact HN.out.row_new _ (Nat.le_refl _) hq) (by omega))
  have hstart := hst_start per wai
  clear hnd hown hb hwf HNw
  go_wp2_with fail
  refine Calls.mono HH.out ?_
  rintro e w2 h2
  obtain ⟨v, rfl, hv, Q2, h3, -, -⟩ := HN2.out.post h2
  obtain rfl : v = .int .i64 (hearK (newD 1 1 per wai 0) [⟨2, 1, 0⟩, ⟨3, 1, 0⟩]) := hv
  have HN3 := hid_ h3
  have HS3 := hid_ hstart.2
  generalize hearD (newD 1 1 per wai 0) 2 [⟨2, 1, 0⟩, ⟨3, 1, 0⟩] 0 = d0 at *
  generalize hearK (newD 1 1 per wai 0) [⟨2, 1, 0⟩, ⟨3, 1, 0⟩] = kz at *
  clear h2 h3 hstart HN HN2 HRow HH
  go_wp2_with fail
  go_loopw [9, 10] (fun vn vi wr => ∃ (k now due : Nat) (s : Int) (d : NodeD) (Q : Nat → Prop), k ≤ len2 ∧ vi = .int .i64 (k : Nat) ∧ vn = .int .u64 (now : Nat) ∧ now ≤ 1000 * k ∧ due ≤ now + per ∧ (0 ≤ s ∧ s ≤ 2) ∧ Hid (NdB w.heap.size w wr g Q d) ∧ Hid (HSt per wai now due s now d)) (fun _ vi _ => len2 - (intOf vi).toNat)
  case atStart => exact ⟨0, 0, 0, 0, d0, Q2, Nat.zero_le _, rfl, rfl, Nat.le_refl _, Nat.zero_le _, ⟨by omega, by omega⟩, HN3, HS3⟩
  case round =>
    obtain ⟨k, now, due, s, d, Q, hk, rfl, rfl, hnow, hdue, hs, HN, HS⟩ := hrel
    by_cases hlt : k < len2
    · obtain ⟨gi, oi, rfl, hbi, hci⟩ := (HIds.out.below HN.out.below).at_ (k := k) (by rw [HLen.out]; exact hlt)
      have c0 : wr.cell? ⟨gi, oi + k, none⟩ = some (.int .u64 (ids[k]'(by rw [HLen.out]; exact hlt) : Nat)) := by
        have := hci 0 _ rfl
        rwa [show oi + k * Rg.numE.K + 0 = oi + k by show oi + k * 1 + 0 = _; omega] at this
      clear hci
      generalize ids[k]'(by rw [HLen.out]; exact hlt) = x at *
      obtain ⟨r, hr⟩ : ∃ r : Nat, r = x % wai := ⟨_, rfl⟩
      have hrl : r < wai := by rw [hr]; exact Nat.mod_lt _ (by omega)
      obtain ⟨t, ht⟩ : ∃ t : Nat, t = now + r := ⟨_, rfl⟩
      have f1 : Int.tmod (x : Int) (wai : Int) = (r : Int) := by rw [hr]; rfl
      have f2 : (x : Int) % (wai : Int) = (r : Int) := by rw [hr]; rfl
      have f3 : ((wai : Int) == 0) = false := by rw [beq_eq_false_iff_ne]; omega
      have f4 : (wai == 0) = false := by rw [beq_eq_false_iff_ne]; omega
      have f5 : IntKind.u64.wrap ((now : Int) + (r : Int)) = (t : Int) := by rw [wrap_u64, ht]; omega
      have i0 : (0 : Int) ≤ (k : Int) := by omega
      have i1 : (k : Int) < (len2 : Int) := by omega
      have HK := hid_ (And.intro hlt (show t ≤ 1000 * (k + 1) by omega))
      have HT := hid_ (tick_two HN.out HS.out hs t (by omega) (by omega) (by omega) (by omega) hdue)
      have htn : now ≤ t := by omega
      clear hr ht hlt hrl hnow hdue hs
      go_wp2_with fail
      refine Calls.mono HT.out ?_
      rintro e w3 ⟨A3, m3, c3, due', s', Q', d', rfl, h4, h5, h6, h7⟩
      have HN4 := hid_ h4
      have HS4 := hid_ h5
      have HD4 := hid_ (And.intro h6 h7)
      have HV := hid_ (view_any g Q' d' w3 h4.nd)
      clear h4 h5 h6 h7 HT HN HS
      go_wp2_with fail
      refine Calls.mono HV.out ?_
      rintro e w4 ⟨A4, c4, rfl, hm4, -, hb4⟩
      rw [HS4.out.2.2.2.2.2.2.1] at hm4
      have hml : d'.ms.length = 3 := by rw [HS4.out.2.2.2.2.2.2.1]; rfl
      rw [hml]
      have HF := hid_ (show Calls Try.prog 47 #[.slice A4 3 c4, .int .u64 2] w4 (FindPost w4 (some ⟨2, 1, 0⟩)) from rfind_any A4 3 c4 (threeM s') 2 w4 hm4)
      unfold FindPost foundV at HF
      have HN5 := hid_ (HN4.out.later hb4)
      clear hm4 hml hb4 HV HN4
      go_wp2_with fail
      refine Calls.mono HF.out ?_
      rintro e w5 ⟨rfl, hb5⟩
      have HN6 := hid_ ((HN5.out.later hb5).later ((Below.refl _ _).alloc (Nat.le_refl _) (.cells #[.int .u64 2, .int .u64 1, .int .i64 0] 82)))
      have HH := hid_ (hear_two HN6.out HS4.out HD4.out.1 t (Nat.le_refl _) (by have := HK.out.2; omega))
      simp only [World.size_alloc] at HH
      clear hb5 HF HN5
      go_wp2_with fail
      refine Calls.mono HH.out ?_
      rintro e w7 ⟨kk, Q7, d7, rfl, h8, h9⟩
      have HN7 := hid_ h8
      have HS7 := hid_ h9
      clear h8 h9 HH HN6
      go_wp2_with fail
      go_roundw
      case rel => exact ⟨k + 1, t, due', s', d7, Q7, by have := HK.out.1; omega, by go_num, rfl, HK.out.2, HD4.out.2, HD4.out.1, HN7, HS7⟩
      case measure => have := HK.out.1; simp [intOf]; omega
    · obtain rfl : k = len2 := by omega
      obtain ⟨q1, hq1⟩ : ∃ q1 : Nat, q1 = 3 * wai := ⟨_, rfl⟩
      obtain ⟨q2, hq2⟩ : ∃ q2 : Nat, q2 = 3 * per := ⟨_, rfl⟩
      obtain ⟨q3, hq3⟩ : ∃ q3 : Nat, q3 = now + q1 := ⟨_, rfl⟩
      obtain ⟨late, hlate⟩ : ∃ late : Nat, late = q3 + q2 := ⟨_, rfl⟩
      obtain ⟨more, hmore⟩ : ∃ more : Nat, more = late + per := ⟨_, rfl⟩
      have f1 : IntKind.u64.wrap (3 * (wai : Int)) = (q1 : Int) := by rw [wrap_u64, hq1]; omega
      have f2 : IntKind.u64.wrap (3 * (per : Int)) = (q2 : Int) := by rw [wrap_u64, hq2]; omega
      have f3 : IntKind.u64.wrap ((now : Int) + (q1 : Int)) = (q3 : Int) := by rw [wrap_u64, hq3]; omega
      have f4 : IntKind.u64.wrap ((q3 : Int) + (q2 : Int)) = (late : Int) := by rw [wrap_u64, hlate]; omega
      have f5 : IntKind.u64.wrap ((late : Int) + (per : Int)) = (more : Int) := by rw [wrap_u64, hmore]; omega
      have hl1 : now ≤ late ∧ due ≤ late ∧ 3 * wai ≤ late ∧ more = late + per ∧ more < 1000000 := ⟨by omega, by omega, by omega, by omega, by omega⟩
      have HL := hid_ hl1
      have HH := hid_ (hear_two HN.out HS.out hs late (by omega) (by omega))
      have HSs := hid_ hs
      clear hq1 hq2 hq3 hlate hmore hlt hl1 hs hdue hnow
      go_wp2_with fail
      refine Calls.mono HH.out ?_
      rintro e w3 ⟨kk, Q3, d3, rfl, h3, h4⟩
      have HN3 := hid_ h3
      have HT := hid_ (tick_late h3 h4 late (Nat.le_refl _) HL.out.2.1 (Nat.le_refl _) (by omega) (by have := HL.out; omega))
      clear h3 h4 HH HN HS
      go_wp2_with fail
      refine Calls.mono HT.out ?_
      rintro e w4 ⟨Aa, ca, Q4, d4, rfl, -, h5, h6⟩
      have HN4 := hid_ h5
      have HH2 := hid_ (hear_two h5 h6 (by have h9 := nextF_in (a := late) (b := wai) HSs.out; exact ⟨h9.1, h9.2.1⟩) more (by have := HL.out; omega) (by have := HL.out; omega))
      clear h5 h6 HT HN3
      go_wp2_with fail
      refine Calls.mono HH2.out ?_
      rintro e w5 ⟨k5, Q5, d5, rfl, h7, h8⟩
      have HT2 := hid_ (tick_late h7 h8 more (Nat.le_refl _) (by have := HL.out; omega) (Nat.le_refl _) (by omega) (by have := HL.out; omega))
      clear h7 h8 HH2 HN4
      go_wp2_with fail
      refine Calls.mono HT2.out ?_
      rintro e w6 ⟨Ab, cb, Q6, d6, rfl, hrb, h9, h10⟩
      have hlast : nextF (nextF s late wai) more wai = 2 := by rw [HL.out.2.2.2.1]; exact last_state HSs.out HL.out.2.2.1 (by omega)
      rw [hlast] at h10
      obtain ⟨gb, ob, rfl, _, hcb0⟩ := hrb.at_ (k := 0) (by decide)
      have HRb := hid_ hrb
      have hbc := hrb.cap
      have hbm := hrb.max
      have HN6 := hid_ h9
      have hms := h10.2.2.2.2.2.2.1
      have HMs := hid_ hms
      have HV := hid_ (view_any g Q6 d6 w6 h9.nd)
      clear hrb h9 h10 hcb0 HT2
      go_wp2_with fail
      refine Calls.mono HV.out ?_
      rintro e w7 ⟨A7, c7, rfl, hm7, -, hb7⟩
      have hml : d6.ms.length = 3 := by rw [hms]; rfl
      rw [hms] at hm7
      rw [hml]
      have HF := hid_ (show Calls Try.prog 47 #[.slice A7 3 c7, .int .u64 3] w7 (FindPost w7 (some ⟨3, 1, 2⟩)) from rfind_any A7 3 c7 (threeM 2) 3 w7 hm7)
      unfold FindPost foundV at HF
      have HN7 := hid_ (HN6.out.later hb7)
      have HRb7 := hid_ (HRb.out.below hb7)
      clear hm7 hml hb7 HV hms
      go_wp2_with fail
      refine Calls.mono HF.out ?_
      rintro e w8 ⟨rfl, hb8⟩
      have HN8 := hid_ ((HN7.out.later hb8).later ((Below.refl _ _).alloc (Nat.le_refl _) (.cells #[.int .u64 3, .int .u64 1, .int .i64 2] 82)))
      have HRb8 := hid_ ((HRb7.out.below hb8).below ((Below.refl _ _).alloc (Nat.le_refl _) (.cells #[.int .u64 3, .int .u64 1, .int .i64 2] 82)))
      have HM8 := hid_ (whole_new w8 82 #[.int .u64 3, .int .u64 1, .int .i64 2])
      have HV8 := hid_ (view_any g Q6 d6 _ HN8.out.nd)
      clear hb8 HF
      go_wp2_with fail
      refine Calls.mono HV8.out ?_
      rintro e w9 ⟨A9, c9, rfl, hm9, -, hb9⟩
      have hml : d6.ms.length = 3 := by rw [HMs.out]; rfl
      rw [HMs.out] at hm9
      rw [hml]
      have HF9 := hid_ (show Calls Try.prog 47 #[.slice A9 3 c9, .int .u64 2] w9 (FindPost w9 (some ⟨2, 1, 0⟩)) from rfind_any A9 3 c9 (threeM 2) 2 w9 hm9)
      unfold FindPost foundV at HF9
      have HN9 := hid_ (HN8.out.later hb9)
      have HRb9 := hid_ (HRb8.out.below hb9)
      have HM9 := hid_ (HM8.out.below hb9 (by simp))
      clear hm9 hml hb9 HV8
      generalize w8.heap.size = g8 at *
      go_wp2_with fail
      refine Calls.mono HF9.out ?_
      rintro e w10 ⟨rfl, hb10⟩
      have HN10 := hid_ ((HN9.out.later hb10).later ((Below.refl _ _).alloc (Nat.le_refl _) (.cells #[.int .u64 2, .int .u64 1, .int .i64 0] 82)))
      have HRb10 := hid_ (HRb9.out.below hb10)
      have HM10 := hid_ (HM9.out.below hb10 HM9.out.lt)
      obtain ⟨gb2, ob2, eb, hgb, hb0⟩ := HRb10.out.at_ (k := 0) (by decide)
      obtain ⟨gb3, ob3, eb3, _, hb1⟩ := HRb10.out.at_ (k := 1) (by decide)
      cases eb
      cases eb3
      have y0 : w10.cell? ⟨gb, ob, none⟩ = some (.int .u64 2) := hb0 0 _ rfl
      have y1 : w10.cell? ⟨gb, ob + 1, none⟩ = some (.int .u64 3) := hb1 0 _ rfl
      have y2 : w10.cell? ⟨g8, 2, none⟩ = some (.int .i64 2) := HM10.out.cell 2 _ rfl
      have hg8 : g8 < w10.heap.size := HM10.out.lt
      clear hb10 HF9 hb0 hb1
      go_wp2_with fail
      refine Calls.mono (HA.out _) ?_
      rintro e wz ⟨rfl, hbz⟩
      have HBz := hid_ (HN10.out.below.trans (hbz.mono HN10.out.below.size))
      clear hbz
      go_wp2_with fail
      go_ret
      exact ⟨rfl, HBz.out⟩

set_option maxRecDepth 100000 in
theorem lifted (os : Os) (started : os.Started) (H : Type) (enc : TypeId × Value → H) :
    ReturnsInHanded {} Try.checked os 10 .any (Rows.gossipHeardSpec.pre6 enc Try.prog Try.f10 Rows.gossipHeardRow.domain false) (Rows.gossipHeardSpec.post enc Try.prog Try.f10 false true false false) := by
  refine returnsInHanded_of_change (C := Try.checked) own started (by kernel_rfl) Try.func10
    (ChangeSpec.witness6 (enc := enc) (C := Try.checked) false ⟨#[], #[.int .u64 0, .int .u64 0, .slice none 0 0], []⟩ 8 (by kernel_rfl) (by kernel_rfl) (by kernel_rfl) (by kernel_rfl)) ?_
  intro W base args ds gs before hval0 hW hcnd _
  have hval : ∀ (j : Nat) t v, Try.f10.params[j]? = some t → args[j]? = some v → Value.okWide Try.prog W .any base t v := hval0
  have hW' := hW
  obtain ⟨p, q, hA0, hV, rfl, hfz, hnd⟩ := hW
  have hA : DataW.TrodAll enc Try.prog W 0 (fun _ => true) true Try.f10.params.toList args.toList ds p := hA0
  rw [Try.params10] at hA hval
  obtain ⟨v0, vs0, d0, ds0, p0, q0, hargs, rfl, rfl, h0, r0⟩ := trodAll_cons hA
  obtain ⟨v1, vs1, d1, ds1, p1, q1, rfl, rfl, rfl, h1, r1⟩ := trodAll_cons r0
  obtain ⟨v2, vs2, d2, ds2, p2, q2, rfl, rfl, rfl, h2, r2⟩ := trodAll_cons r1
  obtain ⟨rfl, rfl, rfl⟩ := trodAll_nil r2
  obtain rfl : args = #[v0, v1, v2] := by cases args; simp_all
  obtain ⟨rfl, rfl⟩ := trodVars_none hV
  obtain ⟨a0, rfl, rfl, rfl, w0⟩ := open_int Try.underlying60 (hval 0 60 v0 rfl rfl) h0
  obtain ⟨a1, rfl, rfl, rfl, w1⟩ := open_int Try.underlying60 (hval 1 60 v1 rfl rfl) h1
  obtain ⟨a2, len2, cap2, rfl⟩ := okWide_slice Try.underlying65 (hval 2 65 v2 rfl rfl)
  have k2 := h2
  have lt2 : ∀ x ∈ p2, x.block < W.heap.size := by obtain ⟨m, hm⟩ := k2; exact DataW.trod_lt m _ _ _ hm
  obtain ⟨z2, w2⟩ : ∃ zs, IsRow .u64 W a2 len2 cap2 zs := by
    obtain ⟨fuel, hf⟩ := h2
    rcases open_ints Try.underlying65 Try.underlying60 (by kernel_rfl) hf with ⟨hcs, _⟩ | ⟨x, l, c, zs, hcs, _, hl, hm, hz, _, hcell, hwz⟩
    · simp [Value.cells] at hcs
      obtain ⟨rfl, rfl, rfl⟩ := hcs
      exact ⟨[], .inl ⟨rfl, rfl, rfl, rfl⟩⟩
    · simp [Value.cells] at hcs
      obtain ⟨rfl, rfl, rfl⟩ := hcs
      exact ⟨zs, .inr ⟨_, rfl, hl, hm, by simpa using hz, hcell, hwz⟩⟩
  clear hA0 hval0
  refine (walk a0 a1 a2 len2 cap2 z2 W w0 w1 w2).mono fun e W' ⟨he, bel⟩ => ?_
  subst he
  exact ⟨_, rfl, _, _, _, [], _, [], hW', trodAll_mk1 (shut_bool Try.underlying4 _), (trodAll_cons_mk (shut_int Try.underlying60 w0) (trodAll_cons_mk (shut_int Try.underlying60 w1) (trodAll_cons_mk (Below.trod laidOut (by kernel_rfl) (of_decide_eq_true (by kernel_rfl)) k2 bel lt2) trodAll_mk0))), rfl, bel.frame _, fun h => by cases h⟩

theorem over : Rows.gossipHeardRow.holds Try.pinned (OpenSpec.ofChange Rows.gossipHeardSpec) :=
  OpenClaim.holds_of_wide 10 Try.f10 rfl rfl rfl rfl rfl rfl rfl ⟨rfl, rfl, rfl, rfl, rfl⟩ rfl rfl rfl rfl rfl (by kernel_rfl) Try.func10 (by kernel_rfl)
    (of_decide_eq_true (by kernel_rfl)) (by unfold Func.isWrapper; first | (rw [if_pos (by decide +kernel)]; kernel_rfl) | (rw [if_neg (by decide +kernel)]; exact ⟨rfl, rfl⟩))
    (fun os started H enc _ => lifted os started H enc)

theorem proved : Rows.GossipHeardSaid := over
#print axioms proved
end Go.Proofs.Ytcmoelphjdehaaa.gossipHeard
