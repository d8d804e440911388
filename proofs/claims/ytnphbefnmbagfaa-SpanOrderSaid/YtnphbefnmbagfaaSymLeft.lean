/-
  What the library's symMerge does with two sorted pieces of a row of spans, whatever their lengths.
-/
import Derived.Test.YtnphbefnmbagfaaSymBase
import Derived.Deep.DeepCutAuto
namespace Go.Proofs.Ytnphbefnmbagfaa
open Go.RowKit Ru
attribute [local go_sem ↓] Go.wp_at_zero Go.wp_at_succ

set_option maxRecDepth 100000 in
set_option maxHeartbeats 16000000 in
theorem symMerge_left (N : Nat) (IH : MergeUpto N) (w0 : World) (g off : Nat) (p l r s : List SpanD) (n cp a m b : Nat) (w : World) (hN : l.length + r.length ≤ N + 1) (hst : St w0 g off (p ++ (l ++ (r ++ s))) w)
    (hn : n = p.length + l.length + r.length + s.length) (ha : a = p.length) (hm : m = a + l.length) (hb : b = m + r.length) (hl0 : 1 < l.length) (hr0 : 1 < r.length) (hsl : Sorted l) (hsr : Sorted r) (hbig : n ≤ 1000000000) (hdm0 : ∀ d : Nat, ((a : Int) + (b : Int)) / 2 = (d : Int) → d < m) :
    Calls Try.prog 52 #[.slice (some ⟨g, off, none⟩) n cp, .int .i64 (a : Nat), .int .i64 (m : Nat), .int .i64 (b : Nat), ordV] w (MergePost w0 g off p l r s) := by
  have Hst := hid_ hst
  have Hsl := hid_ hsl
  have Hsr := hid_ hsr
  have HIH := hid_ IH
  have hbn : b ≤ n := by omega
  have hl1 : m ≤ a + l.length := by omega
  have hl2 : a + l.length ≤ m := by omega
  have hr1 : b ≤ m + r.length := by omega
  have hr2 : m + r.length ≤ b := by omega
  have hp1 : p.length ≤ a := by omega
  have hp2 : a ≤ p.length := by omega
  have hs1 : b + s.length ≤ n := by omega
  have hs2 : n ≤ b + s.length := by omega
  have hlen : (p ++ (l ++ (r ++ s))).length = n := by simp only [List.length_append]; omega
  have Hlen := hid_ hlen
  have Hgl := hid_ (show ∀ q, q < l.length → (p ++ (l ++ (r ++ s))).getD (a + q) z0 = l.getD q z0 from fun q hq => by rw [get_p (j := q) (by omega), get_l hq])
  have Hgr := hid_ (show ∀ q, q < r.length → (p ++ (l ++ (r ++ s))).getD (m + q) z0 = r.getD q z0 from fun q hq => by rw [get_p (j := l.length + q) (by omega), get_p (j := q) (by omega), get_l hq])
  have eqm : ((m : Int) - (a : Int) == 1) = false := by rw [beq_eq_false_iff_ne]; omega
  have eqb : ((b : Int) - (m : Int) == 1) = false := by rw [beq_eq_false_iff_ne]; omega
  clear hst hsl hsr hb ha hn hlen hm IH
  obtain ⟨d, hd⟩ : ∃ d : Nat, d = (a + b) / 2 := ⟨_, rfl⟩
  have hdiv : ((a : Int) + (b : Int)) / 2 = (d : Int) := by omega
  have hd1 : 2 * d ≤ a + b := by omega
  have hd2 : a + b ≤ 2 * d + 1 := by omega
  clear hd
  have hdm : d < m := hdm0 d hdiv
  obtain ⟨s0, hs0⟩ : ∃ s0 : Nat, s0 = d + m - b := ⟨_, rfl⟩
  have hse : (d : Int) + (m : Int) - (b : Int) = (s0 : Int) := by omega
  have hA : a ≤ s0 := by omega
  have hC : s0 + b ≤ d + m := by omega
  have hC2 : d + m ≤ s0 + b := by omega
  have hE : s0 ≤ d := by omega
  clear hs0
  go_enter Try.func52, Try.ntmps52
  go_wp2_with fail
  go_loopw [20, 21] (fun vi vj wr => ∃ i j : Nat, vi = .int .i64 (i : Nat) ∧ vj = .int .i64 (j : Nat) ∧ s0 ≤ i ∧ i ≤ j ∧ j ≤ d ∧ Hid (s0 < i → ¬ Lt ((p ++ (l ++ (r ++ s))).getD (d + m - 1 - (i - 1)) z0) ((p ++ (l ++ (r ++ s))).getD (i - 1) z0)) ∧ Hid (j < d → Lt ((p ++ (l ++ (r ++ s))).getD (d + m - 1 - j) z0) ((p ++ (l ++ (r ++ s))).getD j z0)) ∧ St w0 g off (p ++ (l ++ (r ++ s))) wr) (fun vi vj _ => (intOf vj).toNat - (intOf vi).toNat)
  case atStart => exact ⟨s0, d, rfl, rfl, Nat.le_refl _, hE, Nat.le_refl _, hid_ (fun h => absurd h (by omega)), hid_ (fun h => absurd h (by omega)), Hst.out⟩
  case round =>
    obtain ⟨i, j, rfl, rfl, hai, hij, hjm, HI, HJ, hs⟩ := hrel
    have Hs := hid_ hs
    clear hs
    by_cases hlt : i < j
    · obtain ⟨h, hh⟩ : ∃ h : Nat, h = (i + j) / 2 := ⟨_, rfl⟩
      have hdiv2 : ((i : Int) + (j : Int)) / 2 = (h : Int) := by omega
      have hh0 : h < n := by omega
      have hh1 : i ≤ h := by omega
      have hh2 : h < j := by omega
      obtain ⟨q, hq⟩ : ∃ q : Nat, q = d + m - 1 - h := ⟨_, rfl⟩
      have hqe : (d : Int) + (m : Int) - 1 - (h : Int) = (q : Int) := by omega
      have hqw : IntKind.i64.wrap (q : Int) = (q : Int) := by rw [IntKind.wrap_i64]; omega
      have hq0 : q < n := by omega
      have Hx := hid_ (Hs.out.get (k := q) (by rw [Hlen.out]; exact hq0))
      have Hy := hid_ (Hs.out.get (k := h) (by rw [Hlen.out]; exact hh0))
      generalize hx : (p ++ (l ++ (r ++ s))).getD q z0 = x at Hx
      generalize hy : (p ++ (l ++ (r ++ s))).getD h z0 = y at Hy
      have Ex := hid_ hx
      have Ey := hid_ hy
      have Eq := hid_ hq
      have hS := pairIn_of (Below.refl wr.heap.size wr) Hx.out Hy.out
      have n1 : (h : Int) < (n : Int) := by omega
      have n2 : (0 : Int) ≤ (h : Int) := by omega
      have n3 : (q : Int) < (n : Int) := by omega
      have n4 : (0 : Int) ≤ (q : Int) := by omega
      clear hx hy hh hq
      cases hlv : lessF x y
      · as_aux_lemma =>
        have e5 := ord_less hlv
        have Hl := hid_ (less_no.1 hlv)
        clear hlv
        go_wp2_with fail
        go_region_held3 (PairIn wr g (off + q * 8) (off + h * 8) x y) (first | assumption | (refine pairIn_keep (by assumption) (by assumption)) | (refine pairIn_keep (by assumption) (Below.drew (Below.refl _ _))))
              (first | (go_at_call 40; (with_reducible refine Calls.mono (order_below x y _) ?_); rintro e w' ⟨rfl, hb'⟩))
        go_wp2_with fail
        go_roundw
        case rel =>
          refine ⟨h + 1, j, by go_num, rfl, by omega, by omega, hjm, hid_ (fun _ => by rw [Nat.add_sub_cancel, ← Eq.out, Ex.out, Ey.out]; exact Hl.out), HJ, Hs.out.keep ?_⟩
          exact And.left (by assumption)
        case measure => simp [intOf]; omega
      · as_aux_lemma =>
        have e5 := ord_less hlv
        have Hl := hid_ (less_iff.1 hlv)
        clear hlv
        go_wp2_with fail
        go_region_held3 (PairIn wr g (off + q * 8) (off + h * 8) x y) (first | assumption | (refine pairIn_keep (by assumption) (by assumption)) | (refine pairIn_keep (by assumption) (Below.drew (Below.refl _ _))))
              (first | (go_at_call 40; (with_reducible refine Calls.mono (order_below x y _) ?_); rintro e w' ⟨rfl, hb'⟩))
        go_wp2_with fail
        go_roundw
        case rel =>
          refine ⟨i, h, rfl, by go_num, hai, hh1, by omega, HI, hid_ (fun _ => by rw [← Eq.out, Ex.out, Ey.out]; exact Hl.out), Hs.out.keep ?_⟩
          exact And.left (by assumption)
        case measure => simp [intOf]; omega
    · obtain rfl : i = j := by omega
      obtain ⟨en, hen⟩ : ∃ en : Nat, en = d + m - i := ⟨_, rfl⟩
      have hene : (d : Int) + (m : Int) - (i : Int) = (en : Int) := by omega
      have he1 : en + i ≤ d + m := by omega
      have he2 : d + m ≤ en + i := by omega
      have Hcut := hid_ (show Cutting l r (i - a) (en - m) from ⟨by omega, by omega,
        cross_lt Hsl.out Hsr.out (by omega) (fun h1 h2 => by have h3 := HJ.out (by omega); rw [show d + m - 1 - i = m + (en - m - 1) by omega, show i = a + (i - a) by omega, Hgl.out _ (by omega), Hgr.out _ (by omega)] at h3; exact h3),
        cross_le Hsl.out Hsr.out (by omega) (fun h1 h2 => by have h3 := HI.out (by omega); rw [show d + m - 1 - (i - 1) = m + (en - m) by omega, show i - 1 = a + (i - a - 1) by omega, Hgl.out _ (by omega), Hgr.out _ (by omega)] at h3; exact h3)⟩)
      have hi1 : a ≤ i := by omega
      have hi2 : i ≤ m := by omega
      have hm1 : m ≤ en := by omega
      have hm2 : en ≤ b := by omega
      clear hen HI HJ hlt hai hij hjm
      obtain ⟨wo, rfl⟩ : ∃ wo : World, wo = wr := ⟨_, rfl⟩
      have El := hid_ (List.take_append_drop (i - a) l).symm
      have Er := hid_ (List.take_append_drop (en - m) r).symm
      have S1 := hid_ (Hsl.out.take (i - a))
      have S2 := hid_ (Hsl.out.drop (i - a))
      have S3 := hid_ (Hsr.out.take (en - m))
      have S4 := hid_ (Hsr.out.drop (en - m))
      have Hmk := hid_ (fun m1 m2 (s1 : Sorted m1) (a1 : Alike (l.take (i - a) ++ r.take (en - m)) m1) (s2 : Sorted m2) (a2 : Alike (l.drop (i - a) ++ r.drop (en - m)) m2) =>
        merge_ok (by rw [List.take_append_drop]; exact Hsl.out) (by rw [List.take_append_drop]; exact Hsr.out) Hcut.out.lt Hcut.out.le s1 a1 s2 a2)
      have L1 : (l.take (i - a)).length + a = i := by rw [List.length_take]; omega
      have L2 : (l.drop (i - a)).length + i = m := by rw [List.length_drop]; omega
      have L3 : (r.take (en - m)).length + m = en := by rw [List.length_take]; omega
      have L4 : (r.drop (en - m)).length + en = b := by rw [List.length_drop]; omega
      clear Hcut
      generalize l.take (i - a) = l1' at *
      generalize l.drop (i - a) = l2' at *
      generalize r.take (en - m) = r1' at *
      generalize r.drop (en - m) = r2' at *
      have K1 := hid_ L1
      have K2 := hid_ L2
      have K3 := hid_ L3
      have K4 := hid_ L4
      clear L1 L2 L3 L4
      obtain ⟨B1, hB1⟩ : ∃ B : Bool, B = (decide (i < m) && decide (m < en)) := ⟨_, rfl⟩
      have HB1 := hid_ hB1
      clear hB1
      go_upto_region 39 with fail
      go_cut [185] (fun v wq => ∃ wx : World, wx = wq ∧ v = .bool B1 ∧ St w0 g off (p ++ (l ++ (r ++ s))) wx)
      case first => as_aux_lemma =>
        rcases (show (i < m ∧ m < en) ∨ (i < m ∧ ¬ m < en) ∨ ¬ i < m by omega) with ⟨h1, h2⟩ | ⟨h1, h2⟩ | h1
        all_goals
          go_wp2_with fail
          go_meet
          refine ⟨_, rfl, ?_, Hs.out⟩
          rw [HB1.out]
          first | rw [decide_eq_true h1, decide_eq_true h2] | rw [decide_eq_true h1, decide_eq_false h2] | rw [decide_eq_false h1]
          rfl
      case rest =>
      obtain ⟨wx, rfl, rfl, hs3⟩ := hcut
      have Hs3 := hid_ hs3
      clear hs3
      go_upto_if 185 with fail
      go_cut [] (fun wq => ∃ wz : World, wz = wq ∧ St w0 g off (p ++ ((l1' ++ r1') ++ ((l2' ++ r2') ++ s))) wz)
      case first => as_aux_lemma =>
        cases hB : B1
        · have Hsk := hid_ (show St w0 g off (p ++ ((l1' ++ r1') ++ ((l2' ++ r2') ++ s))) wx from Hs3.out.to (by
            have h := HB1.out
            rw [hB] at h
            have h0 : l2' = [] ∨ r1' = [] := by
              rcases Nat.lt_or_ge i m with h1 | h1
              · rw [decide_eq_true h1] at h
                have h2 : ¬ m < en := by simpa using h
                right; exact List.eq_nil_of_length_eq_zero (by have := K3.out; omega)
              · left; exact List.eq_nil_of_length_eq_zero (by have := K2.out; omega)
            rw [El.out, Er.out]
            rcases h0 with rfl | rfl
            · simp
            · simp))
          clear hB
          go_wp2_with fail
          go_meet
          exact ⟨_, rfl, Hsk.out⟩
        · have hh : i < m ∧ m < en := by
            have h := HB1.out
            rw [hB] at h
            simpa using h.symm
          have hk2 : 0 < l2'.length := by have := K2.out; omega
          have hk3 : 0 < r1'.length := by have := K3.out; omega
          have Hrot := hid_ (rotate_any w0 g off (p ++ l1') l2' r1' (r2' ++ s) n cp i m en ordV wx (Hs3.out.to (by rw [El.out, Er.out]; simp only [List.append_assoc])) (by have := K1.out; have := K2.out; have := K3.out; have := K4.out; simp only [List.length_append]; omega) (by have := K1.out; rw [List.length_append]; omega) (by have := K2.out; omega) (by have := K3.out; omega) hk2 hk3 hbig)
          clear hB hh hk2 hk3
          go_wp2_with fail
          refine Calls.mono Hrot.out ?_
          rintro e w2 ⟨rfl, hs4⟩
          have Hs4 := hid_ hs4
          clear hs4
          go_wp2_with fail
          go_meet
          exact ⟨_, rfl, Hs4.out.to (by simp only [List.append_assoc])⟩
      case rest =>
      obtain ⟨wz, rfl, hs5⟩ := hcut
      have Hs5 := hid_ hs5
      clear hs5
      obtain ⟨B2, hB2⟩ : ∃ B : Bool, B = (decide (a < i) && decide (i < d)) := ⟨_, rfl⟩
      have HB2 := hid_ hB2
      clear hB2
      go_upto_region 41 with fail
      go_cut [199] (fun v wq => ∃ wx : World, wx = wq ∧ v = .bool B2 ∧ St w0 g off (p ++ ((l1' ++ r1') ++ ((l2' ++ r2') ++ s))) wx)
      case first => as_aux_lemma =>
        rcases (show (a < i ∧ i < d) ∨ (a < i ∧ ¬ i < d) ∨ ¬ a < i by omega) with ⟨h1, h2⟩ | ⟨h1, h2⟩ | h1
        all_goals
          go_wp2_with fail
          go_meet
          refine ⟨_, rfl, ?_, Hs5.out⟩
          rw [HB2.out]
          first | rw [decide_eq_true h1, decide_eq_true h2] | rw [decide_eq_true h1, decide_eq_false h2] | rw [decide_eq_false h1]
          rfl
      case rest =>
      obtain ⟨wy, rfl, rfl, hs6⟩ := hcut
      have Hs6 := hid_ hs6
      clear hs6
      go_upto_if 199 with fail
      go_cut [] (fun wq => ∃ (wz : World) (m1 : List SpanD), wz = wq ∧ Hid (Sorted m1) ∧ Hid (Alike (l1' ++ r1') m1) ∧ Hid (m1.length = l1'.length + r1'.length) ∧ St w0 g off (p ++ (m1 ++ ((l2' ++ r2') ++ s))) wz)
      case first => as_aux_lemma =>
        cases hB : B2
        · have h0 : l1' = [] ∨ r1' = [] := by
            have h := HB2.out
            rw [hB] at h
            rcases Nat.lt_or_ge a i with h1 | h1
            · rw [decide_eq_true h1] at h
              have h2 : ¬ i < d := by simpa using h
              right; exact List.eq_nil_of_length_eq_zero (by have := K3.out; omega)
            · left; exact List.eq_nil_of_length_eq_zero (by have := K1.out; omega)
          have Hso := hid_ (show Sorted (l1' ++ r1') by
            rcases h0 with rfl | rfl
            · exact S3.out
            · rw [List.append_nil]; exact S1.out)
          clear hB h0
          go_wp2_with fail
          go_meet
          exact ⟨_, _, rfl, Hso, hid_ (Alike.refl _), hid_ (by rw [List.length_append]), Hs6.out⟩
        · have hh : a < i ∧ i < d := by
            have h := HB2.out
            rw [hB] at h
            simpa using h.symm
          have hk2 : 0 < l1'.length := by have := K1.out; omega
          have hk3 : 0 < r1'.length := by have := K3.out; omega
          have Hrec := hid_ (HIH.out w0 g off p l1' r1' ((l2' ++ r2') ++ s) n cp a i d wy (by have := K1.out; have := K3.out; omega) (Hs6.out.to (by simp only [List.append_assoc])) (by have := K1.out; have := K2.out; have := K3.out; have := K4.out; simp only [List.length_append]; omega) (by omega) (by have := K1.out; omega) (by have := K3.out; omega) hk2 hk3 S1.out S3.out hbig)
          clear hB hh hk2 hk3
          go_wp2_with fail
          refine Calls.mono Hrec.out ?_
          rintro e w2 ⟨rfl, m1, q1, q2, q3, hs7⟩
          have Q1 := hid_ q1
          have Q2 := hid_ q2
          have Q3 := hid_ q3
          have Hs7 := hid_ hs7
          clear q1 q2 q3 hs7
          go_wp2_with fail
          go_meet
          exact ⟨_, m1, rfl, Q1, Q2, Q3, Hs7.out⟩
      case rest =>
      obtain ⟨wv, m1, rfl, Q1, Q2, Q3, hs8⟩ := hcut
      have Hs8 := hid_ hs8
      clear hs8
      obtain ⟨B3, hB3⟩ : ∃ B : Bool, B = (decide (d < en) && decide (en < b)) := ⟨_, rfl⟩
      have HB3 := hid_ hB3
      clear hB3
      go_upto_region 43 with fail
      go_cut [213] (fun v wq => ∃ wx : World, wx = wq ∧ v = .bool B3 ∧ St w0 g off (p ++ (m1 ++ ((l2' ++ r2') ++ s))) wx)
      case first => as_aux_lemma =>
        rcases (show (d < en ∧ en < b) ∨ (d < en ∧ ¬ en < b) ∨ ¬ d < en by omega) with ⟨h1, h2⟩ | ⟨h1, h2⟩ | h1
        all_goals
          go_wp2_with fail
          go_meet
          refine ⟨_, rfl, ?_, Hs8.out⟩
          rw [HB3.out]
          first | rw [decide_eq_true h1, decide_eq_true h2] | rw [decide_eq_true h1, decide_eq_false h2] | rw [decide_eq_false h1]
          rfl
      case rest =>
      obtain ⟨wt, rfl, rfl, hs9⟩ := hcut
      have Hs9 := hid_ hs9
      clear hs9
      cases hB : B3
      · as_aux_lemma =>
        have h0 : l2' = [] ∨ r2' = [] := by
          have h := HB3.out
          rw [hB] at h
          rcases Nat.lt_or_ge d en with h1 | h1
          · rw [decide_eq_true h1] at h
            have h2 : ¬ en < b := by simpa using h
            right; exact List.eq_nil_of_length_eq_zero (by have := K4.out; omega)
          · left; exact List.eq_nil_of_length_eq_zero (by have := K2.out; omega)
        have Hso := hid_ (show Sorted (l2' ++ r2') by
          rcases h0 with rfl | rfl
          · exact S4.out
          · rw [List.append_nil]; exact S2.out)
        have Hall := hid_ (Hmk.out m1 (l2' ++ r2') Q1.out Q2.out Hso.out (Alike.refl _))
        clear hB h0
        go_wp2_with fail
        go_end0
        exact mergePost_mk (by rw [El.out, Er.out]; exact Hall.out) (by rw [El.out, Er.out]; simp only [List.length_append, Q3.out]; omega) (Hs9.out.to (by simp only [List.append_assoc]))
      · as_aux_lemma =>
        have hh : d < en ∧ en < b := by
          have h := HB3.out
          rw [hB] at h
          simpa using h.symm
        have hk2 : 0 < l2'.length := by have := K2.out; omega
        have hk3 : 0 < r2'.length := by have := K4.out; omega
        have Hrec := hid_ (HIH.out w0 g off (p ++ m1) l2' r2' s n cp d en b wt (by have := K2.out; have := K4.out; omega) (Hs9.out.to (by simp only [List.append_assoc])) (by have := K1.out; have := K2.out; have := K3.out; have := K4.out; have := Q3.out; simp only [List.length_append]; omega) (by have := K1.out; have := K3.out; have := Q3.out; rw [List.length_append]; omega) (by have := K2.out; omega) (by have := K4.out; omega) hk2 hk3 S2.out S4.out hbig)
        clear hB hh hk2 hk3
        go_wp2_with fail
        refine Calls.mono Hrec.out ?_
        rintro e w2 ⟨rfl, m2, q1, q2, q3, hs7⟩
        have Hall := hid_ (Hmk.out m1 m2 Q1.out Q2.out q1 q2)
        have Q4 := hid_ q3
        have Hs7 := hid_ hs7
        clear q1 q2 q3 hs7
        go_wp2_with fail
        go_end0
        exact mergePost_mk (by rw [El.out, Er.out]; exact Hall.out) (by rw [El.out, Er.out]; simp only [List.length_append, Q3.out, Q4.out]; omega) (Hs7.out.to (by simp only [List.append_assoc]))
end Go.Proofs.Ytnphbefnmbagfaa
