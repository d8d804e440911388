/-
  What the library's rotate does with a row of spans.
-/
import Derived.Test.YtnphbefnmbagfaaSwapRange
import Derived.Test.YtnphbefnmbagfaaSortMath
namespace Go.Proofs.Ytnphbefnmbagfaa
open Go.RowKit Ru

theorem swp_get (ss : List SpanD) {i j : Nat} (hi : i < ss.length) (hj : j < ss.length) (x : Nat) : (swp ss i j).getD x z0 = if x = j then ss.getD i z0 else if x = i then ss.getD j z0 else ss.getD x z0 := by
  unfold swp
  simp only [List.getD_eq_getElem?_getD, List.getElem?_set, List.length_set]
  repeat' split
  all_goals first | rfl | (exfalso; omega)
theorem swapK_get (ss : List SpanD) (a b n : Nat) (hab : a + n ≤ b) (hb : b + n ≤ ss.length) (x : Nat) : (swapK ss a b n).getD x z0 = ss.getD (sw a b n x) z0 := by
  induction n generalizing x with
  | zero =>
    rw [swapK]
    unfold sw
    rw [if_neg (by omega), if_neg (by omega)]
  | succ n ih =>
    have hl := swapK_length ss a b n
    rw [swapK, swp_get _ (by omega) (by omega)]
    simp only [ih (by omega) (by omega)]
    by_cases h1 : x = b + n
    · rw [if_pos h1]
      congr 1
      unfold sw
      repeat' split
      all_goals omega
    · rw [if_neg h1]
      by_cases h2 : x = a + n
      · rw [if_pos h2]
        congr 1
        unfold sw
        repeat' split
        all_goals omega
      · rw [if_neg h2]
        congr 1
        unfold sw
        repeat' split
        all_goals omega

set_option maxRecDepth 100000 in
set_option maxHeartbeats 4000000 in
theorem rotate_any (w0 : World) (g off : Nat) (p b c s : List SpanD) (n cp : Nat) (a m e : Nat) (fv : Value) (w : World) (hst : St w0 g off (p ++ (b ++ (c ++ s))) w)
    (hn : n = (p ++ (b ++ (c ++ s))).length) (ha : a = p.length) (hm : m = a + b.length) (he : e = m + c.length) (hb0 : 0 < b.length) (hc0 : 0 < c.length) (hbig : n ≤ 1000000000) :
    Calls Try.prog 53 #[.slice (some ⟨g, off, none⟩) n cp, .int .i64 (a : Nat), .int .i64 (m : Nat), .int .i64 (e : Nat), fv] w fun e w' => e = .returned (.tuple #[]) ∧ St w0 g off (p ++ (c ++ (b ++ s))) w' := by
  have hlen : n = p.length + b.length + c.length + s.length := by rw [hn]; simp only [List.length_append]; omega
  have Hst := hid_ hst
  have Hend := hid_ (rot_parts p b c s)
  have Hn := hid_ hn
  generalize p ++ (b ++ (c ++ s)) = ss at *
  have Ha := hid_ ha
  have Hm := hid_ hm
  have He := hid_ he
  have hma : (m : Int) - (a : Int) = ((m - a : Nat) : Int) := by omega
  have hem : (e : Int) - (m : Int) = ((e - m : Nat) : Int) := by omega
  have i1 : 0 < m - a := by omega
  have j1 : 0 < e - m := by omega
  have q1 : m - a ≤ m := by omega
  have q2 : m + (e - m) ≤ n := by omega
  have Hfin := hid_ (show ∀ r : List SpanD, r.length = ss.length → (∀ x, r.getD x z0 = ss.getD (rot a m e x) z0) → r = p ++ (c ++ (b ++ s)) from fun r h1 h2 => Hend.out r h1 (fun x => by rw [h2 x, Ha.out, He.out, Hm.out, Ha.out]))
  clear hst hn ha hm he hlen
  go_enter Try.func53, Try.ntmps53
  go_wp2_with fail
  go_loopw [10, 11] (fun vi vj wr => ∃ (i j : Nat) (cur : List SpanD), vi = .int .i64 (i : Nat) ∧ vj = .int .i64 (j : Nat) ∧ 0 < i ∧ 0 < j ∧ i ≤ m ∧ m + j ≤ n ∧ St w0 g off cur wr ∧ Hid (cur.length = n) ∧ Hid (∀ x, cur.getD (rot (m - i) m (m + j) x) z0 = ss.getD (rot a m e x) z0)) (fun vi vj _ => (intOf vi).toNat + (intOf vj).toNat)
  case atStart => exact ⟨m - a, e - m, ss, by go_num, by go_num, i1, j1, q1, q2, Hst.out, hid_ Hn.out.symm, hid_ (fun x => by rw [show m - (m - a) = a by omega, show m + (e - m) = e by omega])⟩
  case round =>
    obtain ⟨i, j, cur, rfl, rfl, hi, hj, him, hjn, hs, HL, HX⟩ := hrel
    have Hs := hid_ hs
    have hcl := HL.out
    clear hs
    rcases Nat.lt_trichotomy j i with hlt | heq | hgt
    · have b1 : ((i : Int) != (j : Int)) = true := by rw [bne_iff_ne]; omega
      have hmi : (m : Int) - (i : Int) = ((m - i : Nat) : Int) := by omega
      have hij : (i : Int) - (j : Int) = ((i - j : Nat) : Int) := by omega
      have Hc := hid_ (swapRange_any w0 g off cur cp (m - i) m j fv wr Hs.out (by omega) (by omega) (by omega) (by omega))
      rw [hcl] at Hc
      go_wp2_with fail
      refine Calls.mono Hc.out ?_
      rintro e2 w2 ⟨rfl, hs2⟩
      have Hs2 := hid_ hs2
      clear hs2
      go_wp2_with fail
      go_roundw
      case rel => exact ⟨i - j, j, swapK cur (m - i) m j, by go_num, rfl, by omega, hj, by omega, hjn, Hs2.out, hid_ (by rw [swapK_length]; exact HL.out), hid_ (fun x => by rw [swapK_get _ _ _ _ (by omega) (by omega), rot_left him hlt, HX.out])⟩
      case measure => simp [intOf]; omega
    · subst heq
      have b1 : ((j : Int) != (j : Int)) = false := by simp
      have hmi : (m : Int) - (j : Int) = ((m - j : Nat) : Int) := by omega
      have Hc := hid_ (swapRange_any w0 g off cur cp (m - j) m j fv wr Hs.out (by omega) (by omega) (by omega) (by omega))
      rw [hcl] at Hc
      have Hdone := hid_ (Hfin.out (swapK cur (m - j) m j) (by rw [swapK_length, HL.out, Hn.out]) (fun x => by rw [swapK_get _ _ _ _ (by omega) (by omega), rot_same him, HX.out]))
      go_wp2_with fail
      refine Calls.mono Hc.out ?_
      rintro e2 w2 ⟨rfl, hs2⟩
      have Hs2 := hid_ (hs2.to Hdone.out)
      clear hs2
      go_wp2_with fail
      go_end0
      exact ⟨rfl, Hs2.out⟩
    · have b1 : ((i : Int) != (j : Int)) = true := by rw [bne_iff_ne]; omega
      have hmi : (m : Int) - (i : Int) = ((m - i : Nat) : Int) := by omega
      have hmj : (m : Int) + (j : Int) - (i : Int) = ((m + j - i : Nat) : Int) := by omega
      have hji : (j : Int) - (i : Int) = ((j - i : Nat) : Int) := by omega
      have Hc := hid_ (swapRange_any w0 g off cur cp (m - i) (m + j - i) i fv wr Hs.out (by omega) (by omega) (by omega) (by omega))
      rw [hcl] at Hc
      go_wp2_with fail
      refine Calls.mono Hc.out ?_
      rintro e2 w2 ⟨rfl, hs2⟩
      have Hs2 := hid_ hs2
      clear hs2
      go_wp2_with fail
      go_roundw
      case rel => exact ⟨i, j - i, swapK cur (m - i) (m + j - i) i, rfl, by go_num, hi, by omega, him, by omega, Hs2.out, hid_ (by rw [swapK_length]; exact HL.out), hid_ (fun x => by rw [swapK_get _ _ _ _ (by omega) (by omega), rot_right him hgt, HX.out])⟩
      case measure => simp [intOf]; omega
end Go.Proofs.Ytnphbefnmbagfaa
