/-
  One round of pdqsort at uint64, plain: its values, their sizes and ranges.
-/
import Derived.Test.YtgmeggilojcoeaaZGN1
import Derived.Sort.Walk13a
import Derived.Sort.AssemblyPlain
namespace Go.Proofs.Ytgmeggilojcoeaa
set_option linter.unusedSimpArgs false
set_option linter.unusedVariables false
open Go.RowKit Go.Sort
namespace Ns
set_option linter.unusedSimpArgs false
set_option linter.unusedVariables false
theorem piv_mid (lt : Nat → Nat → Bool) (d : Array Nat) (a b : Nat) (h : 12 < b - a) : a < (choosePivot lt d a b).1 ∧ (choosePivot lt d a b).1 + 1 < b := by
  obtain ⟨L, hL⟩ : ∃ L : Nat, b = a + L := ⟨b - a, by omega⟩
  subst hL
  obtain ⟨q, hq⟩ : ∃ q : Nat, q = L / 4 := ⟨_, rfl⟩
  have h0 : a + L - a = L := by omega
  have h8 : L ≥ 8 := by omega
  unfold choosePivot
  simp only []
  rw [h0, if_pos h8, ← hq]
  have q1 : 4 * q ≤ L := by omega
  have q2 : 3 ≤ q := by omega
  have key : ∀ i j k s : Nat, (a < i ∧ i + 1 < a + L) → (a < j ∧ j + 1 < a + L) → (a < k ∧ k + 1 < a + L) → a < (median lt d i j k s).1 ∧ (median lt d i j k s).1 + 1 < a + L := by
    intro i j k s hi hj hk
    rcases median_mem lt d i j k s with e | e | e <;> rw [e] <;> assumption
  have adj : ∀ i s : Nat, (a + 1 < i ∧ i + 2 < a + L) → a < (medianAdjacent lt d i s).1 ∧ (medianAdjacent lt d i s).1 + 1 < a + L := by
    intro i s hi
    rcases medianAdjacent_mem lt d i s with e | e | e <;> rw [e] <;> omega
  by_cases h50 : L ≥ 50
  · simp only [if_pos h50]
    exact key _ _ _ _ (adj _ _ (by omega)) (adj _ _ (by omega)) (adj _ _ (by omega))
  · simp only [if_neg h50]
    exact key _ _ _ _ (by omega) (by omega) (by omega)
/-- What a round of pdqsort reckons, and what it comes to. -/
structure RdOk (n : Nat) (dk : Array Nat) (a b lim : Nat) (wb wp : Bool) (res : Array Nat) (d1 : Array Nat) (lim' c1 : Nat) (c2 : Hint) (d2 : Array Nat) (pv : Nat) (hint : Hint) (p1 : Array Nat) (p2 : Bool) : Prop where
  no : wb = false → d1 = breakPatterns dk a b ∧ lim' = lim - 1
  yes : wb = true → d1 = dk ∧ lim' = lim
  piv : choosePivot ltN d1 a b = (c1, c2)
  dec : c2 = .decreasing → d2 = reverseRange d1 a b ∧ pv = (b - 1) - (c1 - a) ∧ hint = .increasing
  nod : c2 ≠ .decreasing → d2 = d1 ∧ pv = c1 ∧ hint = c2
  piy : (wb && wp && decide (hint = .increasing)) = true → partialInsertionSort ltN d2 a b = (p1, p2)
  pin : (wb && wp && decide (hint = .increasing)) = false → p1 = d2 ∧ p2 = false
  s1 : d1.size = n
  s2 : d2.size = n
  s3 : p1.size = n
  below : Go.Sort.Below ltN a b p1
  c1a : a < c1
  c1b : c1 + 1 < b
  pva : a < pv
  pvb : pv < b
  lim : lim' ≤ lim
  done : p2 = true → res = p1
  eq : p2 = false → (decide (a > 0) && !ltN p1[a - 1]! p1[pv]!) = true → a < (partitionEqual ltN p1 a b pv).1 → (partitionEqual ltN p1 a b pv).1 ≤ b → res = pdq ltN (partitionEqual ltN p1 a b pv).2 (partitionEqual ltN p1 a b pv).1 b lim' wb wp
  left : p2 = false → (decide (a > 0) && !ltN p1[a - 1]! p1[pv]!) = false → a ≤ (partition ltN p1 a b pv).1 → (partition ltN p1 a b pv).1 < b → (partition ltN p1 a b pv).1 - a < b - (partition ltN p1 a b pv).1 →
    res = pdq ltN (pdq ltN (partition ltN p1 a b pv).2.2 a (partition ltN p1 a b pv).1 lim' true true) ((partition ltN p1 a b pv).1 + 1) b lim' (decide ((partition ltN p1 a b pv).1 - a ≥ (b - a) / 8)) (partition ltN p1 a b pv).2.1
  right : p2 = false → (decide (a > 0) && !ltN p1[a - 1]! p1[pv]!) = false → a ≤ (partition ltN p1 a b pv).1 → (partition ltN p1 a b pv).1 < b → ¬ (partition ltN p1 a b pv).1 - a < b - (partition ltN p1 a b pv).1 →
    res = pdq ltN (pdq ltN (partition ltN p1 a b pv).2.2 ((partition ltN p1 a b pv).1 + 1) b lim' true true) a (partition ltN p1 a b pv).1 lim' (decide (b - (partition ltN p1 a b pv).1 ≥ (b - a) / 8)) (partition ltN p1 a b pv).2.1
theorem rd_ok {n : Nat} {dk : Array Nat} {a b lim : Nat} {wb wp : Bool} {res : Array Nat} (hn : dk.size = n) (h12 : ¬ b - a ≤ 12) (hb : b ≤ n) (hl0 : ¬ lim = 0) (hB : Go.Sort.Below ltN a b dk) (hres : pdq ltN dk a b lim wb wp = res) :
    ∃ d1 lim' c1 c2 d2 pv hint p1 p2, RdOk n dk a b lim wb wp res d1 lim' c1 c2 d2 pv hint p1 p2 := by
  obtain ⟨s1, B1, hc1, s2, B2, hpv, s3, B3⟩ := rd_facts (limit := lim) (wb := wb) (wp := wp) swoN partialInsertionSort_holds reverseRange_holds (show a < b by omega) (show b ≤ dk.size by omega) hB
  have hm := piv_mid ltN (rd ltN dk a b lim wb wp).d1 a b (by omega)
  rw [← rd_c] at hm
  refine ⟨(rd ltN dk a b lim wb wp).d1, (rd ltN dk a b lim wb wp).lim, (rd ltN dk a b lim wb wp).c.1, (rd ltN dk a b lim wb wp).c.2, (rd ltN dk a b lim wb wp).d2, (rd ltN dk a b lim wb wp).pivot, (rd ltN dk a b lim wb wp).hint, (rd ltN dk a b lim wb wp).pi.1, (rd ltN dk a b lim wb wp).pi.2, ?_⟩
  constructor
  · rintro rfl; exact rd_false
  · rintro rfl; exact rd_true
  · exact rd_c.symm
  · exact rd_dec
  · exact rd_not
  · intro h; exact (rd_pi_yes h).symm
  · intro h; rw [rd_pi_no h]; exact ⟨rfl, rfl⟩
  · omega
  · omega
  · omega
  · exact B3
  · exact hm.1
  · exact hm.2
  · by_cases hd : (rd ltN dk a b lim wb wp).c.2 = .decreasing
    · rw [(rd_dec hd).2.1]; omega
    · rw [(rd_not hd).2.1]; omega
  · exact hpv.2
  · exact rd_lim_le
  · intro h; rw [← hres, pdq_done h12 hl0 h]
  · intro h h2 h3 h4; rw [← hres]; exact pdq_eq h12 hl0 h h2 ⟨h3, h4⟩
  · intro h h2 h3 h4 h5; rw [← hres]; exact pdq_left h12 hl0 h h2 ⟨h3, h4⟩ h5
  · intro h h2 h3 h4 h5; rw [← hres]; exact pdq_right h12 hl0 h h2 ⟨h3, h4⟩ h5
end Ns
end Go.Proofs.Ytgmeggilojcoeaa
