/-
  Plain facts on lists that are sorted in runs of one length. No program is named here.
-/
import Derived.Test.YtnphbefnmbagfaaSortMath
namespace Go.Proofs.Ytnphbefnmbagfaa

def Al (k c : Nat) : Prop := ∃ j, c = j * k
theorem al_zero (k : Nat) : Al k 0 := ⟨0, by simp⟩
theorem Al.next {k c : Nat} (h : Al k c) : Al k (c + k) := by
  obtain ⟨j, rfl⟩ := h
  exact ⟨j + 1, by rw [Nat.add_mul, Nat.one_mul]⟩
theorem Al.gap {k a c : Nat} (ha : Al k a) (hc : Al k c) (h : c < a) : c + k ≤ a := by
  obtain ⟨i, rfl⟩ := ha
  obtain ⟨j, rfl⟩ := hc
  have h1 : j < i := Nat.lt_of_mul_lt_mul_right h
  have h2 := Nat.mul_le_mul_right k (show j + 1 ≤ i from h1)
  rwa [Nat.add_mul, Nat.one_mul] at h2
theorem Al.half {k c : Nat} (h : Al (2 * k) c) : Al k c := by
  obtain ⟨j, rfl⟩ := h
  exact ⟨j * 2, by rw [Nat.mul_assoc]⟩
/-- From lo on each run of k, as far as hi, is sorted. -/
def Runs (k lo hi : Nat) (ss : List SpanD) : Prop := ∀ c u v, Al k c → lo ≤ c → c ≤ u → u ≤ v → v < c + k → v < hi → ¬ Lt (ss.getD v z0) (ss.getD u z0)
theorem runs_none (k : Nat) (ss : List SpanD) : Runs k 0 0 ss := fun _ _ _ _ _ _ _ _ h => absurd h (by omega)
theorem runs_grow {k a : Nat} {p l m s : List SpanD} (h : Runs k 0 a (p ++ (l ++ s))) (ha : Al k a) (hp : p.length = a) (hs : Sorted m) : Runs k 0 (a + m.length) (p ++ (m ++ s)) := by
  intro c u v hc _ hu huv hv hva
  by_cases hlt : v < a
  · have h1 := h c u v hc (by omega) hu huv hv hlt
    rw [get_l (l := p) (k := v) (by omega), get_l (l := p) (k := u) (by omega)] at h1
    rw [get_l (l := p) (k := v) (by omega), get_l (l := p) (k := u) (by omega)]
    exact h1
  · have hca : a ≤ c := by
      rcases Nat.lt_or_ge c a with h2 | h2
      · have := ha.gap hc h2; omega
      · exact h2
    rw [get_p (p := p) (k := v) (j := v - a) (by omega), get_p (p := p) (k := u) (j := u - a) (by omega), get_l (l := m) (k := v - a) (by omega), get_l (l := m) (k := u - a) (by omega)]
    exact sorted_get hs (by omega) (by omega)
theorem runs_rest {k a e hi : Nat} {p l m s : List SpanD} (h : Runs k a hi (p ++ (l ++ s))) (hp : p.length = a) (hl : m.length = l.length) (he : e = a + l.length) : Runs k e hi (p ++ (m ++ s)) := by
  intro c u v hc h0 hu huv hv hva
  have h1 := h c u v hc (by omega) hu huv hv hva
  rw [get_p (p := p) (k := v) (j := v - a) (by omega), get_p (p := p) (k := u) (j := u - a) (by omega), get_p (p := l) (k := v - a) (j := v - a - l.length) (by omega), get_p (p := l) (k := u - a) (j := u - a - l.length) (by omega)] at h1
  rw [get_p (p := p) (k := v) (j := v - a) (by omega), get_p (p := p) (k := u) (j := u - a) (by omega), get_p (p := m) (k := v - a) (j := v - a - l.length) (by omega), get_p (p := m) (k := u - a) (j := u - a - l.length) (by omega)]
  exact h1
theorem runs_two {k a n : Nat} {ss : List SpanD} (h : Runs (2 * k) 0 a ss) (h2 : Runs k a n ss) (ha : Al (2 * k) a) (hn : n ≤ a + k) : Runs (2 * k) 0 n ss := by
  intro c u v hc _ hu huv hv hvn
  rcases Nat.lt_trichotomy c a with h3 | h3 | h3
  · have := ha.gap hc h3
    exact h c u v hc (by omega) hu huv hv (by omega)
  · subst h3
    exact h2 c u v ha.half (by omega) hu huv (by omega) hvn
  · have := hc.gap ha h3
    omega
theorem sorted_of {l : List SpanD} (h : ∀ u v, u ≤ v → v < l.length → ¬ Lt (l.getD v z0) (l.getD u z0)) : Sorted l := by
  refine List.pairwise_iff_getElem.2 fun i j hi hj hij => ?_
  have h1 := h i j (by omega) hj
  rw [List.getD_eq_getElem?_getD, List.getD_eq_getElem?_getD, List.getElem?_eq_getElem hi, List.getElem?_eq_getElem hj] at h1
  exact h1
theorem runs_all {k n : Nat} {ss : List SpanD} (h : Runs k 0 n ss) (hn : ss.length = n) (hk : n ≤ k) : Sorted ss := sorted_of fun u v huv hv => h 0 u v (al_zero k) (by omega) (by omega) huv (by omega) (by omega)
/-- A piece that lies within a run. -/
theorem runs_piece {k a hi c : Nat} {p l s : List SpanD} (h : Runs k a hi (p ++ (l ++ s))) (hc : Al k c) (hac : a ≤ c) (hp : p.length = c) (hl : l.length ≤ k) (hh : c + l.length ≤ hi) : Sorted l := sorted_of fun u v huv hv => by
  have h1 := h c (c + u) (c + v) hc hac (by omega) (by omega) (by omega) (by omega)
  rw [get_p (p := p) (k := c + v) (j := v) (by omega), get_p (p := p) (k := c + u) (j := u) (by omega), get_l (l := l) (k := v) (by omega), get_l (l := l) (k := u) (by omega)] at h1
  exact h1
theorem split3 (ss : List SpanD) (a q : Nat) : ss = ss.take a ++ ((ss.drop a).take q ++ ss.drop (a + q)) := by
  rw [← List.drop_drop, List.take_append_drop, List.take_append_drop]
theorem split4 (ss : List SpanD) (a k : Nat) : ss = ss.take a ++ ((ss.drop a).take k ++ ((ss.drop (a + k)).take k ++ ss.drop (a + k + k))) := by
  have h1 := List.take_append_drop k (ss.drop (a + k))
  rw [List.drop_drop] at h1
  rw [h1]
  exact split3 ss a k
theorem alike_mid {ss p l m s : List SpanD} (h : Alike ss (p ++ (l ++ s))) (hm : Alike l m) : Alike ss (p ++ (m ++ s)) := h.trans ((Alike.refl p).append (hm.append (Alike.refl s)))
end Go.Proofs.Ytnphbefnmbagfaa
