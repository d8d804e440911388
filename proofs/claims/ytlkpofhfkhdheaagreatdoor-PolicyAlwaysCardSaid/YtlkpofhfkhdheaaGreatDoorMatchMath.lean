/-
  Plain facts on patterns: what a pattern matches, how the greedy road decides it, and by tables. No program is named here.
-/
import Derived.WalkKit
namespace Go.Proofs.YtlkpofhfkhdheaaGreatDoor

/-- Which lists of runes a pattern matches: 42 any, also none, 63 one, another one itself. -/
def matchF : List Nat → List Nat → Bool
  | [], [] => true
  | [], _ :: _ => false
  | p :: ps, [] => decide (p = 42) && matchF ps []
  | p :: ps, x :: xs => if p = 42 then matchF ps (x :: xs) || matchF (p :: ps) xs else (decide (p = 63) || decide (p = x)) && matchF ps xs
termination_by p s => p.length + s.length
theorem matchF_nil_nil : matchF [] [] = true := by rw [matchF]
theorem matchF_nil_cons (x : Nat) (xs : List Nat) : matchF [] (x :: xs) = false := by rw [matchF]
theorem matchF_cons_nil (p : Nat) (ps : List Nat) : matchF (p :: ps) [] = (decide (p = 42) && matchF ps []) := by rw [matchF]
theorem matchF_star (ps : List Nat) (x : Nat) (xs : List Nat) : matchF (42 :: ps) (x :: xs) = (matchF ps (x :: xs) || matchF (42 :: ps) xs) := by rw [matchF, if_pos rfl]
theorem matchF_one {p : Nat} (h : p ≠ 42) (ps : List Nat) (x : Nat) (xs : List Nat) : matchF (p :: ps) (x :: xs) = ((decide (p = 63) || decide (p = x)) && matchF ps xs) := by rw [matchF, if_neg h]
/-- A star takes nothing, or any beginning. -/
theorem matchF_star_iff (ps : List Nat) : ∀ s : List Nat, matchF (42 :: ps) s = true ↔ ∃ k, k ≤ s.length ∧ matchF ps (s.drop k) = true
  | [] => by
    rw [matchF_cons_nil]
    constructor
    · intro h
      exact ⟨0, Nat.le_refl _, by simpa using h⟩
    · rintro ⟨k, _, h⟩
      simpa using h
  | x :: xs => by
    rw [matchF_star, Bool.or_eq_true, matchF_star_iff ps xs]
    constructor
    · rintro (h | ⟨k, hk, h⟩)
      · exact ⟨0, Nat.zero_le _, h⟩
      · exact ⟨k + 1, by simp; omega, by simpa using h⟩
    · rintro ⟨k, hk, h⟩
      cases k with
      | zero => exact .inl h
      | succ k => exact .inr ⟨k, by simpa using hk, by simpa using h⟩

/-- A star ahead: what it matches of an end, it matches of the whole. -/
theorem star_more {ps s : List Nat} {k : Nat} (hk : k ≤ s.length) (h : matchF (42 :: ps) (s.drop k) = true) : matchF (42 :: ps) s = true := by
  obtain ⟨j, hj, h⟩ := (matchF_star_iff _ _).1 h
  rw [List.length_drop] at hj
  rw [List.drop_drop] at h
  exact (matchF_star_iff _ _).2 ⟨k + j, by omega, h⟩

/-- A part of a pattern without a star, that fits so many runes. -/
def fitF : List Nat → List Nat → Bool
  | [], _ => true
  | _ :: _, [] => false
  | p :: ps, x :: xs => decide (p ≠ 42) && (decide (p = 63) || decide (p = x)) && fitF ps xs
theorem fitF_snoc : ∀ (g s : List Nat) (p : Nat), g.length < s.length → fitF g s = true → p ≠ 42 → (p = 63 ∨ p = s.getD g.length 0) → fitF (g ++ [p]) s = true
  | [], [], _, h, _, _, _ => absurd h (by simp)
  | [], x :: xs, p, _, _, hp, h => by
    simp only [List.nil_append, fitF, List.length_nil, List.getD_cons_zero] at *
    simp [hp, h]
  | _ :: _, [], _, h, _, _, _ => absurd h (by simp)
  | q :: g, x :: xs, p, hl, h, hp, ho => by
    simp only [List.cons_append, fitF, Bool.and_eq_true] at h ⊢
    exact ⟨h.1, fitF_snoc g xs p (by simpa using hl) h.2 hp (by simpa using ho)⟩
/-- What stands behind such a part decides. -/
theorem fitF_match : ∀ (g s r : List Nat), fitF g s = true → matchF (g ++ r) s = matchF r (s.drop g.length)
  | [], _, _, _ => rfl
  | _ :: _, [], _, h => by cases h
  | p :: g, x :: xs, r, h => by
    simp only [fitF, Bool.and_eq_true, decide_eq_true_eq] at h
    rw [List.cons_append, matchF_one h.1.1, h.1.2, Bool.true_and, fitF_match g xs r h.2]
    rfl
theorem fitF_len : ∀ (g s : List Nat), fitF g s = true → g.length ≤ s.length
  | [], _, _ => Nat.zero_le _
  | _ :: _, [], h => by cases h
  | p :: g, x :: xs, h => by
    simp only [fitF, Bool.and_eq_true] at h
    have := fitF_len g xs h.2
    simp; omega
theorem fitF_plain : ∀ (g s : List Nat), fitF g s = true → ∀ p ∈ g, p ≠ 42
  | [], _, _ => fun p hp => by cases hp
  | _ :: _, [], h => by cases h
  | p :: g, x :: xs, h => by
    simp only [fitF, Bool.and_eq_true, decide_eq_true_eq] at h
    intro q hq
    rcases List.mem_cons.1 hq with rfl | hq
    · exact h.1.1
    · exact fitF_plain g xs h.2 q hq
/-- Any match of a part without a star and of more is a match of the part, and of more behind it. -/
theorem plain_match : ∀ (g s r : List Nat), (∀ p ∈ g, p ≠ 42) → matchF (g ++ r) s = true → g.length ≤ s.length ∧ matchF r (s.drop g.length) = true
  | [], s, r, _, h => ⟨Nat.zero_le _, h⟩
  | p :: g, [], r, hp, h => by
    rw [List.cons_append, matchF_cons_nil, decide_eq_false (hp p (by simp))] at h
    cases h
  | p :: g, x :: xs, r, hp, h => by
    rw [List.cons_append, matchF_one (hp p (by simp)), Bool.and_eq_true] at h
    have := plain_match g xs r (fun q hq => hp q (by simp [hq])) h.2
    exact ⟨by simp; omega, this.2⟩

/-- THE GREEDY ROAD: at the pattern's place p and the name's place n, the last star at st (none: 0, with nothing behind), its take up to b. -/
structure Greedy (P S : List Nat) (star : Option Nat) (b p n : Nat) : Prop where
  hp : p ≤ P.length
  hn : n ≤ S.length
  hb : b ≤ n
  at_ : match star with
    | none => b = 0 ∧ matchF P S = matchF (P.drop p) (S.drop n)
    | some st => st < p ∧ P.getD st 0 = 42 ∧ p = st + 1 + (n - b) ∧ fitF ((P.drop (st + 1)).take (n - b)) (S.drop b) = true ∧ matchF P S = matchF (42 :: P.drop (st + 1)) (S.drop b)
theorem greedy_start (P S : List Nat) : Greedy P S none 0 0 0 := ⟨Nat.zero_le _, Nat.zero_le _, Nat.le_refl _, rfl, rfl⟩

theorem drop_cons {l : List Nat} {k : Nat} (h : k < l.length) : l.drop k = l.getD k 0 :: l.drop (k + 1) := by
  rw [List.getD_eq_getElem?_getD, List.getElem?_eq_getElem h]
  exact List.drop_eq_getElem_cons h
theorem split_at {P : List Nat} {a k : Nat} : P.drop a = (P.drop a).take k ++ P.drop (a + k) := by
  rw [← List.drop_drop, List.take_append_drop]

/-- At a star: it is the last one now. -/
theorem greedy_star {P S : List Nat} {star : Option Nat} {b p n : Nat} (h : Greedy P S star b p n) (hp : p < P.length) (hs : P.getD p 0 = 42) : Greedy P S (some p) n (p + 1) n := by
  refine ⟨hp, h.hn, Nat.le_refl _, Nat.lt_succ_self _, hs, by omega, by rw [Nat.sub_self]; simp [fitF], ?_⟩
  obtain ⟨h1, h2, h3, h4⟩ := h
  cases star with
  | none =>
    obtain ⟨rfl, e⟩ := h4
    rw [e, drop_cons hp, hs]
  | some st =>
    obtain ⟨a1, a2, a3, a4, e⟩ := h4
    rw [e]
    have hsp : P.drop (st + 1) = (P.drop (st + 1)).take (n - b) ++ 42 :: P.drop (p + 1) := by
      conv => lhs; rw [split_at (k := n - b)]
      rw [← a3, drop_cons hp, hs]
    generalize hg : (P.drop (st + 1)).take (n - b) = g at *
    have hgl : g.length = n - b := by rw [← hg, List.length_take, List.length_drop]; omega
    rw [hsp]
    rw [Bool.eq_iff_iff]
    constructor
    · intro hm
      obtain ⟨k, hk, hm⟩ := (matchF_star_iff _ _).1 hm
      rw [List.length_drop] at hk
      have h5 := plain_match g _ _ (fitF_plain _ _ a4) hm
      rw [List.drop_drop, List.drop_drop] at h5
      refine star_more (s := S.drop n) (k := k) ?_ ?_
      · have := h5.1
        rw [List.length_drop] at this ⊢
        omega
      · rw [List.drop_drop]
        have := h5.2
        rwa [hgl, show b + k + (n - b) = n + k by omega] at this
    · intro hm
      refine (matchF_star_iff _ _).2 ⟨0, Nat.zero_le _, ?_⟩
      rw [List.drop_zero, fitF_match g _ _ a4, List.drop_drop, hgl, show b + (n - b) = n by omega]
      exact hm
/-- At a rune that fits. -/
theorem greedy_fit {P S : List Nat} {star : Option Nat} {b p n : Nat} (h : Greedy P S star b p n) (hp : p < P.length) (hn : n < S.length) (hs : P.getD p 0 ≠ 42) (hf : P.getD p 0 = 63 ∨ P.getD p 0 = S.getD n 0) : Greedy P S star b (p + 1) (n + 1) := by
  obtain ⟨h1, h2, h3, h4⟩ := h
  refine ⟨hp, hn, by omega, ?_⟩
  cases star with
  | none =>
    obtain ⟨rfl, e⟩ := h4
    refine ⟨rfl, ?_⟩
    rw [e, drop_cons hp, drop_cons hn, matchF_one hs]
    rw [show (decide (P.getD p 0 = 63) || decide (P.getD p 0 = S.getD n 0)) = true by rw [Bool.or_eq_true, decide_eq_true_eq, decide_eq_true_eq]; exact hf]
    rfl
  | some st =>
    obtain ⟨a1, a2, a3, a4, e⟩ := h4
    refine ⟨by omega, a2, by omega, ?_, e⟩
    have ht : (P.drop (st + 1)).take (n + 1 - b) = (P.drop (st + 1)).take (n - b) ++ [P.getD p 0] := by
      rw [show n + 1 - b = n - b + 1 by omega, List.take_add_one, List.getElem?_drop, ← a3, List.getElem?_eq_getElem hp, List.getD_eq_getElem?_getD, List.getElem?_eq_getElem hp]
      rfl
    have hgl : ((P.drop (st + 1)).take (n - b)).length = n - b := by rw [List.length_take, List.length_drop]; omega
    rw [ht]
    refine fitF_snoc _ _ _ (by rw [hgl, List.length_drop]; omega) a4 hs ?_
    rw [hgl, show (S.drop b).getD (n - b) 0 = S.getD n 0 by rw [List.getD_eq_getElem?_getD, List.getElem?_drop, show b + (n - b) = n by omega, ← List.getD_eq_getElem?_getD]]
    exact hf
/-- Where nothing fits and there is a star: it takes one more. -/
theorem greedy_back {P S : List Nat} {st : Nat} {b p n : Nat} (h : Greedy P S (some st) b p n) (hn : n < S.length) (hno : p < P.length → P.getD p 0 ≠ 42 ∧ P.getD p 0 ≠ 63 ∧ P.getD p 0 ≠ S.getD n 0) : Greedy P S (some st) (b + 1) (st + 1) (b + 1) := by
  obtain ⟨h1, h2, h3, a1, a2, a3, a4, e⟩ := h
  refine ⟨by omega, by omega, Nat.le_refl _, Nat.lt_succ_self _, a2, by omega, by rw [Nat.sub_self]; simp [fitF], ?_⟩
  rw [e, drop_cons (show b < S.length by omega), matchF_star, ← drop_cons (show b < S.length by omega)]
  have hgl : ((P.drop (st + 1)).take (n - b)).length = n - b := by rw [List.length_take, List.length_drop]; omega
  have hno' : matchF (P.drop (st + 1)) (S.drop b) = false := by
    rw [split_at (P := P) (a := st + 1) (k := n - b), fitF_match _ _ _ a4, hgl, List.drop_drop, show b + (n - b) = n by omega, ← a3, drop_cons hn]
    by_cases hp : p < P.length
    · obtain ⟨x1, x2, x3⟩ := hno hp
      rw [drop_cons hp, matchF_one x1, decide_eq_false x2, decide_eq_false x3]
      rfl
    · rw [List.drop_eq_nil_of_le (by omega), matchF_nil_cons]
  rw [hno', Bool.false_or]
/-- Where nothing fits and there is no star. -/
theorem greedy_none {P S : List Nat} {b p n : Nat} (h : Greedy P S none b p n) (hn : n < S.length) (hno : p < P.length → P.getD p 0 ≠ 42 ∧ P.getD p 0 ≠ 63 ∧ P.getD p 0 ≠ S.getD n 0) : matchF P S = false := by
  obtain ⟨h1, h2, h3, rfl, e⟩ := h
  rw [e, drop_cons hn]
  by_cases hp : p < P.length
  · obtain ⟨x1, x2, x3⟩ := hno hp
    rw [drop_cons hp, matchF_one x1, decide_eq_false x2, decide_eq_false x3]
    rfl
  · rw [List.drop_eq_nil_of_le (by omega), matchF_nil_cons]
/-- At the name's end: what is left of the pattern must match nothing. -/
theorem greedy_end {P S : List Nat} {star : Option Nat} {b p n : Nat} (h : Greedy P S star b p n) (hn : n = S.length) : matchF P S = matchF (P.drop p) [] := by
  obtain ⟨h1, h2, h3, h4⟩ := h
  subst hn
  cases star with
  | none =>
    obtain ⟨rfl, e⟩ := h4
    rw [e, List.drop_length]
  | some st =>
    obtain ⟨a1, a2, a3, a4, e⟩ := h4
    rw [e]
    have hgl : ((P.drop (st + 1)).take (S.length - b)).length = S.length - b := by rw [List.length_take, List.length_drop]; omega
    rw [Bool.eq_iff_iff]
    constructor
    · intro hm
      obtain ⟨k, hk, hm⟩ := (matchF_star_iff _ _).1 hm
      rw [List.length_drop] at hk
      rw [split_at (P := P) (a := st + 1) (k := S.length - b)] at hm
      have h5 := plain_match _ _ _ (fitF_plain _ _ a4) hm
      rw [hgl, List.drop_drop, List.drop_drop, List.length_drop] at h5
      obtain rfl : k = 0 := by omega
      rw [List.drop_eq_nil_of_le (as := S) (by omega), ← a3] at h5
      exact h5.2
    · intro hm
      refine (matchF_star_iff _ _).2 ⟨0, Nat.zero_le _, ?_⟩
      rw [List.drop_zero, split_at (P := P) (a := st + 1) (k := S.length - b), fitF_match _ _ _ a4, hgl, List.drop_drop, List.drop_eq_nil_of_le (as := S) (by omega), ← a3]
      exact hm
theorem rest_star {P : List Nat} {p : Nat} (hp : p < P.length) (h : P.getD p 0 = 42) : matchF (P.drop p) [] = matchF (P.drop (p + 1)) [] := by
  rw [drop_cons hp, h, matchF_cons_nil]; simp
theorem rest_other {P : List Nat} {p : Nat} (hp : p < P.length) (h : P.getD p 0 ≠ 42) : matchF (P.drop p) [] = false := by
  rw [drop_cons hp, matchF_cons_nil, decide_eq_false h]; rfl
theorem rest_end {P : List Nat} {p : Nat} (hp : P.length ≤ p) : matchF (P.drop p) [] = true := by
  rw [List.drop_eq_nil_of_le hp, matchF_nil_nil]

/-! ### by tables -/
/-- One cell of the reference's table out of the row beneath it and of the cell to its right. -/
theorem table_star {P S : List Nat} {i k : Nat} (hi : i < P.length) (h : P.getD i 0 = 42) (hk : k < S.length) : matchF (P.drop i) (S.drop k) = (matchF (P.drop (i + 1)) (S.drop k) || matchF (P.drop i) (S.drop (k + 1))) := by
  rw [drop_cons hi, h, drop_cons hk, matchF_star]
theorem table_star_end {P S : List Nat} {i k : Nat} (hi : i < P.length) (h : P.getD i 0 = 42) (hk : S.length ≤ k) : matchF (P.drop i) (S.drop k) = matchF (P.drop (i + 1)) (S.drop k) := by
  rw [drop_cons hi, h, List.drop_eq_nil_of_le hk, matchF_cons_nil]; simp
theorem table_fit {P S : List Nat} {i k : Nat} (hi : i < P.length) (h : P.getD i 0 ≠ 42) (hk : k < S.length) (hf : P.getD i 0 = 63 ∨ P.getD i 0 = S.getD k 0) : matchF (P.drop i) (S.drop k) = matchF (P.drop (i + 1)) (S.drop (k + 1)) := by
  rw [drop_cons hi, drop_cons hk, matchF_one h, show (decide (P.getD i 0 = 63) || decide (P.getD i 0 = S.getD k 0)) = true by rw [Bool.or_eq_true, decide_eq_true_eq, decide_eq_true_eq]; exact hf]
  rfl
theorem table_no {P S : List Nat} {i k : Nat} (hi : i < P.length) (h : P.getD i 0 ≠ 42) (hf : k < S.length → P.getD i 0 ≠ 63 ∧ P.getD i 0 ≠ S.getD k 0) : matchF (P.drop i) (S.drop k) = false := by
  by_cases hk : k < S.length
  · obtain ⟨x2, x3⟩ := hf hk
    rw [drop_cons hi, drop_cons hk, matchF_one h, decide_eq_false x2, decide_eq_false x3]
    rfl
  · rw [drop_cons hi, List.drop_eq_nil_of_le (as := S) (by omega), matchF_cons_nil, decide_eq_false h]
    rfl
theorem table_low (P S : List Nat) (k : Nat) : matchF (P.drop P.length) (S.drop k) = decide (S.length ≤ k) := by
  rw [List.drop_length]
  by_cases hk : S.length ≤ k
  · rw [List.drop_eq_nil_of_le hk, matchF_nil_nil, decide_eq_true hk]
  · rw [drop_cons (by omega), matchF_nil_cons, decide_eq_false hk]

/-! ### the laws of patterns -/
theorem star_all (s : List Nat) : matchF [42] s = true := (matchF_star_iff _ _).2 ⟨s.length, Nat.le_refl _, by rw [List.drop_length, matchF_nil_nil]⟩
theorem star_ahead {p s : List Nat} (h : matchF p s = true) (t : List Nat) : matchF (42 :: p) (t ++ s) = true := (matchF_star_iff _ _).2 ⟨t.length, by simp, by simpa using h⟩
theorem star_behind : ∀ {p s : List Nat}, matchF p s = true → ∀ t, matchF (p ++ [42]) (s ++ t) = true := by
  intro p
  induction p with
  | nil =>
    intro s h t
    cases s with
    | nil => exact star_all _
    | cons x xs => rw [matchF_nil_cons] at h; cases h
  | cons q ps ih =>
    intro s h t
    by_cases hq : q = 42
    · subst hq
      obtain ⟨k, hk, h⟩ := (matchF_star_iff _ _).1 h
      refine (matchF_star_iff _ _).2 ⟨k, by simp; omega, ?_⟩
      rw [List.drop_append_of_le_length hk]
      exact ih h t
    · cases s with
      | nil => rw [matchF_cons_nil, decide_eq_false hq] at h; cases h
      | cons x xs =>
        rw [matchF_one hq, Bool.and_eq_true] at h
        rw [List.cons_append, List.cons_append, matchF_one hq, h.1, ih h.2 t]
        rfl
theorem match_self : ∀ {s : List Nat}, (∀ r ∈ s, r ≠ 42) → matchF s s = true
  | [], _ => matchF_nil_nil
  | x :: xs, h => by
    rw [matchF_one (h x (by simp)), match_self (fun r hr => h r (by simp [hr]))]
    simp
theorem match_plain_len {p s : List Nat} (hp : ∀ r ∈ p, r ≠ 42) (h : matchF p s = true) : s.length = p.length := by
  have := plain_match p s [] hp (by simpa using h)
  have h2 := this.2
  by_cases e : p.length < s.length
  · rw [drop_cons e, matchF_nil_cons] at h2; cases h2
  · omega
end Go.Proofs.YtlkpofhfkhdheaaGreatDoor
