/-
  The ends of the pieces, as the document lays them: one number put among others that rise, each once.
-/
import Derived.Test.YtgmeggilojcoeaaZArcs
namespace Go.Proofs.Ytgmeggilojcoeaa
set_option linter.unusedSimpArgs false
set_option linter.unusedVariables false
namespace Rg
set_option linter.unusedSimpArgs false
set_option linter.unusedVariables false
def putE : List Nat → Nat → List Nat
  | [], x => [x]
  | y :: t, x => if y < x then y :: putE t x else if y = x then y :: t else x :: y :: t
theorem putE_mem : ∀ (l : List Nat) (x z : Nat), z ∈ putE l x ↔ z = x ∨ z ∈ l
  | [], x, z => by rw [putE]; simp
  | y :: t, x, z => by
    rw [putE]
    split
    · rw [List.mem_cons, putE_mem t x z, List.mem_cons]
      constructor
      · rintro (h | h | h)
        · exact .inr (.inl h)
        · exact .inl h
        · exact .inr (.inr h)
      · rintro (h | h | h)
        · exact .inr (.inl h)
        · exact .inl h
        · exact .inr (.inr h)
    · split
      · rename_i h
        subst h
        rw [List.mem_cons]
        constructor
        · exact fun h => .inr h
        · rintro (h | h)
          · exact .inl h
          · exact h
      · rw [List.mem_cons]
theorem putE_rise : ∀ {l : List Nat}, l.Pairwise (· < ·) → ∀ x, (putE l x).Pairwise (· < ·)
  | [], _, x => by rw [putE]; simp
  | y :: t, hr, x => by
    obtain ⟨r1, r2⟩ := List.pairwise_cons.1 hr
    rw [putE]
    split
    · rename_i h
      refine List.pairwise_cons.2 ⟨fun z hz => ?_, putE_rise r2 x⟩
      rcases (putE_mem t x z).1 hz with e | e
      · omega
      · exact r1 z e
    · split
      · exact hr
      · rename_i h h2
        refine List.pairwise_cons.2 ⟨fun z hz => ?_, hr⟩
        rcases List.mem_cons.1 hz with rfl | hz
        · omega
        · have := r1 z hz; omega
/-- Where it goes: behind so many that are below it. -/
theorem putE_at : ∀ (l : List Nat) (x : Nat) (k : Nat) (_ : k ≤ l.length), (∀ j (hj : j < l.length), j < k → l[j] < x) → putE l x = l.take k ++ putE (l.drop k) x
  | l, x, 0, _, _ => by simp
  | [], x, k + 1, hk, _ => by simp at hk
  | y :: t, x, k + 1, hk, h => by
    have h0 := h 0 (by simp) (by omega)
    rw [List.take_succ_cons, List.drop_succ_cons, List.cons_append, ← putE_at t x k (by simpa using hk) (fun j hj hjk => h (j + 1) (by simpa using hj) (by omega))]
    rw [putE, if_pos (by simpa using h0)]
theorem putE_end (l : List Nat) (x : Nat) (h : ∀ j (hj : j < l.length), l[j] < x) : putE l x = l ++ [x] := by
  rw [putE_at l x l.length (Nat.le_refl _) (fun j hj _ => h j hj), List.take_length, List.drop_length]
  rfl
theorem putE_new {l : List Nat} {x : Nat} {k : Nat} (hk : k < l.length) (h : ∀ j (hj : j < l.length), j < k → l[j] < x) (h2 : x < l[k]) : putE l x = l.take k ++ [x] ++ l.drop k := by
  rw [putE_at l x k (by omega) h, List.drop_eq_getElem_cons hk, putE, if_neg (by omega), if_neg (by omega)]
  simp
theorem putE_old {l : List Nat} {x : Nat} {k : Nat} (hk : k < l.length) (h : ∀ j (hj : j < l.length), j < k → l[j] < x) (h2 : l[k] = x) : putE l x = l := by
  rw [putE_at l x k (by omega) h, List.drop_eq_getElem_cons hk, putE, if_neg (by omega), if_pos h2, ← List.drop_eq_getElem_cons hk, List.take_append_drop]
theorem putE_len (l : List Nat) (x : Nat) : (putE l x).length ≤ l.length + 1 := by
  induction l with
  | nil => simp [putE]
  | cons y t ih =>
    rw [putE]
    split
    · simp; omega
    · split <;> simp
/-- All places, each once, rising. -/
def placesE (r : List PtD) : List Nat := r.foldl (fun l p => putE l p.pos) []
theorem placesE_snoc (r : List PtD) (p : PtD) : placesE (r ++ [p]) = putE (placesE r) p.pos := by unfold placesE; rw [List.foldl_append]; rfl
theorem foldE_ok : ∀ (r : List PtD) (l : List Nat), l.Pairwise (· < ·) → (r.foldl (fun l p => putE l p.pos) l).Pairwise (· < ·) ∧ ∀ z, z ∈ r.foldl (fun l p => putE l p.pos) l ↔ z ∈ l ∨ ∃ p ∈ r, p.pos = z
  | [], l, h => ⟨h, fun z => by simp⟩
  | p :: t, l, h => by
    obtain ⟨h1, h2⟩ := foldE_ok t (putE l p.pos) (putE_rise h _)
    refine ⟨h1, fun z => ?_⟩
    rw [List.foldl_cons, h2 z, putE_mem]
    constructor
    · rintro ((h | h) | ⟨q, hq, h⟩)
      · exact .inr ⟨p, by simp, h.symm⟩
      · exact .inl h
      · exact .inr ⟨q, by simp [hq], h⟩
    · rintro (h | ⟨q, hq, h⟩)
      · exact .inl (.inr h)
      · rcases List.mem_cons.1 hq with rfl | hq
        · exact .inl (.inl h.symm)
        · exact .inr ⟨q, hq, h⟩
theorem placesE_ok (r : List PtD) : (placesE r).Pairwise (· < ·) ∧ ∀ z, z ∈ placesE r ↔ ∃ p ∈ r, p.pos = z := by
  obtain ⟨h1, h2⟩ := foldE_ok r [] List.Pairwise.nil
  exact ⟨h1, fun z => by unfold placesE; rw [h2 z]; simp⟩
/-- .. and the last number of all, if it isn't there. -/
def endsR (M : Nat) (a b : List PtD) : List Nat := if M - 1 ∈ placesE (a ++ b) then placesE (a ++ b) else placesE (a ++ b) ++ [M - 1]
theorem endsR_ok {M : Nat} {a b : List PtD} (ha : ∀ p ∈ a, p.pos < M) (hb : ∀ p ∈ b, p.pos < M) : Ends M a b (endsR M a b) := by
  obtain ⟨h1, h2⟩ := placesE_ok (a ++ b)
  have h3 : ∀ z, z ∈ placesE (a ++ b) ↔ (∃ p ∈ a, p.pos = z) ∨ ∃ p ∈ b, p.pos = z := by
    intro z
    rw [h2 z]
    constructor
    · rintro ⟨p, hp, e⟩
      rcases List.mem_append.1 hp with h | h
      · exact .inl ⟨p, h, e⟩
      · exact .inr ⟨p, h, e⟩
    · rintro (⟨p, hp, e⟩ | ⟨p, hp, e⟩)
      · exact ⟨p, List.mem_append.2 (.inl hp), e⟩
      · exact ⟨p, List.mem_append.2 (.inr hp), e⟩
  have hlt : ∀ z ∈ placesE (a ++ b), z < M := by
    intro z hz
    rcases (h3 z).1 hz with ⟨p, hp, e⟩ | ⟨p, hp, e⟩
    · rw [← e]; exact ha p hp
    · rw [← e]; exact hb p hp
  unfold endsR
  split
  · rename_i hin
    refine ⟨h1, fun x => ⟨fun h => .inr ((h3 x).1 h), ?_⟩⟩
    rintro (h | h)
    · rw [h]; exact hin
    · exact (h3 x).2 h
  · rename_i hno
    refine ⟨List.pairwise_append.2 ⟨h1, by simp, fun x hx y hy => ?_⟩, fun x => ?_⟩
    · rw [List.mem_singleton] at hy
      subst hy
      have := hlt x hx
      have : x ≠ M - 1 := fun e => hno (e ▸ hx)
      omega
    · rw [List.mem_append, List.mem_singleton, h3 x]
      constructor
      · rintro (h | h)
        · exact .inr h
        · exact .inl h
      · rintro (h | h)
        · exact .inr h
        · exact .inl h
/-- How the document puts an arc behind arcs. -/
def joinR (l : List ArcD) (x : ArcD) : List ArcD :=
  match l.getLast? with
  | some y => if y.hi = x.lo - 1 ∧ y.old = x.old ∧ y.new = x.new ∧ 0 < x.lo then l.dropLast ++ [⟨y.lo, x.hi, y.old, y.new⟩] else l ++ [x]
  | none => [x]
theorem joinR_eq {M : Nat} {l : List ArcD} {x : ArcD} (hl : ∀ y ∈ l, y.hi < M) (h0 : x.lo = 0 → l = []) (hx : x.lo < M) : joinR l x = joinF M l x := by
  unfold joinR joinF
  rcases hg : l.getLast? with _ | y
  · rfl
  · have hy : y ∈ l := List.mem_of_getLast? hg
    have hlt := hl y hy
    have hpos : 0 < x.lo := by
      rcases Nat.eq_zero_or_pos x.lo with e | e
      · rw [h0 e] at hg; cases hg
      · exact e
    have hiff : ((y.hi + 1) % M = x.lo) ↔ y.hi = x.lo - 1 := by
      by_cases e : y.hi + 1 = M
      · rw [e, Nat.mod_self]; omega
      · rw [Nat.mod_eq_of_lt (by omega)]; omega
    show (if _ then _ else _) = (if joinsTo M y x = true then _ else _)
    have hb : joinsTo M y x = true ↔ (y.hi = x.lo - 1 ∧ y.old = x.old ∧ y.new = x.new ∧ 0 < x.lo) := by
      unfold joinsTo
      simp only [Bool.and_eq_true, decide_eq_true_eq]
      rw [hiff]
      exact ⟨fun ⟨h1, h2, h3⟩ => ⟨h1, h2, h3, hpos⟩, fun ⟨h1, h2, h3, _⟩ => ⟨h1, h2, h3⟩⟩
    by_cases hc : y.hi = x.lo - 1 ∧ y.old = x.old ∧ y.new = x.new ∧ 0 < x.lo
    · rw [if_pos hc, if_pos (hb.2 hc)]
    · rw [if_neg hc, if_neg (fun h => hc (hb.1 h))]
/-- Put between what is below it and what is above it. -/
theorem putE_ins {l : List Nat} {x K : Nat} (hK : K ≤ l.length) (h1 : ∀ z ∈ l.take K, z < x) (h2 : ∀ z ∈ l.drop K, x < z) : putE l x = l.take K ++ [x] ++ l.drop K := by
  have hj : ∀ j (hj : j < l.length), j < K → l[j] < x := fun j hj hjK => h1 _ (by
    rw [List.mem_take_iff_getElem]
    exact ⟨j, by omega, rfl⟩)
  by_cases h : K < l.length
  · exact putE_new h hj (h2 _ (List.mem_of_getElem (i := 0) (h := by rw [List.length_drop]; omega) (by rw [List.getElem_drop]; simp)))
  · have e : K = l.length := by omega
    subst e
    rw [List.take_length, List.drop_length, List.append_nil]
    exact putE_end l x (fun j hj' => hj j hj' hj')
theorem rise_take {l : List Nat} (hr : l.Pairwise (· < ·)) {k : Nat} (hk : k < l.length) {x : Nat} (h : l[k] < x) : ∀ z ∈ l.take (k + 1), z < x := by
  intro z hz
  rw [List.mem_take_iff_getElem] at hz
  obtain ⟨j, hj, rfl⟩ := hz
  rcases Nat.lt_or_ge j k with e | e
  · have := List.pairwise_iff_getElem.1 hr j k (by omega) hk e
    omega
  · have : j = k := by omega
    subst this
    exact h
theorem putE_same {l : List Nat} (hr : l.Pairwise (· < ·)) {k : Nat} (hk : k < l.length) {x : Nat} (h : l[k] = x) : putE l x = l :=
  putE_old hk (fun j hj hjk => by
    have := List.pairwise_iff_getElem.1 hr j k hj hk hjk
    omega) h
theorem placesE_len (r : List PtD) : (placesE r).length ≤ r.length := by
  have key : ∀ (r : List PtD) (l : List Nat), (r.foldl (fun l p => putE l p.pos) l).length ≤ l.length + r.length := by
    intro r
    induction r with
    | nil => intro l; simp
    | cons p t ih =>
      intro l
      have h1 := ih (putE l p.pos)
      have h2 := putE_len l p.pos
      rw [List.foldl_cons, List.length_cons]
      omega
  have := key r []
  unfold placesE
  simpa using this
theorem places_take {ab : List PtD} {k : Nat} (hk : k < ab.length) : placesE (ab.take (k + 1)) = putE (placesE (ab.take k)) ab[k].pos := by
  rw [List.take_succ_eq_append_getElem hk, placesE_snoc]
end Rg
end Go.Proofs.Ytgmeggilojcoeaa
