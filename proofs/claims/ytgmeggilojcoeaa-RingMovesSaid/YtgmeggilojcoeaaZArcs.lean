/-
  Arcs of numbers whose owner is another one on another ring: how they are joined, and what they cover.
-/
import Derived.Test.YtgmeggilojcoeaaZGRB
namespace Go.Proofs.Ytgmeggilojcoeaa
set_option linter.unusedSimpArgs false
set_option linter.unusedVariables false
namespace Rg
set_option linter.unusedSimpArgs false
set_option linter.unusedVariables false
structure ArcD where
  lo : Nat
  hi : Nat
  old : Nat
  new : Nat
instance : Inhabited ArcD := ⟨⟨0, 0, 0, 0⟩⟩
def joinsTo (M : Nat) (y x : ArcD) : Bool := decide ((y.hi + 1) % M = x.lo) && (decide (y.old = x.old) && decide (y.new = x.new))
/-- An arc put behind arcs, joined to the last one where they are one. -/
def joinF (M : Nat) (l : List ArcD) (x : ArcD) : List ArcD :=
  match l.getLast? with
  | some y => if joinsTo M y x then l.dropLast ++ [⟨y.lo, x.hi, y.old, y.new⟩] else l ++ [x]
  | none => [x]
/-- The arcs of pieces, from piece to piece. -/
def movedF (M : Nat) (oa ob : Nat → Nat) : Nat → List Nat → List ArcD → List ArcD
  | _, [], acc => acc
  | f, t :: rest, acc => movedF M oa ob ((t + 1) % M) rest (if oa t = ob t then acc else joinF M acc ⟨f, t, oa t, ob t⟩)
/-- Arcs that cover what is another's, among the numbers below f. -/
structure Cover (oa ob : Nat → Nat) (acc : List ArcD) (f : Nat) : Prop where
  le : ∀ x ∈ acc, x.lo ≤ x.hi ∧ x.hi < f
  own : ∀ x ∈ acc, ∀ n, x.lo ≤ n → n ≤ x.hi → oa n = x.old ∧ ob n = x.new
  ne : ∀ x ∈ acc, x.old ≠ x.new
  all : ∀ n, n < f → oa n ≠ ob n → ∃ x ∈ acc, x.lo ≤ n ∧ n ≤ x.hi
theorem Cover.skip {oa ob : Nat → Nat} {acc : List ArcD} {f f' : Nat} (h : Cover oa ob acc f) (hf : f ≤ f') (he : ∀ n, f ≤ n → n < f' → oa n = ob n) : Cover oa ob acc f' where
  le x hx := ⟨(h.le x hx).1, by have := (h.le x hx).2; omega⟩
  own := h.own
  ne := h.ne
  all n hn hne := by
    by_cases hl : n < f
    · exact h.all n hl hne
    · exact absurd (he n (by omega) hn) hne
theorem joinF_cases (M : Nat) (l : List ArcD) (x : ArcD) : joinF M l x = l ++ [x] ∨ ∃ l0 y, l = l0 ++ [y] ∧ joinsTo M y x = true ∧ joinF M l x = l0 ++ [⟨y.lo, x.hi, y.old, y.new⟩] := by
  unfold joinF
  rcases List.eq_nil_or_concat l with rfl | ⟨l0, y, rfl⟩
  · left; rfl
  · rw [List.concat_eq_append, List.getLast?_append, List.getLast?_singleton]
    simp only [Option.some_or]
    by_cases hj : joinsTo M y x = true
    · right
      exact ⟨l0, y, rfl, hj, by rw [if_pos hj, List.dropLast_concat]⟩
    · left
      rw [if_neg hj]
theorem Cover.put {M : Nat} {oa ob : Nat → Nat} {acc : List ArcD} {f t : Nat} (h : Cover oa ob acc f) (hf : f ≤ t) (ht : t < M) (hne : oa t ≠ ob t) (hp : ∀ n, f ≤ n → n ≤ t → oa n = oa t ∧ ob n = ob t) :
    Cover oa ob (joinF M acc ⟨f, t, oa t, ob t⟩) (t + 1) := by
  rcases joinF_cases M acc ⟨f, t, oa t, ob t⟩ with e | ⟨l0, y, e0, hj, e⟩
  · rw [e]
    refine ⟨fun x hx => ?_, fun x hx n h1 h2 => ?_, fun x hx => ?_, fun n hn hd => ?_⟩
    · rcases List.mem_append.1 hx with hx | hx
      · have := h.le x hx; omega
      · obtain rfl := List.mem_singleton.1 hx
        exact ⟨hf, Nat.lt_succ_self t⟩
    · rcases List.mem_append.1 hx with hx | hx
      · exact h.own x hx n h1 h2
      · obtain rfl := List.mem_singleton.1 hx
        exact hp n h1 h2
    · rcases List.mem_append.1 hx with hx | hx
      · exact h.ne x hx
      · obtain rfl := List.mem_singleton.1 hx
        exact hne
    · by_cases hl : n < f
      · obtain ⟨x, hx, h1⟩ := h.all n hl hd
        exact ⟨x, List.mem_append.2 (.inl hx), h1⟩
      · exact ⟨_, List.mem_append.2 (.inr (List.mem_singleton.2 rfl)), by show f ≤ n; omega, by show n ≤ t; omega⟩
  · rw [e]
    subst e0
    have hy : y ∈ l0 ++ [y] := by simp
    have hyl := h.le y hy
    simp only [joinsTo, Bool.and_eq_true, decide_eq_true_eq] at hj
    obtain ⟨hj1, hj2, hj3⟩ := hj
    rw [Nat.mod_eq_of_lt (by omega)] at hj1
    refine ⟨fun x hx => ?_, fun x hx n h1 h2 => ?_, fun x hx => ?_, fun n hn hd => ?_⟩
    · rcases List.mem_append.1 hx with hx | hx
      · have := h.le x (List.mem_append.2 (.inl hx)); omega
      · obtain rfl := List.mem_singleton.1 hx
        exact ⟨by show y.lo ≤ t; omega, Nat.lt_succ_self t⟩
    · rcases List.mem_append.1 hx with hx | hx
      · exact h.own x (List.mem_append.2 (.inl hx)) n h1 h2
      · obtain rfl := List.mem_singleton.1 hx
        by_cases hl : n ≤ y.hi
        · exact h.own y hy n h1 hl
        · rw [hj2, hj3]
          exact hp n (by omega) h2
    · rcases List.mem_append.1 hx with hx | hx
      · exact h.ne x (List.mem_append.2 (.inl hx))
      · obtain rfl := List.mem_singleton.1 hx
        exact h.ne y hy
    · by_cases hl : n < f
      · obtain ⟨x, hx, h1⟩ := h.all n hl hd
        rcases List.mem_append.1 hx with hx | hx
        · exact ⟨x, List.mem_append.2 (.inl hx), h1⟩
        · obtain rfl := List.mem_singleton.1 hx
          exact ⟨_, List.mem_append.2 (.inr (List.mem_singleton.2 rfl)), h1.1, by show n ≤ t; omega⟩
      · refine ⟨_, List.mem_append.2 (.inr (List.mem_singleton.2 rfl)), ?_, by show n ≤ t; omega⟩
        show y.lo ≤ n
        omega
/-- All pieces from f on, the last number among them. -/
theorem moved_cover {M : Nat} {oa ob : Nat → Nat} {S : List Nat} (hS : ∀ n t, n ≤ t → (∀ s ∈ S, ¬ (n ≤ s ∧ s < t)) → oa n = oa t ∧ ob n = ob t) :
    ∀ (rest : List Nat) (f : Nat) (acc : List ArcD), rest.Pairwise (· < ·) → (∀ t ∈ rest, f ≤ t ∧ t < M) → (∀ s ∈ S, s < f ∨ s ∈ rest) → Cover oa ob acc f →
      ∃ g, (∀ s ∈ S, s < g) ∧ Cover oa ob (movedF M oa ob f rest acc) g
  | [], f, acc, _, _, hs, h => ⟨f, fun s m => (hs s m).elim id (fun h => by cases h), h⟩
  | t :: rest, f, acc, hp, hb, hs, h => by
    have ht := hb t (by simp)
    have hpt : ∀ n, f ≤ n → n ≤ t → oa n = oa t ∧ ob n = ob t := fun n h1 h2 => hS n t h2 fun s hsm ⟨q1, q2⟩ => by
      rcases hs s hsm with q | q
      · omega
      · rcases List.mem_cons.1 q with rfl | q
        · omega
        · have := List.rel_of_pairwise_cons hp q; omega
    have hc : Cover oa ob (if oa t = ob t then acc else joinF M acc ⟨f, t, oa t, ob t⟩) (t + 1) := by
      by_cases he : oa t = ob t
      · rw [if_pos he]
        exact h.skip (by omega) fun n h1 h2 => by
          have := hpt n h1 (by omega)
          rw [this.1, this.2, he]
      · rw [if_neg he]
        exact h.put ht.1 ht.2 he hpt
    unfold movedF
    generalize (if oa t = ob t then acc else joinF M acc ⟨f, t, oa t, ob t⟩) = acc' at hc
    have hs' : ∀ s ∈ S, s < t + 1 ∨ s ∈ rest := fun s hsm => by
      rcases hs s hsm with q | q
      · left; omega
      · rcases List.mem_cons.1 q with rfl | q
        · left; omega
        · exact .inr q
    rcases rest with _ | ⟨t', rest'⟩
    · exact ⟨t + 1, fun s m => (hs' s m).elim id (fun h => by cases h), hc⟩
    · have ht' : t < t' := List.rel_of_pairwise_cons hp (by simp)
      have hb' := (hb t' (by simp)).2
      rw [Nat.mod_eq_of_lt (by omega)]
      exact moved_cover hS _ (t + 1) acc' (List.Pairwise.of_cons hp) (fun u hu => ⟨by have := List.rel_of_pairwise_cons hp hu; omega, (hb u (List.mem_cons_of_mem _ hu)).2⟩) hs' hc
def ArcD.swap (x : ArcD) : ArcD := ⟨x.lo, x.hi, x.new, x.old⟩
theorem joinsTo_swap (M : Nat) (y x : ArcD) : joinsTo M y.swap x.swap = joinsTo M y x := by
  unfold joinsTo ArcD.swap
  simp only
  rw [Bool.and_comm (decide (y.new = x.new))]
theorem joinF_swap (M : Nat) (l : List ArcD) (x : ArcD) : joinF M (l.map ArcD.swap) x.swap = (joinF M l x).map ArcD.swap := by
  unfold joinF
  rw [List.getLast?_map]
  rcases l.getLast? with _ | y
  · rfl
  · simp only [Option.map_some, joinsTo_swap]
    by_cases hj : joinsTo M y x = true
    · rw [if_pos hj, if_pos hj, List.map_append, List.map_dropLast]
      rfl
    · rw [if_neg hj, if_neg hj, List.map_append]
      rfl
theorem moved_swap (M : Nat) (oa ob : Nat → Nat) : ∀ (rest : List Nat) (f : Nat) (acc : List ArcD), movedF M ob oa f rest (acc.map ArcD.swap) = (movedF M oa ob f rest acc).map ArcD.swap
  | [], _, _ => rfl
  | t :: rest, f, acc => by
    unfold movedF
    by_cases he : oa t = ob t
    · rw [if_pos he.symm, if_pos he]
      exact moved_swap M oa ob rest _ acc
    · rw [if_neg (fun h => he h.symm), if_neg he, show (⟨f, t, ob t, oa t⟩ : ArcD) = ArcD.swap ⟨f, t, oa t, ob t⟩ from rfl, joinF_swap]
      exact moved_swap M oa ob rest _ _
theorem moved_none (M : Nat) (o : Nat → Nat) : ∀ (rest : List Nat) (f : Nat) (acc : List ArcD), movedF M o o f rest acc = acc
  | [], _, _ => rfl
  | t :: rest, f, acc => by
    unfold movedF
    rw [if_pos rfl]
    exact moved_none M o rest _ acc
/-- Between two places with no point the owner is one. -/
theorem own_piece {r : List PtD} {n t : Nat} (h : n ≤ t) (hr : ∀ p ∈ r, ¬ (n ≤ p.pos ∧ p.pos < t)) : ownF r n = ownF r t := by
  have e : ∀ r' : List PtD, (∀ p ∈ r', ¬ (n ≤ p.pos ∧ p.pos < t)) → r'.find? (fun p => decide (n ≤ p.pos)) = r'.find? (fun p => decide (t ≤ p.pos)) := by
    intro r'
    induction r' with
    | nil => intro _; rfl
    | cons p r' ih =>
      intro hr
      have h1 := hr p (by simp)
      rw [List.find?_cons, List.find?_cons, ih fun q hq => hr q (List.mem_cons_of_mem _ hq)]
      by_cases q : t ≤ p.pos
      · rw [decide_eq_true q, decide_eq_true (by omega : n ≤ p.pos)]
      · rw [decide_eq_false q, decide_eq_false (by omega : ¬ n ≤ p.pos)]
  unfold ownF
  rw [e r hr]
/-- The ends of the pieces: each number in its place, once. -/
def Ends (M : Nat) (a b : List PtD) (l : List Nat) : Prop := l.Pairwise (· < ·) ∧ ∀ x, x ∈ l ↔ x = M - 1 ∨ (∃ p ∈ a, p.pos = x) ∨ ∃ p ∈ b, p.pos = x
theorem pairwise_lt_uniq : ∀ {l l' : List Nat}, l.Pairwise (· < ·) → l'.Pairwise (· < ·) → (∀ x, x ∈ l ↔ x ∈ l') → l = l' := by
  intro l l' h h' hm
  have n1 : l.Nodup := h.imp fun h => Nat.ne_of_lt h
  have n2 : l'.Nodup := h'.imp fun h => Nat.ne_of_lt h
  have hp : l.Perm l' := (List.perm_ext_iff_of_nodup n1 n2).2 hm
  exact List.Perm.eq_of_pairwise (fun a b _ _ h1 h2 => by omega) h h' hp
theorem ends_uniq {M : Nat} {a b : List PtD} {l l' : List Nat} (h : Ends M a b l) (h' : Ends M a b l') : l = l' := pairwise_lt_uniq h.1 h'.1 fun x => by rw [h.2, h'.2]
theorem ends_swap {M : Nat} {a b : List PtD} {l : List Nat} (h : Ends M a b l) : Ends M b a l := ⟨h.1, fun x => by rw [h.2]; exact or_congr_right or_comm⟩
/-- What moves, covered. -/
theorem moved_all {M : Nat} (hM : 0 < M) {a b : List PtD} {l : List Nat} (hl : Ends M a b l) (ha : ∀ p ∈ a, p.pos < M) (hb : ∀ p ∈ b, p.pos < M) :
    ∃ g, M ≤ g ∧ Cover (ownF a) (ownF b) (movedF M (ownF a) (ownF b) 0 l []) g := by
  have hlt : ∀ t ∈ l, t < M := fun t ht => by
    rcases (hl.2 t).1 ht with h | ⟨p, hp, h⟩ | ⟨p, hp, h⟩
    · omega
    · rw [← h]; exact ha p hp
    · rw [← h]; exact hb p hp
  obtain ⟨g, h1, h2⟩ := moved_cover (M := M) (oa := ownF a) (ob := ownF b) (S := l) (fun n t hnt hs => ⟨own_piece hnt fun p hp h => hs p.pos ((hl.2 _).2 (.inr (.inl ⟨p, hp, rfl⟩))) h, own_piece hnt fun p hp h => hs p.pos ((hl.2 _).2 (.inr (.inr ⟨p, hp, rfl⟩))) h⟩)
    l 0 [] hl.1 (fun t ht => ⟨Nat.zero_le _, hlt t ht⟩) (fun s hs => .inr hs) ⟨fun x hx => (by cases hx), fun x hx => (by cases hx), fun x hx => (by cases hx), fun n hn => (by omega)⟩
  refine ⟨g, ?_, h2⟩
  have := h1 (M - 1) ((hl.2 _).2 (.inl rfl))
  omega
end Rg
end Go.Proofs.Ytgmeggilojcoeaa
