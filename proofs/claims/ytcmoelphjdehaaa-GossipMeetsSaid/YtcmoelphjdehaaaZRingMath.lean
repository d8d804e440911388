/-
  Points of members on a ring, in their order; who owns a number.
-/
namespace Go.Proofs.Ytcmoelphjdehaaa
set_option linter.unusedSimpArgs false
set_option linter.unusedVariables false
namespace Rg
set_option linter.unusedSimpArgs false
set_option linter.unusedVariables false

structure PtD where
  pos : Nat
  id : Nat
instance : Inhabited PtD := ⟨⟨0, 0⟩⟩
def PtD.Le (a b : PtD) : Prop := a.pos < b.pos ∨ (a.pos = b.pos ∧ a.id ≤ b.id)
instance (a b : PtD) : Decidable (a.Le b) := inferInstanceAs (Decidable (a.pos < b.pos ∨ (a.pos = b.pos ∧ a.id ≤ b.id)))
theorem PtD.Le.anti {a b : PtD} (h1 : a.Le b) (h2 : b.Le a) : a = b := by
  obtain ⟨x, y⟩ := a
  obtain ⟨u, v⟩ := b
  unfold PtD.Le at h1 h2
  simp only at h1 h2
  have h3 : x = u := by omega
  have h4 : y = v := by omega
  rw [h3, h4]
theorem PtD.Le.trans {a b c : PtD} (h1 : a.Le b) (h2 : b.Le c) : a.Le c := by
  unfold PtD.Le at *
  omega
theorem PtD.Le.total (a b : PtD) : a.Le b ∨ b.Le a := by
  unfold PtD.Le
  omega
theorem PtD.Le.refl (a : PtD) : a.Le a := by
  unfold PtD.Le
  omega
/-- In their order. -/
def Sorted (r : List PtD) : Prop := r.Pairwise PtD.Le
/-- Who owns the number: the first point there or behind it; behind all, the first one. -/
def ownF (r : List PtD) (h : Nat) : Nat :=
  match r.find? fun p => decide (h ≤ p.pos) with
  | some p => p.id
  | none => match r with
    | [] => 0
    | p :: _ => p.id
/-- p is the point by which the number h is owned. -/
def IsOwn (r : List PtD) (h : Nat) (p : PtD) : Prop :=
  p ∈ r ∧ ((h ≤ p.pos ∧ ∀ q ∈ r, h ≤ q.pos → p.Le q) ∨ ((∀ q ∈ r, q.pos < h) ∧ ∀ q ∈ r, p.Le q))
theorem own_some {r : List PtD} (hs : Sorted r) (hne : r ≠ []) (h : Nat) : ∃ p, IsOwn r h p ∧ ownF r h = p.id := by
  rcases hf : r.find? (fun p => decide (h ≤ p.pos)) with _ | p
  · obtain ⟨p, t, rfl⟩ := List.exists_cons_of_ne_nil hne
    refine ⟨p, ⟨by simp, .inr ⟨fun q hq => ?_, fun q hq => ?_⟩⟩, by unfold ownF; rw [hf]⟩
    all_goals rw [List.find?_eq_none] at hf
    · have := hf q hq
      simpa using this
    · rcases List.mem_cons.1 hq with rfl | hq
      · exact PtD.Le.refl _
      · exact List.rel_of_pairwise_cons hs hq
  · obtain ⟨h1, l1, l2, rfl, h2⟩ := List.find?_eq_some_iff_append.1 hf
    refine ⟨p, ⟨by simp, .inl ⟨by simpa using h1, fun q hq hle => ?_⟩⟩, by unfold ownF; rw [hf]⟩
    rcases List.mem_append.1 hq with hq | hq
    · have := h2 q hq
      simp at this
      omega
    · rcases List.mem_cons.1 hq with rfl | hq
      · exact PtD.Le.refl _
      · have h3 := (List.pairwise_append.1 hs).2.1
        exact List.rel_of_pairwise_cons h3 hq
theorem own_of {r : List PtD} (hs : Sorted r) {h : Nat} {p : PtD} (hp : IsOwn r h p) : ownF r h = p.id := by
  obtain ⟨hm, ho⟩ := hp
  obtain ⟨q, ⟨qm, qo⟩, he⟩ := own_some hs (by rintro rfl; simp at hm) h
  rw [he]
  have : p = q := by
    rcases ho with ⟨a, b⟩ | ⟨a, b⟩ <;> rcases qo with ⟨c, d⟩ | ⟨c, d⟩
    · exact PtD.Le.anti (b q qm c) (d p hm a)
    · have := c p hm; omega
    · have := a q qm; omega
    · exact PtD.Le.anti (b q qm) (d p hm)
  rw [this]
theorem own_nil (h : Nat) : ownF [] h = 0 := rfl
/-- The owner among all is the owner among those with whom its point stands. -/
theorem own_among {r a : List PtD} (hr : Sorted r) (ha : Sorted a) (hsub : ∀ p ∈ a, p ∈ r) {h : Nat} {p : PtD} (hp : IsOwn r h p) (hpa : p ∈ a) : ownF a h = ownF r h := by
  rw [own_of hr hp]
  refine own_of ha ⟨hpa, ?_⟩
  rcases hp.2 with ⟨b, c⟩ | ⟨b, c⟩
  · exact .inl ⟨b, fun q hq => c q (hsub q hq)⟩
  · exact .inr ⟨fun q hq => b q (hsub q hq), fun q hq => c q (hsub q hq)⟩
theorem own_id {r : List PtD} (hs : Sorted r) (hne : r ≠ []) (h : Nat) : ∃ p ∈ r, ownF r h = p.id := by
  obtain ⟨p, hp, he⟩ := own_some hs hne h
  exact ⟨p, hp.1, he⟩

/-- The members' points, by members. -/
def ptsOf (atF : Nat → Nat → Nat) (ids : List Nat) (points : Nat) : List PtD := ids.flatMap fun id => (List.range points).map fun i => ⟨atF id i, id⟩
theorem pts_length (atF : Nat → Nat → Nat) (ids : List Nat) (points : Nat) : (ptsOf atF ids points).length = ids.length * points := by
  induction ids with
  | nil => simp [ptsOf]
  | cons i ids ih =>
    rw [ptsOf, List.flatMap_cons, List.length_append, show (ids.flatMap _).length = ids.length * points from ih, List.length_cons, Nat.add_mul]
    simp
    omega
theorem pts_append (atF : Nat → Nat → Nat) (a b : List Nat) (points : Nat) : ptsOf atF (a ++ b) points = ptsOf atF a points ++ ptsOf atF b points := by simp [ptsOf]
theorem pts_id {atF : Nat → Nat → Nat} {ids : List Nat} {points : Nat} {p : PtD} (h : p ∈ ptsOf atF ids points) : p.id ∈ ids := by
  obtain ⟨i, hi, h⟩ := List.mem_flatMap.1 h
  obtain ⟨k, _, rfl⟩ := List.mem_map.1 h
  exact hi
theorem pts_ne {atF : Nat → Nat → Nat} {ids : List Nat} {points : Nat} (h : ids ≠ []) (hp : 0 < points) : ptsOf atF ids points ≠ [] := by
  intro e
  have h1 := pts_length atF ids points
  rw [e, List.length_nil] at h1
  have := Nat.mul_pos (List.length_pos_iff.2 h) hp
  omega
/-- On the ring of all, whose a number is: who owns it among some of them, or among the others. -/
theorem own_two {atF : Nat → Nat → Nat} {a b : List Nat} {points : Nat} {ra rb r : List PtD} (ha : Sorted ra) (hb : Sorted rb) (hr : Sorted r)
    (pa : ra.Perm (ptsOf atF a points)) (pb : rb.Perm (ptsOf atF b points)) (pr : r.Perm (ptsOf atF (a ++ b) points)) (h : Nat) : ownF r h = ownF ra h ∨ ownF r h = ownF rb h := by
  by_cases hne : r = []
  · subst hne
    rw [pts_append] at pr
    have h1 := List.append_eq_nil_iff.1 (List.nil_perm.1 pr)
    rw [h1.1] at pa
    have := List.perm_nil.1 pa
    subst this
    exact .inl rfl
  · obtain ⟨p, hp, he⟩ := own_some hr hne h
    have hm : p ∈ ptsOf atF (a ++ b) points := pr.mem_iff.1 hp.1
    rw [pts_append] at hm
    rcases List.mem_append.1 hm with hm | hm
    · left
      refine (own_among hr ha (fun q hq => pr.mem_iff.2 ?_) hp (pa.mem_iff.2 hm)).symm
      rw [pts_append]
      exact List.mem_append.2 (.inl (pa.mem_iff.1 hq))
    · right
      refine (own_among hr hb (fun q hq => pr.mem_iff.2 ?_) hp (pb.mem_iff.2 hm)).symm
      rw [pts_append]
      exact List.mem_append.2 (.inr (pb.mem_iff.1 hq))
/-- Ids that rise, from 1 on. -/
def riseF : Nat → List Nat → Bool
  | _, [] => true
  | l, i :: is => decide (l < i) && riseF i is
theorem rise_pos {l : Nat} {ids : List Nat} (h : riseF l ids = true) : ∀ i ∈ ids, l < i := by
  induction ids generalizing l with
  | nil => intro i hi; cases hi
  | cons j ids ih =>
    simp only [riseF, Bool.and_eq_true, decide_eq_true_eq] at h
    intro i hi
    rcases List.mem_cons.1 hi with rfl | hi
    · exact h.1
    · exact Nat.lt_trans h.1 (ih h.2 i hi)
theorem rise_sub {l : Nat} {ids : List Nat} (h : riseF l ids = true) {l' : Nat} {js : List Nat} (hs : js.Sublist ids) (hl : l' ≤ l) : riseF l' js = true := by
  induction hs generalizing l l' with
  | slnil => rfl
  | cons i _ ih =>
    simp only [riseF, Bool.and_eq_true, decide_eq_true_eq] at h
    exact ih h.2 (by omega)
  | cons_cons i _ ih =>
    simp only [riseF, Bool.and_eq_true, decide_eq_true_eq] at h ⊢
    exact ⟨by omega, ih h.2 (Nat.le_refl _)⟩
/-- The owner on the ring of some members is one of them. -/
theorem own_member {atF : Nat → Nat → Nat} {ids : List Nat} {points : Nat} {r : List PtD} (hr : Sorted r) (pr : r.Perm (ptsOf atF ids points)) (hne : ids ≠ []) (hp : 0 < points) (h : Nat) : ownF r h ∈ ids := by
  have h1 : r ≠ [] := by
    rintro rfl
    exact pts_ne (atF := atF) hne hp (List.nil_perm.1 pr)
  obtain ⟨p, hm, he⟩ := own_id hr h1 h
  rw [he]
  exact pts_id (pr.mem_iff.1 hm)
theorem sorted_uniq {a b : List PtD} (ha : Sorted a) (hb : Sorted b) (hp : a.Perm b) : a = b := List.Perm.eq_of_pairwise (fun _ _ _ _ h1 h2 => PtD.Le.anti h1 h2) ha hb hp
end Rg
end Go.Proofs.Ytcmoelphjdehaaa
