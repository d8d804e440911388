/-
  What moves when a member comes.
-/
import Derived.Test.YtcmoelphjdehaaaZRMoved
namespace Go.Proofs.Ytcmoelphjdehaaa
set_option linter.unusedSimpArgs false
set_option linter.unusedVariables false
open Go.RowKit
namespace Rg
set_option linter.unusedSimpArgs false
set_option linter.unusedVariables false
theorem pts_perm {atF : Nat → Nat → Nat} {a b : List Nat} (h : a.Perm b) (p : Nat) : (ptsOf atF a p).Perm (ptsOf atF b p) := List.Perm.flatMap_right _ h
theorem rise_nodup {l : Nat} {ids : List Nat} (h : riseF l ids = true) : ids.Pairwise (· < ·) := by
  induction ids generalizing l with
  | nil => exact List.Pairwise.nil
  | cons i ids ih =>
    simp only [riseF, Bool.and_eq_true, decide_eq_true_eq] at h
    exact List.pairwise_cons.2 ⟨fun j hj => rise_pos h.2 j hj, ih h.2⟩
def lessL (ids : List Nat) (at_ : Nat) : List Nat := ids.take at_ ++ ids.drop (at_ + 1)
theorem less_perm {ids : List Nat} {k : Nat} (hk : k < ids.length) : ids.Perm (lessL ids k ++ [ids[k]]) := by
  have e : ids = ids.take k ++ (ids[k] :: ids.drop (k + 1)) := by rw [← List.drop_eq_getElem_cons hk, List.take_append_drop]
  have h1 : (ids.take k ++ (ids[k] :: ids.drop (k + 1))).Perm (lessL ids k ++ [ids[k]]) := by
    unfold lessL
    rw [List.append_assoc]
    exact List.Perm.append_left _ (List.perm_append_comm (l₁ := [ids[k]]) (l₂ := ids.drop (k + 1)))
  exact (List.Perm.of_eq e).trans h1
theorem less_notin {ids : List Nat} (h : riseF 0 ids = true) {k : Nat} (hk : k < ids.length) : ids[k] ∉ lessL ids k := by
  have hn : (lessL ids k ++ [ids[k]]).Nodup := (less_perm hk).nodup_iff.1 ((rise_nodup h).imp fun h => Nat.ne_of_lt h)
  intro hm
  exact (List.nodup_append.1 hn).2.2 _ hm _ (List.mem_singleton.2 rfl) rfl
theorem less_rise {ids : List Nat} (h : riseF 0 ids = true) (k : Nat) : riseF 0 (lessL ids k) = true := by
  refine rise_sub h ?_ (Nat.le_refl 0)
  have e : ids = ids.take k ++ ids.drop k := (List.take_append_drop k ids).symm
  conv => rhs; rw [e]
  refine List.Sublist.append (List.Sublist.refl _) ?_
  rw [← List.drop_drop]
  exact List.drop_sublist 1 _
/-- A sorted list of these points. -/
theorem sorted_of (l : List PtD) : ∃ r, Sorted r ∧ r.Perm l := by
  refine ⟨l.mergeSort (fun a b => decide (a.Le b)), ?_, List.mergeSort_perm _ _⟩
  have := List.pairwise_mergeSort (le := fun a b : PtD => decide (a.Le b)) (fun a b c h1 h2 => by
    simp only [decide_eq_true_eq] at *
    exact PtD.Le.trans h1 h2) (fun a b => by
    simp only [Bool.or_eq_true, decide_eq_true_eq]
    exact PtD.Le.total a b) l
  exact this.imp fun h => by simpa using h
/-- What the others have changes just where the one who came has it now. -/
theorem comes_own {ids : List Nat} {k p : Nat} (hr : riseF 0 ids = true) (hk : k < ids.length) (hp : 0 < p) {ra rb : List PtD} (sa : Sorted ra) (sb : Sorted rb) (pa : ra.Perm (ptsOf atN (lessL ids k) p)) (pb : rb.Perm (ptsOf atN ids p)) (h : Nat) :
    (ownF ra h ≠ ownF rb h ↔ ownF rb h = ids[k]) ∧ ownF ra h ≠ ids[k] := by
  obtain ⟨rx, sx, px⟩ := sorted_of (ptsOf atN [ids[k]] p)
  have h2 := own_two sa sx sb pa px (pb.trans (pts_perm (less_perm hk) p)) h
  have hx : ownF rx h = ids[k] := by
    have := own_member sx px (by simp) hp h
    simpa using this
  have hpos : 0 < ids[k] := rise_pos hr _ (List.getElem_mem hk)
  have hna : ownF ra h ≠ ids[k] := by
    by_cases he : lessL ids k = []
    · rw [he] at pa
      have : ra = [] := List.perm_nil.1 pa
      rw [this, own_nil]
      omega
    · intro e
      have := own_member sa pa he hp h
      rw [e] at this
      exact less_notin hr hk this
  refine ⟨⟨fun hne => ?_, fun e => by rw [e]; exact hna⟩, hna⟩
  rcases h2 with e | e
  · exact absurd e.symm hne
  · rw [e, hx]
/-- What the law asks of the arcs. -/
structure ComesOk (x : Nat) (oa ob : Nat → Nat) (r : List ArcD) : Prop where
  ok : ∀ y ∈ r, y.new = x ∧ y.lo ≤ y.hi
  own : ∀ h, h < 18446744073709551616 → ((∃ y ∈ r, y.lo ≤ h ∧ h ≤ y.hi) ↔ oa h ≠ ob h)
theorem pts_lt {ids : List Nat} {p : Nat} {r : List PtD} (h : r.Perm (ptsOf atN ids p)) : ∀ q ∈ r, q.pos < 18446744073709551616 := by
  intro q hq
  obtain ⟨i, hi, h⟩ := List.mem_flatMap.1 (h.mem_iff.1 hq)
  obtain ⟨k, _, rfl⟩ := List.mem_map.1 h
  exact at_lt _ _
theorem comes_ok {ids : List Nat} {k p : Nat} (hr : riseF 0 ids = true) (hk : k < ids.length) (hp : 0 < p) {ra rb : List PtD} (sa : Sorted ra) (sb : Sorted rb) (pa : ra.Perm (ptsOf atN (lessL ids k) p)) (pb : rb.Perm (ptsOf atN ids p))
    {l : List Nat} (hl : Ends 18446744073709551616 ra rb l) : ComesOk ids[k] (ownF ra) (ownF rb) (movedF 18446744073709551616 (ownF ra) (ownF rb) 0 l []) := by
  obtain ⟨g, hg, hc⟩ := moved_all (by decide) hl (pts_lt pa) (pts_lt pb)
  refine ⟨fun y hy => ⟨?_, (hc.le y hy).1⟩, fun h hh => ⟨fun ⟨y, hy, h1, h2⟩ => ?_, fun hne => hc.all h (by omega) hne⟩⟩
  · have h1 := hc.own y hy y.lo (Nat.le_refl _) (hc.le y hy).1
    have h2 := hc.ne y hy
    have h3 := (comes_own hr hk hp sa sb pa pb y.lo).1.1 (by rw [h1.1, h1.2]; exact h2)
    rw [← h3, h1.2]
  · have h3 := hc.own y hy h h1 h2
    rw [h3.1, h3.2]
    exact hc.ne y hy
/-- Does it lie in one of them? -/
def inArcs (h : Nat) (r : List ArcD) : Bool := r.any (fun y => decide (y.lo ≤ h) && decide (h ≤ y.hi))
theorem inArcs_step (h : Nat) {r : List ArcD} {i : Nat} (hi : i < r.length) : inArcs h (r.take (i + 1)) = (inArcs h (r.take i) || (decide (r[i].lo ≤ h) && decide (h ≤ r[i].hi))) := by
  unfold inArcs
  rw [List.take_succ_eq_append_getElem hi, List.any_append]
  simp
theorem inArcs_own {h oa ob : Nat} {r : List ArcD} (hc : (∃ y ∈ r, y.lo ≤ h ∧ h ≤ y.hi) ↔ oa ≠ ob) : inArcs h r = decide (oa ≠ ob) := by
  rw [Bool.eq_iff_iff, decide_eq_true_eq, ← hc]
  unfold inArcs
  rw [List.any_eq_true]
  simp
end Rg
end Go.Proofs.Ytcmoelphjdehaaa
