/-
  The library's slices.Compact at sorted uint64: each number once.
-/
import Derived.Test.YtgmeggilojcoeaaZNumSort
import Derived.Test.YtgmeggilojcoeaaZShCompact
namespace Go.Proofs.Ytgmeggilojcoeaa
set_option linter.unusedSimpArgs false
set_option linter.unusedVariables false
open Go.RowKit Go.Sort Go.Lib
namespace Rg
set_option linter.unusedSimpArgs false
set_option linter.unusedVariables false
theorem compact_spec (d : Array Nat) (hd : ∀ i j, i < j → j < d.size → d[i]! ≤ d[j]!) : ∀ m, m ≤ d.size →
    (compactUpTo d m).Pairwise (· < ·) ∧ (∀ x, x ∈ compactUpTo d m ↔ ∃ j, j < m ∧ d[j]! = x) ∧ ∀ x ∈ compactUpTo d m, x ≤ d[m - 1]!
  | 0, _ => by
    have e : compactUpTo d 0 = [] := rfl
    rw [e]
    refine ⟨List.Pairwise.nil, fun x => ⟨fun h => (by cases h), fun ⟨j, h, _⟩ => (by omega)⟩, fun x h => (by cases h)⟩
  | m + 1, hm => by
    obtain ⟨h1, h2, h3⟩ := compact_spec d hd m (by omega)
    rw [compactUpTo_succ, Nat.add_sub_cancel]
    by_cases hk : keeps d m = true
    · rw [if_pos hk]
      refine ⟨List.pairwise_append.2 ⟨h1, List.pairwise_singleton _ _, fun x hx y hy => ?_⟩, fun x => ?_, fun x hx => ?_⟩
      · rw [List.mem_singleton.1 hy]
        have h4 := h3 x hx
        obtain ⟨j, hj, _⟩ := (h2 x).1 hx
        have h5 := hd (m - 1) m (by omega) (by omega)
        have h6 : ¬ d[m - 1]! = d[m]! := by
          intro e
          rw [keeps_neg (by omega) e.symm] at hk
          cases hk
        omega
      · rw [List.mem_append, h2, List.mem_singleton]
        constructor
        · rintro (⟨j, hj, e⟩ | rfl)
          · exact ⟨j, by omega, e⟩
          · exact ⟨m, by omega, rfl⟩
        · rintro ⟨j, hj, e⟩
          by_cases hjm : j = m
          · exact .inr (by rw [← e, hjm])
          · exact .inl ⟨j, by omega, e⟩
      · rcases List.mem_append.1 hx with hx | hx
        · obtain ⟨j, hj, e⟩ := (h2 x).1 hx
          rw [← e]
          exact hd j m hj (by omega)
        · rw [List.mem_singleton.1 hx]
          exact Nat.le_refl _
    · rw [if_neg hk, List.append_nil]
      have hk0 : keeps d m = false := by simpa using hk
      have hmp : 0 < m := by
        rcases Nat.eq_zero_or_pos m with h | h
        · subst h
          simp [keeps] at hk0
        · exact h
      have e0 : d[m]! = d[m - 1]! := by
        simp only [keeps, decide_eq_false_iff_not] at hk0
        exact Classical.byContradiction fun h => hk0 (.inr h)
      refine ⟨h1, fun x => ?_, fun x hx => by rw [e0]; exact h3 x hx⟩
      rw [h2]
      constructor
      · rintro ⟨j, hj, e⟩
        exact ⟨j, by omega, e⟩
      · rintro ⟨j, hj, e⟩
        by_cases hjm : j = m
        · exact ⟨m - 1, by omega, by rw [← e, hjm, e0]⟩
        · exact ⟨j, by omega, e⟩
abbrev encU (n : Nat) : Value := .int .u64 (n : Nat)
theorem eqlU (T : TypeId) : EqlAt Try.prog T encU (fun x y => decide (x = y)) :=
  ⟨fun x y w => by rw [show (encU x) = Value.int .u64 (x : Int) from rfl, show (encU y) = Value.int .u64 (y : Int) from rfl, (EqlAt.intD Try.prog T .u64).1 (x : Int) (y : Int) w]; by_cases h : x = y <;> simp [h] <;> omega, fun op a b x y w => (EqlAt.intD Try.prog T .u64).2 op a b (x : Int) (y : Int) w⟩
theorem neqU (T : TypeId) : NeqAt Try.prog T encU (fun x y => decide (x = y)) :=
  ⟨fun x y w => by rw [show (encU x) = Value.int .u64 (x : Int) from rfl, show (encU y) = Value.int .u64 (y : Int) from rfl, (NeqAt.intD Try.prog T .u64).1 (x : Int) (y : Int) w]; by_cases h : x = y <;> simp [h] <;> omega, fun op a b x y w => (EqlAt.intD Try.prog T .u64).2 op a b (x : Int) (y : Int) w⟩
/-- A row in which each of the numbers stands once, rising. -/
def CompactPost (B : Nat) (w0 : World) (g c : Nat) (ids : List Nat) (e : Ending) (w' : World) : Prop :=
  ∃ (l : List Nat) (m : Nat), e = .returned (.slice (some ⟨g, 0, none⟩) m c) ∧ l.Pairwise (· < ·) ∧ (∀ x, x ∈ l ↔ x ∈ ids) ∧ numE.Row w' (some ⟨g, 0, none⟩) m c l ∧ Below B w0 w' ∧ m ≤ ids.length
theorem sorted_get {ids : List Nat} (hs : ids.Pairwise (· ≤ ·)) : ∀ i j, i < j → j < ids.toArray.size → ids.toArray[i]! ≤ ids.toArray[j]! := by
  intro i j hij hj
  have hj' : j < ids.length := by simpa using hj
  have := List.pairwise_iff_getElem.1 hs i j (by omega) hj' hij
  rw [getElem!_pos ids.toArray i (by simp; omega), getElem!_pos ids.toArray j hj]
  simpa using this
theorem mem_get (ids : List Nat) (x : Nat) : (∃ j, j < ids.toArray.size ∧ ids.toArray[j]! = x) ↔ x ∈ ids := by
  rw [List.mem_iff_getElem]
  constructor
  · rintro ⟨j, hj, e⟩
    have hj' : j < ids.length := by simpa using hj
    exact ⟨j, hj', by rw [← e, getElem!_pos ids.toArray j hj]; simp⟩
  · rintro ⟨j, hj, e⟩
    exact ⟨j, by simpa using hj, by rw [← e, getElem!_pos ids.toArray j (by simpa using hj)]; simp⟩
theorem compact_any (B : Nat) (w0 : World) (g n c : Nat) (ids : List Nat) (w : World) (h : Ns.NSt B w0 g 0 ids.toArray w) (hl : ids.length = n) (hnc : n ≤ c) (hc : c ≤ 9223372036854775807) (hs : ids.Pairwise (· ≤ ·)) :
    Calls Try.prog 85 #[.slice (some ⟨g, 0, none⟩) n c] w (CompactPost B w0 g c ids) := by
  have hsz : ids.toArray.size = n := by simpa using hl
  have hH : Sort.Holds encU w g 0 ids.toArray := fun j hj => ⟨h.at_ j hj, h.free _⟩
  have key := AnyE.slices_Compact Sh.compactNum encU (fun _ => rfl) (eqlU _) (neqU _) 0 (fun w => by exact Try.zeroValue60 w) g 0 c ids.toArray w hH (by rw [hsz]; omega) (by rw [hsz]; exact hnc)
  rw [hsz] at key
  obtain ⟨h1, h2, h3⟩ := compact_spec ids.toArray (sorted_get hs) n (by rw [hsz]; exact Nat.le_refl _)
  have hlen : (compactUpTo ids.toArray n).length ≤ n := by
    unfold compactUpTo
    rw [List.length_map]
    refine Nat.le_trans (List.length_filter_le _ _) ?_
    simp
  have hmem : ∀ x, x ∈ compactUpTo ids.toArray n ↔ x ∈ ids := fun x => by rw [h2, ← mem_get, hsz]
  refine Calls.mono key ?_
  rintro e w' ⟨rfl, q, rfl⟩
  generalize compactUpTo ids.toArray n = l at *
  refine ⟨l, l.length, rfl, h1, hmem, ⟨fun _ => ⟨g, 0, rfl, fun k u hu => ?_⟩, rfl, by omega, hc, fun e => by cases e⟩, below_putRow h.bel h.old, by omega⟩
  obtain ⟨hk, rfl⟩ := Ns.num_cell _ hu
  have hD : (l ++ List.replicate (n - l.length) 0).toArray.size = ids.toArray.size := by simp; omega
  rw [cell?_putRow encU (Sort.ahead w q) g 0 ids.toArray _ hH hD k (by rw [hD, hsz]; omega)]
  rw [getElem!_pos _ k (by rw [hD, hsz]; omega)]
  simp [List.getElem_append_left hk]
end Rg
end Go.Proofs.Ytgmeggilojcoeaa
