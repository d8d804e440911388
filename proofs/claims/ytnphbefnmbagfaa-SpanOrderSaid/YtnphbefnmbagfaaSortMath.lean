/-
  Plain facts on lists of spans that are sorted, stably. No program is named here.
-/
import Derived.Test.YtnphbefnmbagfaaRefRight
namespace Go.Proofs.Ytnphbefnmbagfaa
open Ru

def Lt (a b : SpanD) : Prop := a.start < b.start ∨ (a.start = b.start ∧ a.id < b.id)
theorem less_iff {a b : SpanD} : lessF a b = true ↔ Lt a b := by
  unfold lessF Lt
  simp
theorem less_no {a b : SpanD} : lessF a b = false ↔ ¬ Lt a b := by
  rw [← less_iff]
  simp
theorem Lt.anti {a b : SpanD} (h : Lt a b) : ¬ Lt b a := by unfold Lt at *; omega
def Sorted (l : List SpanD) : Prop := l.Pairwise fun x y => ¬ Lt y x
def key (p q : Nat) (x : SpanD) : Bool := decide (x.start = p) && decide (x.id = q)
theorem key_iff {p q : Nat} {x : SpanD} : key p q x = true ↔ x.start = p ∧ x.id = q := by unfold key; simp
/-- They have the same spans of each time and Id, in the same order. -/
def Alike (l r : List SpanD) : Prop := ∀ p q, l.filter (key p q) = r.filter (key p q)
theorem Alike.refl (l : List SpanD) : Alike l l := fun _ _ => rfl
theorem Alike.symm {l r : List SpanD} (h : Alike l r) : Alike r l := fun p q => (h p q).symm
theorem Alike.trans {l r t : List SpanD} (h : Alike l r) (h2 : Alike r t) : Alike l t := fun p q => (h p q).trans (h2 p q)
theorem Alike.append {l r l' r' : List SpanD} (h : Alike l r) (h2 : Alike l' r') : Alike (l ++ l') (r ++ r') := fun p q => by rw [List.filter_append, List.filter_append, h p q, h2 p q]
theorem Alike.mem {l r : List SpanD} (h : Alike l r) {x : SpanD} (hx : x ∈ r) : x ∈ l := by
  have h1 : x ∈ r.filter (key x.start x.id) := List.mem_filter.2 ⟨hx, key_iff.2 ⟨rfl, rfl⟩⟩
  rw [← h] at h1
  exact (List.mem_filter.1 h1).1
theorem alike_swap {b c : List SpanD} (h : ∀ x ∈ b, ∀ y ∈ c, Lt y x ∨ Lt x y) : Alike (b ++ c) (c ++ b) := by
  intro p q
  rw [List.filter_append, List.filter_append]
  by_cases hb : b.filter (key p q) = []
  · rw [hb]; simp
  · have hc : c.filter (key p q) = [] := by
      apply List.filter_eq_nil_iff.2
      intro y hy hk
      obtain ⟨x, hx⟩ := List.exists_mem_of_ne_nil _ hb
      obtain ⟨hx1, hx2⟩ := List.mem_filter.1 hx
      have k1 := key_iff.1 hx2
      have k2 := key_iff.1 hk
      have := h x hx1 y hy
      unfold Lt at this
      omega
    rw [hc]; simp
theorem sorted_append {l r : List SpanD} : Sorted (l ++ r) ↔ Sorted l ∧ Sorted r ∧ ∀ x ∈ l, ∀ y ∈ r, ¬ Lt y x := List.pairwise_append
theorem merge_ok {l1 l2 r1 r2 m1 m2 : List SpanD} (hl : Sorted (l1 ++ l2)) (hr : Sorted (r1 ++ r2)) (h1 : ∀ x ∈ r1, ∀ y ∈ l2, Lt x y) (h2 : ∀ x ∈ l1, ∀ y ∈ r2, ¬ Lt y x)
    (s1 : Sorted m1) (a1 : Alike (l1 ++ r1) m1) (s2 : Sorted m2) (a2 : Alike (l2 ++ r2) m2) : Sorted (m1 ++ m2) ∧ Alike ((l1 ++ l2) ++ (r1 ++ r2)) (m1 ++ m2) := by
  constructor
  · refine sorted_append.2 ⟨s1, s2, fun x hx y hy => ?_⟩
    have hx := List.mem_append.1 (a1.mem hx)
    have hy := List.mem_append.1 (a2.mem hy)
    rcases hx with hx | hx <;> rcases hy with hy | hy
    · exact (sorted_append.1 hl).2.2 x hx y hy
    · exact h2 x hx y hy
    · exact (h1 x hx y hy).anti
    · exact (sorted_append.1 hr).2.2 x hx y hy
  · have e : Alike (l2 ++ r1) (r1 ++ l2) := alike_swap fun x hx y hy => .inl (h1 y hy x hx)
    have h3 := ((Alike.refl l1).append (e.append (Alike.refl r2))).trans (by
      have h4 := a1.append a2
      simpa only [List.append_assoc] using h4)
    simpa only [List.append_assoc] using h3
abbrev z0 : SpanD := SpanD.zero
theorem sorted_get {l : List SpanD} (h : Sorted l) {i j : Nat} (hij : i ≤ j) (hj : j < l.length) : ¬ Lt (l.getD j z0) (l.getD i z0) := by
  rw [List.getD_eq_getElem?_getD, List.getD_eq_getElem?_getD, List.getElem?_eq_getElem hj, List.getElem?_eq_getElem (by omega)]
  rcases Nat.lt_or_eq_of_le hij with h1 | rfl
  · exact List.pairwise_iff_getElem.1 h i j (by omega) hj h1
  · unfold Lt; omega
theorem mem_take_get {l : List SpanD} {k : Nat} {x : SpanD} (h : x ∈ l.take k) : ∃ u, u < k ∧ u < l.length ∧ x = l.getD u z0 := by
  obtain ⟨u, hu, rfl⟩ := List.getElem_of_mem h
  rw [List.length_take] at hu
  exact ⟨u, by omega, by omega, by rw [List.getElem_take, List.getD_eq_getElem?_getD, List.getElem?_eq_getElem (by omega)]; rfl⟩
theorem mem_drop_get {l : List SpanD} {k : Nat} {x : SpanD} (h : x ∈ l.drop k) : ∃ u, k ≤ u ∧ u < l.length ∧ x = l.getD u z0 := by
  obtain ⟨u, hu, rfl⟩ := List.getElem_of_mem h
  rw [List.length_drop] at hu
  exact ⟨k + u, by omega, by omega, by rw [List.getElem_drop, List.getD_eq_getElem?_getD, List.getElem?_eq_getElem (by omega)]; rfl⟩
theorem cross_lt {l r : List SpanD} (hl : Sorted l) (hr : Sorted r) {x y : Nat} (hy : y ≤ r.length) (h : x < l.length → 0 < y → Lt (r.getD (y - 1) z0) (l.getD x z0)) : ∀ u ∈ r.take y, ∀ v ∈ l.drop x, Lt u v := by
  intro u hu v hv
  obtain ⟨i, i1, i2, rfl⟩ := mem_take_get hu
  obtain ⟨j, j1, j2, rfl⟩ := mem_drop_get hv
  have h1 := h (by omega) (by omega)
  have h2 := sorted_get hr (show i ≤ y - 1 by omega) (by omega)
  have h3 := sorted_get hl j1 j2
  unfold Lt at *
  omega
theorem cross_le {l r : List SpanD} (hl : Sorted l) (hr : Sorted r) {x y : Nat} (hx : x ≤ l.length) (h : 0 < x → y < r.length → ¬ Lt (r.getD y z0) (l.getD (x - 1) z0)) : ∀ u ∈ l.take x, ∀ v ∈ r.drop y, ¬ Lt v u := by
  intro u hu v hv
  obtain ⟨i, i1, i2, rfl⟩ := mem_take_get hu
  obtain ⟨j, j1, j2, rfl⟩ := mem_drop_get hv
  have h1 := h (by omega) (by omega)
  have h2 := sorted_get hl (show i ≤ x - 1 by omega) (by omega)
  have h3 := sorted_get hr j1 j2
  unfold Lt at *
  omega
theorem Sorted.take {l : List SpanD} (h : Sorted l) (k : Nat) : Sorted (l.take k) := by
  have := List.take_append_drop k l
  rw [← this] at h
  exact (sorted_append.1 h).1
theorem Sorted.drop {l : List SpanD} (h : Sorted l) (k : Nat) : Sorted (l.drop k) := by
  have := List.take_append_drop k l
  rw [← this] at h
  exact (sorted_append.1 h).2.1
/-- One span put into its place. -/
theorem insert_ok {a b : List SpanD} {x : SpanD} (hs : Sorted (a ++ b)) (ha : a = [] ∨ ¬ Lt x (a.getD (a.length - 1) z0)) (hb : ∀ y ∈ b, Lt x y) : Sorted (a ++ (x :: b)) ∧ Alike ((a ++ b) ++ [x]) (a ++ (x :: b)) := by
  obtain ⟨s1, s2, s3⟩ := sorted_append.1 hs
  constructor
  · refine sorted_append.2 ⟨s1, List.pairwise_cons.2 ⟨fun y hy => (hb y hy).anti, s2⟩, fun u hu v hv => ?_⟩
    rcases List.mem_cons.1 hv with rfl | hv
    · rcases ha with rfl | ha
      · cases hu
      · have hu' : u ∈ a.take a.length := by rw [List.take_length]; exact hu
        obtain ⟨i, i1, i2, rfl⟩ := mem_take_get hu'
        have h2 := sorted_get s1 (show i ≤ a.length - 1 by omega) (by omega)
        unfold Lt at *
        omega
    · exact s3 u hu v hv
  · have h1 : Alike (b ++ [x]) ([x] ++ b) := alike_swap fun u hu v hv => by
      rw [List.mem_singleton.1 hv]
      exact .inl (hb u hu)
    have h2 := (Alike.refl a).append h1
    simpa only [List.append_assoc, List.singleton_append] using h2

/-! ### places in a list of parts -/
theorem get_p {p r : List SpanD} {k j : Nat} (h : k = p.length + j) : (p ++ r).getD k z0 = r.getD j z0 := by
  subst h
  simp only [List.getD_eq_getElem?_getD]
  rw [List.getElem?_append_right (by omega)]
  congr 2
  omega
theorem get_l {l r : List SpanD} {k : Nat} (h : k < l.length) : (l ++ r).getD k z0 = l.getD k z0 := by
  simp only [List.getD_eq_getElem?_getD]
  rw [List.getElem?_append_left h]

/-- Where a place of the turned list comes from. -/
def rot (a m b x : Nat) : Nat := if a ≤ x ∧ x < a + (b - m) then x - a + m else if a + (b - m) ≤ x ∧ x < b then x - (b - m) else x
def sw (a b n x : Nat) : Nat := if a ≤ x ∧ x < a + n then x - a + b else if b ≤ x ∧ x < b + n then x - b + a else x
theorem rot_left {m i j : Nat} (hi : i ≤ m) (h : j < i) (x : Nat) : sw (m - i) m j (rot (m - (i - j)) m (m + j) x) = rot (m - i) m (m + j) x := by
  unfold rot sw
  repeat' split
  all_goals omega
theorem rot_right {m i j : Nat} (hi : i ≤ m) (h : i < j) (x : Nat) : sw (m - i) (m + j - i) i (rot (m - i) m (m + (j - i)) x) = rot (m - i) m (m + j) x := by
  unfold rot sw
  repeat' split
  all_goals omega
theorem rot_same {m i : Nat} (hi : i ≤ m) (x : Nat) : sw (m - i) m i x = rot (m - i) m (m + i) x := by
  unfold rot sw
  repeat' split
  all_goals omega
theorem rot_parts (p b c s r : List SpanD) (hr : r.length = (p ++ (b ++ (c ++ s))).length) (h : ∀ x, r.getD x z0 = (p ++ (b ++ (c ++ s))).getD (rot p.length (p.length + b.length) (p.length + b.length + c.length) x) z0) : r = p ++ (c ++ (b ++ s)) := by
  have hl : r.length = (p ++ (c ++ (b ++ s))).length := by rw [hr]; simp only [List.length_append]; omega
  apply List.ext_getElem hl
  intro k h1 h2
  have h3 := h k
  rw [List.getD_eq_getElem?_getD, List.getElem?_eq_getElem h1] at h3
  have h4 : (p ++ (c ++ (b ++ s))).getD k z0 = (p ++ (c ++ (b ++ s)))[k] := by rw [List.getD_eq_getElem?_getD, List.getElem?_eq_getElem h2]; rfl
  rw [← h4]
  refine Eq.trans (show r[k] = _ from h3) ?_
  clear h h3 h4 hl
  by_cases k1 : k < p.length
  · rw [get_l k1, show rot p.length (p.length + b.length) (p.length + b.length + c.length) k = k by unfold rot; rw [if_neg (by omega), if_neg (by omega)], get_l k1]
  by_cases k2 : k < p.length + c.length
  · rw [show rot p.length (p.length + b.length) (p.length + b.length + c.length) k = k - p.length + (p.length + b.length) by unfold rot; rw [if_pos (by omega)]]
    rw [get_p (p := p) (j := b.length + (k - p.length)) (by omega), get_p (p := b) (j := k - p.length) (by omega), get_l (by omega), get_p (p := p) (j := k - p.length) (by omega), get_l (by omega)]
  by_cases k3 : k < p.length + c.length + b.length
  · rw [show rot p.length (p.length + b.length) (p.length + b.length + c.length) k = k - c.length by unfold rot; rw [if_neg (by omega), if_pos (by omega)]; omega]
    rw [get_p (p := p) (j := k - c.length - p.length) (by omega), get_l (by omega), get_p (p := p) (j := k - p.length) (by omega), get_p (p := c) (j := k - p.length - c.length) (by omega), get_l (by omega)]
    congr 1
    omega
  · rw [show rot p.length (p.length + b.length) (p.length + b.length + c.length) k = k by unfold rot; rw [if_neg (by omega), if_neg (by omega)]]
    rw [get_p (p := p) (j := k - p.length) (by omega), get_p (p := b) (j := k - p.length - b.length) (by omega), get_p (p := c) (j := k - p.length - b.length - c.length) (by omega), get_p (p := p) (j := k - p.length) (by omega), get_p (p := c) (j := k - p.length - c.length) (by omega), get_p (p := b) (j := k - p.length - b.length - c.length) (by omega)]
end Go.Proofs.Ytnphbefnmbagfaa
