/-
  Spans exchanged in a row of the call's own; a policy of spans in another order, or that come twice.
-/
import Derived.Test.YtlkpofhfkhdheaaDoorSpStep
import Derived.Test.YtlkpofhfkhdheaaDoorRefEval
import Derived.Laws.OwnMore
namespace Go.Proofs.YtlkpofhfkhdheaaDoor
open Go.RowKit Ru

/-- A span stored at a place. -/
abbrev setAt (w : World) (g o : Nat) (s : SpanD) : World :=
  (((((((w.setCell ⟨g, o, none⟩ (.int .u64 (s.trace : Nat))).setCell ⟨g, o + 1, none⟩ (.int .u64 (s.id : Nat))).setCell ⟨g, o + 2, none⟩ (.int .u64 (s.parent : Nat))).setCell ⟨g, o + 3, none⟩ (.int .u64 (s.start : Nat))).setCell ⟨g, o + 4, none⟩ (.int .u64 (s.len : Nat))).setCell ⟨g, o + 5, none⟩ (.string s.service)).setCell ⟨g, o + 6, none⟩ (.string s.name)).setCell ⟨g, o + 7, none⟩ (.bool s.fail)
/-- .. the same in the list of its cells. -/
abbrev set8 (l : List Value) (o : Nat) (s : SpanD) : List Value :=
  (((((((l.set o (.int .u64 (s.trace : Nat))).set (o + 1) (.int .u64 (s.id : Nat))).set (o + 2) (.int .u64 (s.parent : Nat))).set (o + 3) (.int .u64 (s.start : Nat))).set (o + 4) (.int .u64 (s.len : Nat))).set (o + 5) (.string s.service)).set (o + 6) (.string s.name)).set (o + 7) (.bool s.fail)
theorem set_behind (x : SpanD) (t : List Value) (i : Nat) (v : Value) : (cellsOf x ++ t).set (i + 8) v = cellsOf x ++ t.set i v := rfl
theorem cellsAll_set (s : SpanD) : ∀ (ss : List SpanD) (k : Nat), set8 (cellsAll ss) (k * 8) s = cellsAll (ss.set k s)
  | [], k => rfl
  | x :: ss, 0 => rfl
  | x :: ss, k + 1 => by
    have ih := cellsAll_set s ss k
    show set8 (cellsOf x ++ cellsAll ss) ((k + 1) * 8) s = cellsOf x ++ cellsAll (ss.set k s)
    rw [← ih, show (k + 1) * 8 = k * 8 + 8 by omega]
    rfl
theorem OwnSp.put {B : Nat} {w : World} {g n c : Nat} {ss : List SpanD} (h : OwnSp B w (some ⟨g, 0, Option.none⟩) n c ss) (k : Nat) (s : SpanD) : OwnSp B (setAt w g (k * 8) s) (some ⟨g, 0, Option.none⟩) n c (ss.set k s) := by
  have h1 := (((((((World.ownsRow.stored h (k * 8) (.int .u64 (s.trace : Nat))).1.stored (k * 8 + 1) (.int .u64 (s.id : Nat))).1.stored (k * 8 + 2) (.int .u64 (s.parent : Nat))).1.stored (k * 8 + 3) (.int .u64 (s.start : Nat))).1.stored (k * 8 + 4) (.int .u64 (s.len : Nat))).1.stored (k * 8 + 5) (.string s.service)).1.stored (k * 8 + 6) (.string s.name)).1.stored (k * 8 + 7) (.bool s.fail)
  unfold OwnSp
  rw [← cellsAll_set]
  exact h1.1
theorem below_put {b : Nat} {w0 w : World} (h : Below b w0 w) {g : Nat} (hg : b ≤ g) (o : Nat) (s : SpanD) : Below b w0 (setAt w g o s) :=
  (((((((h.setCell (p := ⟨g, o, Option.none⟩) hg _).setCell (p := ⟨g, o + 1, Option.none⟩) hg _).setCell (p := ⟨g, o + 2, Option.none⟩) hg _).setCell (p := ⟨g, o + 3, Option.none⟩) hg _).setCell (p := ⟨g, o + 4, Option.none⟩) hg _).setCell (p := ⟨g, o + 5, Option.none⟩) hg _).setCell (p := ⟨g, o + 6, Option.none⟩) hg _).setCell (p := ⟨g, o + 7, Option.none⟩) hg _
theorem OwnSp.free {B : Nat} {w : World} {g n c : Nat} {ss : List SpanD} (h : OwnSp B w (some ⟨g, 0, Option.none⟩) n c ss) (o : Nat) : w.frozen? ⟨g, o, Option.none⟩ = false := World.ownsRow.frozenAt h o
/-- Where there is one, it lies in a block of its own. -/
theorem OwnSp.block_ {B : Nat} {w : World} {A : Option Addr} {n c : Nat} {ss : List SpanD} (h : OwnSp B w A n c ss) (hn : 0 < n) : ∃ g, A = some ⟨g, 0, Option.none⟩ ∧ B ≤ g ∧ g < w.heap.size := by
  obtain ⟨hx, ⟨e', _⟩ | ⟨g, cap, cur, e', hg, hh, _⟩⟩ := h
  · injection e' with a b c
    omega
  · injection e' with a b c
    exact ⟨g, a, hg, (Array.getElem?_eq_some_iff.1 hh).1⟩

theorem any_mem {p : SpanD → Bool} {a b : List SpanD} (h : ∀ s, s ∈ a ↔ s ∈ b) : a.any p = b.any p := by
  rw [Bool.eq_iff_iff, List.any_eq_true, List.any_eq_true]
  constructor
  · rintro ⟨s, hs, hp⟩
    exact ⟨s, (h s).1 hs, hp⟩
  · rintro ⟨s, hs, hp⟩
    exact ⟨s, (h s).2 hs, hp⟩
theorem holds_mem {r : RuleD} {a b : List SpanD} (hl : whatF r.what ≠ .many ∨ a.length = b.length) (h : ∀ s, s ∈ a ↔ s ∈ b) : holdsF r a = holdsF r b := by
  unfold holdsF
  rw [any_mem h]
  have e : questF r a.length = questF r b.length := by
    rcases hl with hl | hl
    · funext s
      rw [quest_one hl, quest_one hl]
    · rw [hl]
  rw [e]
theorem find_like {α : Type} {p q : α → Bool} : ∀ {l : List α}, (∀ x ∈ l, p x = q x) → l.find? p = l.find? q
  | [], _ => rfl
  | x :: l, h => by
    rw [List.find?_cons, List.find?_cons, h x (by simp), find_like (l := l) fun y hy => h y (by simp [hy])]
theorem eval_mem {rs : List RuleD} {a b : List SpanD} (hne : a = [] ↔ b = []) (h : ∀ r ∈ rs, holdsF r a = holdsF r b) : evalF rs a = evalF rs b := by
  unfold evalF
  rw [find_like (p := fun r => holdsF r a) (q := fun r => holdsF r b) h]
  by_cases e : a = []
  · rw [if_pos e, if_pos (hne.1 e)]
  · rw [if_neg e, if_neg fun e' => e (hne.2 e')]
/-- Two of them exchanged. -/
def swapped (ss : List SpanD) (i j : Nat) (hi : i < ss.length) (hj : j < ss.length) : List SpanD := (ss.set i ss[j]).set j ss[i]
theorem swapped_perm {ss : List SpanD} {i j : Nat} (hi : i < ss.length) (hj : j < ss.length) : (swapped ss i j hi hj).Perm ss := List.set_set_perm hi hj
theorem eval_swapped (rs : List RuleD) {ss : List SpanD} {i j : Nat} (hi : i < ss.length) (hj : j < ss.length) : evalF rs (swapped ss i j hi hj) = evalF rs ss := by
  have hp := swapped_perm hi hj
  refine eval_mem ⟨fun e => ?_, fun e => ?_⟩ fun r _ => holds_mem (.inr hp.length_eq) fun s => hp.mem_iff
  · exact List.length_eq_zero_iff.1 (by rw [← hp.length_eq, e]; rfl)
  · have h0 : ss.length = 0 := by rw [e]; rfl
    omega
theorem eval_twice {rs : List RuleD} {ss : List SpanD} {i j : Nat} (hi : i < ss.length) (hj : j < ss.length) (h : ∀ r ∈ rs, whatF r.what ≠ .many) : evalF rs (swapped ss i j hi hj ++ [ss[i]]) = evalF rs ss := by
  have hp := swapped_perm hi hj
  refine eval_mem ⟨fun e => ?_, fun e => ?_⟩ fun r hr => holds_mem (.inl (h r hr)) fun s => ?_
  · simp at e
  · have h0 : ss.length = 0 := by rw [e]; rfl
    omega
  · rw [List.mem_append, hp.mem_iff]
    constructor
    · rintro (h1 | h1)
      · exact h1
      · rw [List.mem_singleton.1 h1]
        exact List.getElem_mem hi
    · exact .inl
theorem swapped_mem {ss : List SpanD} {i j : Nat} (hi : i < ss.length) (hj : j < ss.length) {s : SpanD} (h : s ∈ swapped ss i j hi hj) : s ∈ ss := (swapped_perm hi hj).mem_iff.1 h
theorem swapped_length {ss : List SpanD} {i j : Nat} (hi : i < ss.length) (hj : j < ss.length) : (swapped ss i j hi hj).length = ss.length := (swapped_perm hi hj).length_eq
theorem many_bool (s : ByteArray) : (s.toList == [109, 97, 110, 121]) = decide (whatF s = .many) := by
  cases hw : whatF s
  · exact (what_always hw).2.2.2.2.1
  · exact (what_fail hw).2.2.2.2.1
  · exact (what_root hw).2.2.2.2.1
  · exact (what_slow hw).2.2.2.2.1
  · exact (what_many hw).2.2.2.2.1
  · exact (what_hash hw).2.2.2.2.1
  · exact (what_service hw).2.2.2.2.1
  · exact (what_name hw).2.2.2.2.1
  · exact (what_other hw).2.2.2.2.1
end Go.Proofs.YtlkpofhfkhdheaaDoor
