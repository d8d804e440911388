/-
  A slice of one-cell values that reads as a list, whoever made it; such a row of the call's own, and appending one value to it.
-/
import Derived.Test.YtlkpofhfkhdheaaGreatDoorSl
namespace Go.Proofs.YtlkpofhfkhdheaaGreatDoor
open Go.RowKit

/-- The slice with this place, length and room holds the values vs. -/
structure Row (w : World) (A : Option Addr) (n c : Nat) (vs : List Value) : Prop where
  holds : Holds w A vs
  len : vs.length = n
  cap : n ≤ c
  max : c ≤ 9223372036854775807
  nil : A = .none → c = 0
theorem Row.none (w : World) : Row w .none 0 0 [] := ⟨Holds.nil _ _, rfl, Nat.le_refl _, by omega, fun _ => rfl⟩
theorem Row.below {w w' : World} {A : Option Addr} {n c : Nat} {vs : List Value} (h : Row w A n c vs) (hb : Below w.heap.size w w') : Row w' A n c vs := ⟨h.holds.below hb, h.len, h.cap, h.max, h.nil⟩
theorem Row.le {w : World} {A : Option Addr} {n c : Nat} {vs : List Value} (h : Row w A n c vs) : n ≤ 9223372036854775807 := Nat.le_trans h.cap h.max
theorem Row.at_ {w : World} {A : Option Addr} {n c : Nat} {vs : List Value} (h : Row w A n c vs) {k : Nat} (hk : k < vs.length) :
    ∃ b off, A = some ⟨b, off, .none⟩ ∧ w.cell? ⟨b, off + k, .none⟩ = some vs[k] := by
  have hg : vs[k]? = some vs[k] := List.getElem?_eq_getElem hk
  obtain ⟨b, off, rfl, hc⟩ := h.holds (by rintro rfl; simp at hk)
  exact ⟨b, off, rfl, hc k _ hg⟩

/-- A row of one-cell values of type e, of the call's own, from block B on. -/
def OwnV (e : TypeId) (B : Nat) (w : World) (A : Option Addr) (n c : Nat) (vs : List Value) : Prop := w.ownsRow B e 1 (.slice A n c) n vs
theorem OwnV.none (e : TypeId) (B : Nat) (w : World) : OwnV e B w .none 0 0 [] := World.ownsRow_nil w B _ _
theorem OwnV.len {e : TypeId} {B : Nat} {w : World} {A : Option Addr} {n c : Nat} {vs : List Value} (h : OwnV e B w A n c vs) : vs.length = n := by
  have := h.1
  omega
theorem OwnV.later {e : TypeId} {B : Nat} {w w' : World} {A : Option Addr} {n c : Nat} {vs : List Value} (h : OwnV e B w A n c vs) (hb : Below w.heap.size w w') : OwnV e B w' A n c vs := by
  obtain ⟨hx, h | ⟨g, cap, cur, e', hg, hh, r⟩⟩ := h
  · exact ⟨hx, .inl h⟩
  · refine ⟨hx, .inr ⟨g, cap, cur, e', hg, ?_, r⟩⟩
    have hlt : g < w.heap.size := (Array.getElem?_eq_some_iff.1 hh).1
    rw [← hh]
    exact hb.block g hlt
theorem OwnV.from_ {e : TypeId} {B : Nat} {w : World} {A : Option Addr} {n c : Nat} {vs : List Value} (h : OwnV e B w A n c vs) : ∀ k, (Value.slice A n c).ownBlock = some k → B ≤ k ∧ k < w.heap.size := World.ownsRow.lt h
theorem OwnV.row {e : TypeId} {B : Nat} {w : World} {A : Option Addr} {n c : Nat} {vs : List Value} (h : OwnV e B w A n c vs) : Row w A n c vs := by
  have hh := own_holds h
  have hl := h.len
  obtain ⟨hx, ⟨e', rfl⟩ | ⟨g, cap, cur, e', hg, _, hnc, hcm, hs, hc⟩⟩ := h
  · injection e' with a b c
    subst a
    subst c
    exact ⟨hh, hl, Nat.le_refl _, by omega, fun _ => rfl⟩
  · injection e' with a b c
    subst a c
    unfold maxLen at hcm
    exact ⟨hh, hl, hnc, by omega, fun e => by cases e⟩
/-- A row is kept where another one grows. -/
theorem OwnV.kept {e : TypeId} {B : Nat} {w w' : World} {A : Option Addr} {n c : Nat} {vs : List Value} {row : Option Nat} (h : OwnV e B w A n c vs) (hg : w.grownBy w' row) (hne : (Value.slice A n c).ownBlock = .none ∨ (Value.slice A n c).ownBlock ≠ row) : OwnV e B w' A n c vs :=
  World.ownsRow.kept h hg hne
theorem ownV_lit (e : TypeId) (w : World) (vs : List Value) (cs : Array Value) (h : cs.toList = vs) (n : Nat) (hn : vs.length = n) (hm : n ≤ 9223372036854775807) (B : Nat) (hB : B ≤ w.heap.size) :
    OwnV e B (w.alloc (.cells cs e)) (some ⟨w.heap.size, 0, .none⟩) n n vs := by
  refine ⟨by omega, .inr ⟨w.heap.size, n, cs, rfl, hB, heap_alloc_new w _, Nat.le_refl _, by unfold maxLen; omega, ?_, ?_⟩⟩
  · rw [← Array.length_toList, h]; omega
  · rw [h, List.take_of_length_le (by omega)]
theorem at_new (w : World) (v : Value) (T : TypeId) : (w.alloc (.cells #[v] T)).cell? ⟨w.heap.size, 0, .none⟩ = some v := by rw [World.cell?_alloc_mark]; rfl

/-- append(s, x), x first laid in a block of its own. -/
theorem wpList_one {w : World} {ops : Array Oper} {rest : List Oper} {o : Oper} {a : Act} {Q : Exit → Act → World → Prop} (hgd : Region.wanted o (yielded ops a.tmps) = true) (s x : Operand) (t e : TypeId)
    (ho : o.op = .call { callee := .builtin .append, args := #[s, x], argTypes := #[t, t] })
    (z : Value) (by_ : Nat) (ht : Tryz.prog.underlying t = some (.slice e)) (hinfo : (Tryz.prog.info? e).map (fun i => (i.zero, i.size, i.bytes)) = some (some z, 1, by_)) (hz : z.cells.size = 1)
    (B : Nat) (A0 : Option Addr) (n0 c0 : Nat) (l0 : List Value) (hs : a.eval s = .slice A0 n0 c0) (hown : OwnV e B w A0 n0 c0 l0)
    (b : Nat) (v : Value) (hx : a.eval x = .slice (some ⟨b, 0, .none⟩) 1 1) (hl : w.cell? ⟨b, 0, .none⟩ = some v) (hv : v.oneCell' = true)
    (N : Nat) (ys : List Value) (hN : n0 + 1 = N) (hys : l0 ++ [v] = ys) (hroom : N * by_ ≤ 140737488355328) (hlen : N ≤ 140737488355328) (hB : B ≤ w.heap.size)
    (h : ∀ A' c' w', OwnV e B w' A' N c' ys → Below B w w' → w.grownBy w' (Value.slice A0 n0 c0).ownBlock →
      ((Value.slice A' N c').ownBlock = (Value.slice A0 n0 c0).ownBlock ∨ (Value.slice A' N c').ownBlock = some w.heap.size) → wpList Tryz.prog ops Q rest (a.put o.dst (.slice A' N c')) w') :
    wpList Tryz.prog ops Q (o :: rest) a w := by
  subst hys
  obtain ⟨i0, hi0, hz0, hz1, hz2⟩ := info_parts hinfo
  refine wpList_app w hgd s x t ho B e i0 _ 1 by_ ht hi0 hz0 hz1 hz2 hz (by omega) (.slice A0 n0 c0) n0 l0 hs hown _ 1 1 [v] hx
    rfl ?_ (fun e => by cases e) (by intro u hu; rw [List.mem_singleton.1 hu]; exact hv) N (l0 ++ [v]) hN rfl (by unfold maxLen; omega) hroom hB ?_
  · intro _
    refine ⟨b, 0, rfl, fun k u hu => ?_⟩
    rcases k with _ | k
    · cases hu; exact hl
    · simp at hu
  · intro A' c' w' ho' hg hat
    exact h A' c' w' ho' ((Below.refl B w).grown hg hB (own_from hown)) hg hat
end Go.Proofs.YtlkpofhfkhdheaaGreatDoor
