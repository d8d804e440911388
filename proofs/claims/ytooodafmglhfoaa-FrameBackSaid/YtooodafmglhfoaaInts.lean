/-
  A row of ints of the call's own; appending to it.
-/
import Derived.Test.YtooodafmglhfoaaSls
namespace Go.Proofs.Ytooodafmglhfoaa
open Go.RowKit

def ints (zs : List Int) : List Value := zs.map (Value.int .i64)
def OwnI (B : Nat) (w : World) (A : Option Addr) (n c : Nat) (zs : List Int) : Prop := w.ownsRow B 3 1 (.slice A n c) n (ints zs)
theorem OwnI.none (B : Nat) (w : World) : OwnI B w .none 0 0 [] := World.ownsRow_nil w B _ _
theorem ints_length (zs : List Int) : (ints zs).length = zs.length := List.length_map ..
theorem ints_get {zs : List Int} {k : Nat} (h : k < zs.length) : (ints zs)[k]? = some (.int .i64 zs[k]) := by simp [ints, h]
theorem OwnI.len {B : Nat} {w : World} {A : Option Addr} {n c : Nat} {zs : List Int} (h : OwnI B w A n c zs) : zs.length = n := by
  have := h.1
  rw [ints_length] at this
  omega
theorem OwnI.later {B : Nat} {w w' : World} {A : Option Addr} {n c : Nat} {zs : List Int} (h : OwnI B w A n c zs) (hb : Below w.heap.size w w') : OwnI B w' A n c zs := by
  obtain ⟨hx, h | ⟨g, cap, cur, e, hg, hh, r⟩⟩ := h
  · exact ⟨hx, .inl h⟩
  · refine ⟨hx, .inr ⟨g, cap, cur, e, hg, ?_, r⟩⟩
    have hlt : g < w.heap.size := (Array.getElem?_eq_some_iff.1 hh).1
    rw [← hh]
    exact hb.block g hlt
theorem OwnI.from_ {B : Nat} {w : World} {A : Option Addr} {n c : Nat} {zs : List Int} (h : OwnI B w A n c zs) : ∀ k, (Value.slice A n c).ownBlock = some k → B ≤ k ∧ k < w.heap.size := World.ownsRow.lt h
theorem OwnI.holds {B : Nat} {w : World} {A : Option Addr} {n c : Nat} {zs : List Int} (h : OwnI B w A n c zs) : Holds w A (ints zs) := own_holds h
theorem OwnI.at_ {B : Nat} {w : World} {A : Option Addr} {n c : Nat} {zs : List Int} (h : OwnI B w A n c zs) {k : Nat} (hk : k < zs.length) :
    ∃ b off, A = some ⟨b, off, .none⟩ ∧ w.cell? ⟨b, off + k, .none⟩ = some (.int .i64 zs[k]) := by
  have hg := ints_get hk
  obtain ⟨b, off, rfl, hc⟩ := h.holds (by intro e; rw [e] at hg; cases hg)
  exact ⟨b, off, rfl, hc k _ hg⟩
theorem info_int : (Try.prog.info? 3).map (fun i => (i.zero, i.size, i.bytes)) = some (some (.int .i64 0), 1, 8) := by kernel_rfl
theorem ownI_lit (w : World) (zs : List Int) (cs : Array Value) (h : cs.toList = ints zs) (n : Nat) (hn : zs.length = n) (hm : n ≤ 9223372036854775807) (B : Nat) (hB : B ≤ w.heap.size) :
    OwnI B (w.alloc (.cells cs 3)) (some ⟨w.heap.size, 0, .none⟩) n n zs := by
  refine ⟨by rw [ints_length]; omega, .inr ⟨w.heap.size, n, cs, rfl, hB, heap_alloc_new w _, Nat.le_refl _, by unfold maxLen; omega, ?_, ?_⟩⟩
  · rw [← Array.length_toList, h, ints_length]; omega
  · rw [h, List.take_of_length_le (by rw [ints_length]; omega)]

/-- append(s, x) on ints, x first laid in a block of its own. -/
theorem wpList_int1 {w : World} {ops : Array Oper} {rest : List Oper} {o : Oper} {a : Act} {Q : Exit → Act → World → Prop} (hgd : Region.wanted o (yielded ops a.tmps) = true) (s x : Operand)
    (ho : o.op = .call { callee := .builtin .append, args := #[s, x], argTypes := #[36, 36] })
    (B : Nat) (A0 : Option Addr) (n0 c0 : Nat) (l0 : List Int) (hs : a.eval s = .slice A0 n0 c0) (hown : OwnI B w A0 n0 c0 l0)
    (b : Nat) (z : Int) (hx : a.eval x = .slice (some ⟨b, 0, .none⟩) 1 1) (hl : w.cell? ⟨b, 0, .none⟩ = some (.int .i64 z))
    (N : Nat) (ys : List Int) (hN : n0 + 1 = N) (hys : l0 ++ [z] = ys) (hroom : N ≤ 17592186044416) (hB : B ≤ w.heap.size)
    (h : ∀ A' c' w', OwnI B w' A' N c' ys → Below B w w' → w.grownBy w' (Value.slice A0 n0 c0).ownBlock →
      ((Value.slice A' N c').ownBlock = (Value.slice A0 n0 c0).ownBlock ∨ (Value.slice A' N c').ownBlock = some w.heap.size) → wpList Try.prog ops Q rest (a.put o.dst (.slice A' N c')) w') :
    wpList Try.prog ops Q (o :: rest) a w := by
  subst hys
  obtain ⟨i0, hi0, hz0, hz1, hz2⟩ := info_parts info_int
  refine wpList_app w hgd s x 36 ho B 3 i0 _ 1 8 Try.underlying36 hi0 hz0 hz1 hz2 rfl (by omega) (.slice A0 n0 c0) n0 (ints l0) hs hown _ 1 1 [.int .i64 z] hx
    rfl ?_ (fun e => by cases e) (by intro u hu; rw [List.mem_singleton.1 hu]; rfl) N (ints (l0 ++ [z])) hN (by simp [ints]) (by unfold maxLen; omega) (by omega) hB ?_
  · intro _
    refine ⟨b, 0, rfl, fun k u hu => ?_⟩
    rcases k with _ | k
    · cases hu; exact hl
    · simp at hu
  · intro A' c' w' ho' hg hat
    exact h A' c' w' ho' ((Below.refl B w).grown hg hB (own_from hown)) hg hat
/-- What does not lie in a row does not lie in what it has become. -/
theorem Away.after {A : Option Addr} {l : List UInt8} {row row' : Option Nat} {w : World} {n c : Nat} (h : Away A l row) (hs : Sl w A n c l) (hr : row' = row ∨ row' = some w.heap.size) : Away A l row' := by
  rcases hr with rfl | rfl
  · exact h
  · exact hs.away _ (fun k hk => by cases hk; exact Nat.le_refl _)
end Go.Proofs.Ytooodafmglhfoaa
