/-
  Appends of spans inside a region that draws its order.
-/
import Derived.Test.YtlkpofhfkhdheaaDoorOwn
namespace Go.Proofs.YtlkpofhfkhdheaaDoor
open Go.RowKit Ru

theorem ownSp_empty (w : World) (T : TypeId) (hT : T = 39) (B : Nat) (hB : B ≤ w.heap.size) : OwnSp B (w.alloc (.cells #[] T)) (some ⟨w.heap.size, 0, .none⟩) 0 0 [] := by
  subst hT
  exact ⟨rfl, .inr ⟨w.heap.size, 0, #[], rfl, hB, heap_alloc_new w _, Nat.le_refl _, by unfold maxLen; omega, rfl, rfl⟩⟩
theorem ownSp_empty_at (w : World) (g : Nat) (T : TypeId) (hT : T = 39) (B : Nat) (hB : B ≤ w.heap.size) (h : g = w.heap.size) : OwnSp B (w.alloc (.cells #[] T)) (some ⟨g, 0, none⟩) 0 0 [] := by
  subst h
  exact ownSp_empty w T hT B hB
/-- append(s, x..) on spans as one step of a region that draws its order. -/
theorem step_spans {w : World} {ops : Array Oper} {o : Oper} {a : Act} {K : Act → World → Prop} {Q : Exit → Act → World → Prop} {E : Prop} (hgd : Region.wanted o (yielded ops a.tmps) = true) (s x : Operand)
    (ho : o.op = .call { callee := .builtin .append, args := #[s, x], argTypes := #[23, 23] })
    (B : Nat) (A0 : Option Addr) (n0 c0 : Nat) (l0 : List SpanD) (hs : a.eval s = .slice A0 n0 c0) (hown : OwnSp B w A0 n0 c0 l0)
    (A : Option Addr) (m c : Nat) (l : List SpanD) (hx : a.eval x = .slice A m c) (hl : SpanRow w A m c l)
    (N : Nat) (ys : List SpanD) (hN : n0 + m = N) (hys : l0 ++ l = ys) (hroom : N ≤ 1000000000000) (hB : B ≤ w.heap.size)
    (h : ∀ A' c' w', OwnSp B w' A' N c' ys → Below B w w' → w.grownBy w' (Value.slice A0 n0 c0).ownBlock → K (a.put o.dst (.slice A' N c')) w') :
    if Region.wanted o (yielded ops a.tmps) = true then Oper.wp Tryd.prog o a w K Q else E := by
  subst hys
  rw [if_pos hgd]
  obtain ⟨i0, hi0, hz0, hz1, hz2⟩ := info_parts info_span
  obtain ⟨A', c', w', hrun, h2, h3, _⟩ := run_app (P := Tryd.prog) w B 23 o.type 39 i0 _ 8 80 Tryd.underlying23 hi0 hz0 hz1 hz2 rfl (by omega) (.slice A0 n0 c0) n0 (cellsAll l0) hown A m c (cellsAll l)
    (by rw [cellsAll_length, hl.len]) hl.cells hl.nil (cellsAll_one l) N (cellsAll (l0 ++ l)) hN (cellsAll_append l0 l).symm (by unfold maxLen; omega) (by omega) hB
  unfold Oper.wp execOp
  simp only [ho, resolve, invoke, builtin, Sem.run_bind, Sem.run_pure, Result.andThen_ok, List.map_toArray, List.map_cons, List.map_nil, hs, hx, hrun]
  exact h A' c' w' h2 ((Below.refl B w).grown h3 hB (own_from hown)) h3

end Go.Proofs.YtlkpofhfkhdheaaDoor
