/-
  Appends as steps of a region that draws its order; small rows that stay where others grow.
-/
import Derived.Test.YteoeghljoaiiiaaZRowK
import Derived.Deep.RegionHeld3
import Derived.Deep.Slices
import Derived.Deep.DrawnRows
import Derived.OpenShut
namespace Go.Proofs.Yteoeghljoaiiiaa
set_option linter.unusedSimpArgs false
set_option linter.unusedVariables false
open Go.RowKit
namespace Enc
set_option linter.unusedSimpArgs false
set_option linter.unusedVariables false
variable {α : Type} {E : Enc α} {e : TypeId}
/-- append(s, x..) as one step of a region that draws its order. -/
theorem step_rows {w : World} {ops : Array Oper} {o : Oper} {a : Act} {K : Act → World → Prop} {Q : Exit → Act → World → Prop} {F : Prop} (hgd : Region.wanted o (yielded ops a.tmps) = true) (s x : Operand) (t : TypeId)
    (ho : o.op = .call { callee := .builtin .append, args := #[s, x], argTypes := #[t, t] })
    (z : Value) (by_ : Nat) (ht : Try.prog.underlying t = some (.slice e)) (hinfo : (Try.prog.info? e).map (fun i => (i.zero, i.size, i.bytes)) = some (some z, E.K, by_)) (hz : z.cells.size = E.K)
    (B : Nat) (A0 : Option Addr) (n0 c0 : Nat) (l0 : List α) (hs : a.eval s = .slice A0 n0 c0) (hown : E.Own e B w A0 n0 c0 l0)
    (A : Option Addr) (m c : Nat) (l : List α) (hx : a.eval x = .slice A m c) (hl : E.Row w A m c l)
    (N : Nat) (ys : List α) (hN : n0 + m = N) (hys : l0 ++ l = ys) (hroom : N * by_ ≤ 140737488355328) (hlen : N ≤ 1000000000000) (hB : B ≤ w.heap.size)
    (h : ∀ A' c' w', E.Own e B w' A' N c' ys → Below B w w' → w.grownBy w' (Value.slice A0 n0 c0).ownBlock → K (a.put o.dst (.slice A' N c')) w') :
    if Region.wanted o (yielded ops a.tmps) = true then Oper.wp Try.prog o a w K Q else F := by
  subst hys
  rw [if_pos hgd]
  obtain ⟨i0, hi0, hz0, hz1, hz2⟩ := info_parts hinfo
  obtain ⟨A', c', w', hrun, h2, h3, _⟩ := run_app (P := Try.prog) w B t o.type e i0 _ E.K by_ ht hi0 hz0 hz1 hz2 hz E.pos (.slice A0 n0 c0) n0 (E.all l0) hown A m c (E.all l)
    (by rw [all_length, hl.len]) hl.holds hl.nil (E.all_one l) N (E.all (l0 ++ l)) hN (E.all_append l0 l).symm (by unfold maxLen; omega) hroom hB
  unfold Oper.wp execOp
  simp only [ho, resolve, invoke, builtin, Sem.run_bind, Sem.run_pure, Result.andThen_ok, List.map_toArray, List.map_cons, List.map_nil, hs, hx, hrun]
  exact h A' c' w' h2 ((Below.refl B w).grown h3 hB (own_from hown)) h3
/-- An empty row, laid in a block of its own. -/
theorem own_empty (w : World) (T : TypeId) (hT : T = e) (B : Nat) (hB : B ≤ w.heap.size) : E.Own e B (w.alloc (.cells #[] T)) (some ⟨w.heap.size, 0, .none⟩) 0 0 [] := by
  subst hT
  exact own_litK w [] #[] rfl 0 rfl (by rw [Nat.zero_mul]; omega) B hB
theorem own_empty_at (w : World) (g : Nat) (T : TypeId) (hT : T = e) (B : Nat) (hB : B ≤ w.heap.size) (h : g = w.heap.size) : E.Own e B (w.alloc (.cells #[] T)) (some ⟨g, 0, .none⟩) 0 0 [] := by
  subst h
  exact own_empty w T hT B hB
theorem Own.alloc {B : Nat} {w : World} {A : Option Addr} {n c : Nat} {l : List α} (h : E.Own e B w A n c l) (o : Obj) : E.Own e B (w.alloc o) A n c l := h.later ((Below.refl _ _).alloc (Nat.le_refl _) o)
theorem Row.place {w : World} {A A' : Option Addr} {n c c' : Nat} {ss : List α} (h : E.Row w A n c ss) (e1 : A = A') (e2 : c = c') : E.Row w A' n c' ss := by subst e1 e2; exact h
/-- A literal of one thing is kept where another row grows. -/
theorem lit_kept {W W' : World} {gl : Nat} {s : α} {row : Option Nat} (h : E.Row W (some ⟨gl, 0, .none⟩) 1 1 [s]) (hg : W.grownBy W' row) (hne : some gl ≠ row) : E.Row W' (some ⟨gl, 0, .none⟩) 1 1 [s] := by
  refine ⟨fun hx => ?_, rfl, Nat.le_refl _, by omega, fun e => by cases e⟩
  obtain ⟨b, off, e, hc⟩ := h.holds hx
  cases e
  refine ⟨gl, 0, rfl, fun k u hu => ?_⟩
  have h1 := hc k u hu
  rw [World.cell?_of_block (hg.block gl (lt_of_cell h1) hne)]
  exact h1
end Enc
end Go.Proofs.Yteoeghljoaiiiaa
