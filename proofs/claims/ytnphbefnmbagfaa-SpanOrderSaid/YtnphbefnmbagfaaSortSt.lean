/-
  A row of spans in a block of the call's own that is rewritten in place.
-/
import Derived.Test.YtnphbefnmbagfaaSpanApp
import Derived.Test.YtnphbefnmbagfaaSpLess
namespace Go.Proofs.Ytnphbefnmbagfaa
open Go.RowKit Ru

/-- A span stored at a place. -/
abbrev setAt (w : World) (g o : Nat) (s : SpanD) : World :=
  (((((((w.setCell ⟨g, o, none⟩ (.int .u64 (s.trace : Nat))).setCell ⟨g, o + 1, none⟩ (.int .u64 (s.id : Nat))).setCell ⟨g, o + 2, none⟩ (.int .u64 (s.parent : Nat))).setCell ⟨g, o + 3, none⟩ (.int .u64 (s.start : Nat))).setCell ⟨g, o + 4, none⟩ (.int .u64 (s.len : Nat))).setCell ⟨g, o + 5, none⟩ (.string s.service)).setCell ⟨g, o + 6, none⟩ (.string s.name)).setCell ⟨g, o + 7, none⟩ (.bool s.fail)

theorem cell_set_ne {w : World} {g o o' : Nat} (v : Value) (h : o' ≠ o) : (w.setCell ⟨g, o, none⟩ v).cell? ⟨g, o', none⟩ = w.cell? ⟨g, o', none⟩ :=
  World.cell?_setCell_other w ⟨g, o, none⟩ ⟨g, o', none⟩ v (fun e => by injection e with _ e; exact h e.symm)
theorem cell_set_eq {w : World} {g o : Nat} {u : Value} (v : Value) (h : w.cell? ⟨g, o, none⟩ = some u) : (w.setCell ⟨g, o, none⟩ v).cell? ⟨g, o, none⟩ = some v :=
  World.cell?_setCell_same w ⟨g, o, none⟩ v h
/-- Cells outside the eight are as they were. -/
theorem setAt_out (w : World) (g o : Nat) (s : SpanD) (o' : Nat) (h : o' < o ∨ o + 8 ≤ o') : (setAt w g o s).cell? ⟨g, o', none⟩ = w.cell? ⟨g, o', none⟩ := by
  unfold setAt
  rw [cell_set_ne _ (by omega), cell_set_ne _ (by omega), cell_set_ne _ (by omega), cell_set_ne _ (by omega), cell_set_ne _ (by omega), cell_set_ne _ (by omega), cell_set_ne _ (by omega), cell_set_ne _ (by omega)]
theorem setAt_in {w : World} {g o : Nat} {s0 : SpanD} (s : SpanD) (h : SpanAt w g o s0) : SpanAt (setAt w g o s) g o s := by
  obtain ⟨h0, h1, h2, h3, h4, h5, h6, h7⟩ := h
  unfold setAt
  refine ⟨?_, ?_, ?_, ?_, ?_, ?_, ?_, ?_⟩
  · repeat rw [cell_set_ne _ (by omega)]
    exact cell_set_eq _ h0
  · iterate 6 rw [cell_set_ne _ (by omega)]
    exact cell_set_eq _ (by rw [cell_set_ne _ (by omega)]; exact h1)
  · iterate 5 rw [cell_set_ne _ (by omega)]
    exact cell_set_eq _ (by iterate 2 rw [cell_set_ne _ (by omega)]
                            exact h2)
  · iterate 4 rw [cell_set_ne _ (by omega)]
    exact cell_set_eq _ (by iterate 3 rw [cell_set_ne _ (by omega)]
                            exact h3)
  · iterate 3 rw [cell_set_ne _ (by omega)]
    exact cell_set_eq _ (by iterate 4 rw [cell_set_ne _ (by omega)]
                            exact h4)
  · iterate 2 rw [cell_set_ne _ (by omega)]
    exact cell_set_eq _ (by iterate 5 rw [cell_set_ne _ (by omega)]
                            exact h5)
  · rw [cell_set_ne _ (by omega)]
    exact cell_set_eq _ (by iterate 6 rw [cell_set_ne _ (by omega)]
                            exact h6)
  · exact cell_set_eq _ (by iterate 7 rw [cell_set_ne _ (by omega)]
                            exact h7)

/-- The row at block g, place off, reads as ss and may be written; what was there before is as it was. -/
structure St (w0 : World) (g off : Nat) (ss : List SpanD) (W : World) : Prop where
  bel : Below w0.heap.size w0 W
  at_ : ∀ k (h : k < ss.length), SpanAt W g (off + k * 8) ss[k]
  free : ∀ o, W.frozen? ⟨g, o, none⟩ = false
  old : w0.heap.size ≤ g
  lt : g < W.heap.size
theorem frozen_set (w : World) (p q : Addr) (v : Value) : (w.setCell p v).frozen? q = w.frozen? q := World.frozen?_setCell w p q v
theorem St.put {w0 : World} {g off : Nat} {ss : List SpanD} {W : World} (h : St w0 g off ss W) {k : Nat} (hk : k < ss.length) (s : SpanD) : St w0 g off (ss.set k s) (setAt W g (off + k * 8) s) := by
  refine ⟨?_, ?_, ?_, h.old, ?_⟩
  · have hg := h.old
    exact (((((((h.bel.setCell (p := ⟨g, off + k * 8, none⟩) hg _).setCell (p := ⟨g, off + k * 8 + 1, none⟩) hg _).setCell (p := ⟨g, off + k * 8 + 2, none⟩) hg _).setCell (p := ⟨g, off + k * 8 + 3, none⟩) hg _).setCell (p := ⟨g, off + k * 8 + 4, none⟩) hg _).setCell (p := ⟨g, off + k * 8 + 5, none⟩) hg _).setCell (p := ⟨g, off + k * 8 + 6, none⟩) hg _).setCell (p := ⟨g, off + k * 8 + 7, none⟩) hg _
  · intro j hj
    rw [List.length_set] at hj
    by_cases e : k = j
    · subst e
      rw [List.getElem_set_self]
      exact setAt_in s (h.at_ k hk)
    · rw [List.getElem_set_ne e]
      obtain ⟨h0, h1, h2, h3, h4, h5, h6, h7⟩ := h.at_ j hj
      refine ⟨?_, ?_, ?_, ?_, ?_, ?_, ?_, ?_⟩
      all_goals rw [setAt_out _ _ _ _ _ (by omega)]
      all_goals assumption
  · intro o
    unfold setAt
    iterate 8 rw [frozen_set]
    exact h.free o
  · unfold setAt
    simp only [World.size_setCell]
    exact h.lt
theorem St.keep {w0 : World} {g off : Nat} {ss : List SpanD} {W W' : World} (h : St w0 g off ss W) (hb : Below W.heap.size W W') : St w0 g off ss W' :=
  ⟨h.bel.trans (hb.mono h.bel.size), fun k hk => (h.at_ k hk).keep fun p hp => hb.cell hp, fun o => by rw [hb.frozen (p := ⟨g, o, none⟩) h.lt]; exact h.free o, h.old, Nat.lt_of_lt_of_le h.lt hb.size⟩
theorem St.drew {w0 : World} {g off : Nat} {ss : List SpanD} {W : World} (h : St w0 g off ss W) : St w0 g off ss W.drew := h.keep (Below.refl _ _).drew
theorem St.drewN {w0 : World} {g off : Nat} {ss : List SpanD} {W : World} (h : St w0 g off ss W) (q : Nat) : St w0 g off ss (W.drewN q) := h.keep (below_drewN (Below.refl _ _) q)
theorem St.to {w0 : World} {g off : Nat} {ss ss' : List SpanD} {W : World} (h : St w0 g off ss W) (e : ss = ss') : St w0 g off ss' W := by subst e; exact h
/-- Two places exchanged. -/
def swp (ss : List SpanD) (i j : Nat) : List SpanD := (ss.set i (ss.getD j SpanD.zero)).set j (ss.getD i SpanD.zero)
theorem swp_length (ss : List SpanD) (i j : Nat) : (swp ss i j).length = ss.length := by unfold swp; rw [List.length_set, List.length_set]
theorem getD_at (ss : List SpanD) {k : Nat} (h : k < ss.length) : ss.getD k SpanD.zero = ss[k] := by rw [List.getD_eq_getElem?_getD, List.getElem?_eq_getElem h]; rfl
theorem St.swap {w0 : World} {g off : Nat} {ss : List SpanD} {W : World} (h : St w0 g off ss W) {i j : Nat} (hi : i < ss.length) (hj : j < ss.length) :
    St w0 g off (swp ss i j) (setAt (setAt W g (off + i * 8) ss[j]) g (off + j * 8) ss[i]) := by
  have h1 := (h.put hi ss[j]).put (k := j) (by rw [List.length_set]; exact hj) ss[i]
  unfold swp
  rw [getD_at _ hi, getD_at _ hj]
  exact h1
end Go.Proofs.Ytnphbefnmbagfaa
