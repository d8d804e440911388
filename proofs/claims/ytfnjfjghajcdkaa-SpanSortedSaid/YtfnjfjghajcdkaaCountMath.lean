/-
  Plain facts: lists that are alike hold each span as often.
-/
import Derived.Test.YtfnjfjghajcdkaaSortMath
import Derived.Test.YtfnjfjghajcdkaaSpanEq
namespace Go.Proofs.Ytfnjfjghajcdkaa

/-- How often x is among the first k. -/
def cn (x : SpanD) (l : List SpanD) (k : Nat) : Nat := (l.take k).countP fun y => sameF y x
theorem cn_zero (x : SpanD) (l : List SpanD) : cn x l 0 = 0 := rfl
theorem cn_succ (x : SpanD) (l : List SpanD) {k : Nat} (hk : k < l.length) : cn x l (k + 1) = cn x l k + if sameF l[k] x = true then 1 else 0 := by
  unfold cn
  rw [List.take_succ_eq_append_getElem hk, List.countP_append, List.countP_singleton]
theorem cn_le (x : SpanD) (l : List SpanD) (k : Nat) : cn x l k ≤ k := by
  unfold cn
  exact Nat.le_trans (List.countP_le_length) (by rw [List.length_take]; omega)
theorem cn_alike {l t : List SpanD} (h : Alike l t) (x : SpanD) {n : Nat} (h1 : l.length = n) (h2 : t.length = n) : cn x l n = cn x t n := by
  have e : ∀ m : List SpanD, m.countP (fun y => sameF y x) = (m.filter (key x.start x.id)).countP (fun y => sameF y x) := by
    intro m
    rw [List.countP_filter]
    refine List.countP_congr fun y _ => ?_
    constructor
    · intro hy
      have := sameF_iff.1 hy
      subst this
      rw [hy]
      simp [key]
    · intro hy
      simp at hy
      exact hy.1
  unfold cn
  rw [List.take_of_length_le (by omega), List.take_of_length_le (by omega), e l, e t, h]
end Go.Proofs.Ytfnjfjghajcdkaa
