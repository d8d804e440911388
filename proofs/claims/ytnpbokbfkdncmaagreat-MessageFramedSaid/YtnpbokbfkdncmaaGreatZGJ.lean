/-
  What the reference's Right answers of a packet.
-/
import Derived.Test.YtnpbokbfkdncmaaGreatZRefOnly
import Derived.Deep.RegionHeld3
import Derived.BigQuiet
namespace Go.Proofs.YtnpbokbfkdncmaaGreat
set_option linter.unusedSimpArgs false
set_option linter.unusedVariables false
open Go.RowKit Ru

set_option linter.unusedSimpArgs false
attribute [local go_sem] undef
def toldF (v : Int) : Bool := decide (1 ≤ v) && decide (v ≤ 3)
/-- What the reference asks of each kind, beside that nothing else is there. -/
def restF (p : PackD) : Bool :=
  if p.kind = 1 ∨ p.kind = 2 then spansR p.trace p.spans else
  if p.kind = 3 then membersR p.members else
  if p.kind = 4 then decide (p.bn ≠ 0) else
  if p.kind = 5 then decide (p.bn ≠ 0) && ((decide (p.v = 0) || (toldF p.v && isB p.sn p.snode)) && (if p.ok then decide (p.v ≠ 0) || !isB p.sn p.snode else decide (p.v = 0) && isB p.sn p.snode)) else
  if p.kind = 6 then decide (p.bn ≠ 0) && toldF p.v else
  if p.kind = 7 then decide (p.bn ≠ 0) && (p.ok == !isB p.sn p.snode) else
  if p.kind = 8 then toldF p.v else
  if p.kind = 9 then decide (p.bn ≠ 0) && spansR p.trace p.spans else
  if p.kind = 10 then riseF p.ids else false
def baseF (p : PackD) : Bool := sameP p (onlyF p) && ((p.kind == 3) || ((p.trace : Int) != 0))
def refRightP (p : PackD) : Bool := baseF p && restF p
theorem ballot_zero (a b : Nat) (w : World) : (binOp .eql 24 (.agg #[.int .u64 (a : Nat), .int .u64 (b : Nat)]) (.agg #[.int .u64 0, .int .u64 0])).run Tryz.prog w = .ok (.bool (!isB a b)) w := by
  rw [run_eql_struct, ballot_equalIn]
  rfl
/-- A packet stands, in whatever world has come of w1 by new blocks. -/
abbrev PIn (w1 : World) (g : Nat) (p : PackD) (s : PackS) (W : World) : Prop :=
  Below w1.heap.size w1 W ∧ W.cell? ⟨g, 0, none⟩ = some (.int .i64 p.kind) ∧ W.cell? ⟨g, 1, none⟩ = some (.int .u64 (p.trace : Nat)) ∧ W.cell? ⟨g, 2, none⟩ = some (.int .u64 (p.bn : Nat)) ∧ W.cell? ⟨g, 3, none⟩ = some (.int .u64 (p.bnode : Nat)) ∧ W.cell? ⟨g, 4, none⟩ = some (.int .u64 (p.sn : Nat)) ∧ W.cell? ⟨g, 5, none⟩ = some (.int .u64 (p.snode : Nat)) ∧ W.cell? ⟨g, 6, none⟩ = some (.int .i64 p.v) ∧ W.cell? ⟨g, 7, none⟩ = some (.bool p.ok) ∧ W.cell? ⟨g, 8, none⟩ = some (.slice s.a1 p.spans.length s.c1) ∧ W.cell? ⟨g, 9, none⟩ = some (.slice s.a2 p.members.length s.c2) ∧ W.cell? ⟨g, 10, none⟩ = some (.slice s.a3 p.ids.length s.c3)
theorem pIn_keep {w1 W W' : World} {g : Nat} {p : PackD} {s : PackS} (hg : g < w1.heap.size) (h : PIn w1 g p s W) (hb : Below W.heap.size W W') : PIn w1 g p s W' := by
  obtain ⟨h0, a0, a1, a2, a3, a4, a5, a6, a7, a8, a9, a10⟩ := h
  have k : ∀ o', W'.cell? ⟨g, o', none⟩ = W.cell? ⟨g, o', none⟩ := fun o' => hb.cell (p := ⟨g, o', none⟩) (Nat.lt_of_lt_of_le hg h0.size)
  refine ⟨h0.trans (hb.mono h0.size), ?_, ?_, ?_, ?_, ?_, ?_, ?_, ?_, ?_, ?_, ?_⟩
  all_goals rw [k]; assumption
theorem pIn_of {W : World} {g : Nat} {p : PackD} {s : PackS} (h : packBox W g p s) : PIn W g p s W :=
  ⟨Below.refl _ _, h.cell 0 _ rfl, h.cell 1 _ rfl, h.cell 2 _ rfl, h.cell 3 _ rfl, h.cell 4 _ rfl, h.cell 5 _ rfl, h.cell 6 _ rfl, h.cell 7 _ rfl, h.cell 8 _ rfl, h.cell 9 _ rfl, h.cell 10 _ rfl⟩
end Go.Proofs.YtnpbokbfkdncmaaGreat

/-
  The reference's Right and the program's Right are one.
-/
namespace Go.Proofs.YtnpbokbfkdncmaaGreat
set_option linter.unusedSimpArgs false
set_option linter.unusedVariables false
open Go.RowKit Ru

theorem eqF_self {α : Type} {f : α → α → Bool} (h : ∀ a, f a a = true) : ∀ l : List α, eqF f l l = true
  | [] => rfl
  | a :: l => by rw [eqF, h a, eqF_self h l]; rfl
theorem eqF_cons_nil {α : Type} (f : α → α → Bool) (a : α) (l : List α) : eqF f (a :: l) [] = false := rfl
theorem eqF_nil_nil {α : Type} (f : α → α → Bool) : eqF f [] [] = true := rfl
theorem sameM_self (m : MemberD) : sameM m m = true := by simp [sameM]
theorem eqN_self (n : Nat) : eqN n n = true := by simp [eqN]
theorem membersF_nil : membersF [] = true := rfl
theorem risesF_nil : risesF [] = true := rfl
theorem spansF_nil (t : Nat) : spansF t [] = true := rfl
theorem length_no (n : Nat) : lengthF false n 16 = decide (n = 0) := rfl
theorem length_yes (n : Nat) : lengthF true n 16 = inF n := rfl
theorem decide_nat_int (n : Nat) : ((n : Int) != 0) = decide (n ≠ 0) := by
  by_cases h : n = 0 <;> simp [h]
theorem ref_right1 (k : Int) (hk : k = 1 ∨ k = 2 ∨ k = 9) (tr bn bd sn sd : Nat) (v : Int) (ok : Bool) (l1 : List SpanD) (l2 : List MemberD) (l3 : List Nat) : refRightP ⟨k, tr, bn, bd, sn, sd, v, ok, l1, l2, l3⟩ = rightP ⟨k, tr, bn, bd, sn, sd, v, ok, l1, l2, l3⟩ := by
  have h1 := eqF_self sameF_self l1
  rcases hk with rfl | rfl | rfl
  all_goals
    cases l2 <;> cases l3
    all_goals
      simp only [refRightP, baseF, restF, sameP, scalF, onlyF, rightP, noParts, partsF, numbersF, ballotF, vLeast, vMost, answerF, isB, listsF, length_no, length_yes, membersF_nil, risesF_nil, spansR, eqB, h1, eqF_cons_nil, eqF_nil_nil, decide_nat_int]
      generalize spansF tr l1 = g
  all_goals
    rw [Bool.eq_iff_iff]
    simp [length_no, length_yes, eqF_cons_nil, eqF_nil_nil, eqF_self sameF_self, eqF_self sameM_self, eqF_self eqN_self]
    try grind
theorem ref_right3 (tr bn bd sn sd : Nat) (v : Int) (ok : Bool) (l1 : List SpanD) (l2 : List MemberD) (l3 : List Nat) : refRightP ⟨3, tr, bn, bd, sn, sd, v, ok, l1, l2, l3⟩ = rightP ⟨3, tr, bn, bd, sn, sd, v, ok, l1, l2, l3⟩ := by
  have h1 := eqF_self sameM_self l2
  cases l1 <;> cases l3
  all_goals
    simp only [refRightP, baseF, restF, sameP, scalF, onlyF, rightP, noParts, partsF, numbersF, ballotF, vLeast, vMost, answerF, isB, listsF, length_no, length_yes, spansF_nil, risesF_nil, membersR, eqB, h1, eqF_cons_nil, eqF_nil_nil, decide_nat_int]
    generalize membersF l2 = g
  all_goals
    rw [Bool.eq_iff_iff]
    simp [length_no, length_yes, eqF_cons_nil, eqF_nil_nil, eqF_self sameF_self, eqF_self sameM_self, eqF_self eqN_self]
    try grind
theorem ref_right10 (tr bn bd sn sd : Nat) (v : Int) (ok : Bool) (l1 : List SpanD) (l2 : List MemberD) (l3 : List Nat) : refRightP ⟨10, tr, bn, bd, sn, sd, v, ok, l1, l2, l3⟩ = rightP ⟨10, tr, bn, bd, sn, sd, v, ok, l1, l2, l3⟩ := by
  have h1 := eqF_self eqN_self l3
  cases l1 <;> cases l2
  all_goals
    simp only [refRightP, baseF, restF, sameP, scalF, onlyF, rightP, noParts, partsF, numbersF, ballotF, vLeast, vMost, answerF, isB, listsF, length_no, length_yes, spansF_nil, membersF_nil, riseF, eqB, h1, eqF_cons_nil, eqF_nil_nil, decide_nat_int]
    generalize risesF l3 = g
  all_goals
    rw [Bool.eq_iff_iff]
    simp [length_no, length_yes, eqF_cons_nil, eqF_nil_nil, eqF_self sameF_self, eqF_self sameM_self, eqF_self eqN_self]
    try grind
theorem ref_right4 (k : Int) (hk : k = 4 ∨ k = 5 ∨ k = 6 ∨ k = 7 ∨ k = 8) (tr bn bd sn sd : Nat) (v : Int) (ok : Bool) (l1 : List SpanD) (l2 : List MemberD) (l3 : List Nat) : refRightP ⟨k, tr, bn, bd, sn, sd, v, ok, l1, l2, l3⟩ = rightP ⟨k, tr, bn, bd, sn, sd, v, ok, l1, l2, l3⟩ := by
  rcases hk with rfl | rfl | rfl | rfl | rfl
  all_goals
    cases l1 <;> cases l2 <;> cases l3
    all_goals
      cases ok
      all_goals
        simp only [refRightP, baseF, restF, sameP, scalF, onlyF, rightP, noParts, partsF, numbersF, ballotF, vLeast, vMost, answerF, isB, listsF, length_no, length_yes, spansF_nil, membersF_nil, risesF_nil, toldF, eqB, eqF_cons_nil, eqF_nil_nil, decide_nat_int]
  all_goals
    rw [Bool.eq_iff_iff]
    simp [length_no, length_yes, eqF_cons_nil, eqF_nil_nil, eqF_self sameF_self, eqF_self sameM_self, eqF_self eqN_self]
    try grind
theorem ref_right (p : PackD) : refRightP p = rightP p := by
  obtain ⟨k, tr, bn, bd, sn, sd, v, ok, l1, l2, l3⟩ := p
  by_cases hk : 1 ≤ k ∧ k ≤ 10
  · rcases kind_cases hk with e | e | e | e | e | e | e | e | e | e
    · exact ref_right1 k (.inl e) ..
    · exact ref_right1 k (.inr (.inl e)) ..
    · subst e; exact ref_right3 ..
    · exact ref_right4 k (by omega) ..
    · exact ref_right4 k (by omega) ..
    · exact ref_right4 k (by omega) ..
    · exact ref_right4 k (by omega) ..
    · exact ref_right4 k (by omega) ..
    · exact ref_right1 k (.inr (.inr e)) ..
    · subst e; exact ref_right10 ..
  · have h1 : restF ⟨k, tr, bn, bd, sn, sd, v, ok, l1, l2, l3⟩ = false := by
      unfold restF
      simp only
      rw [if_neg (by omega), if_neg (by omega), if_neg (by omega), if_neg (by omega), if_neg (by omega), if_neg (by omega), if_neg (by omega), if_neg (by omega), if_neg (by omega)]
    unfold refRightP rightP
    rw [h1, Bool.and_false]
    simp only
    rw [parts_none hk]
    rfl
end Go.Proofs.YtnpbokbfkdncmaaGreat
