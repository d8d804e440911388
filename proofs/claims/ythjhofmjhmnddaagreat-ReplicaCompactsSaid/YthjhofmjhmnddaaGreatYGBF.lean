/-
  What the reference's Spans (of layer 3 and of layer 5) and rise answer.
-/
import Derived.Test.YthjhofmjhmnddaaGreatYGBE
namespace Go.Proofs.YthjhofmjhmnddaaGreat
set_option linter.unusedSimpArgs false
set_option linter.unusedVariables false
open Go.RowKit Ru

/-- Two lists alike, item by item. -/
def eqF {α : Type} (f : α → α → Bool) : List α → List α → Bool
  | [], [] => true
  | a :: l, b :: m => f a b && eqF f l m
  | _, _ => false
theorem eqF_len {α : Type} (f : α → α → Bool) : ∀ (l m : List α), l.length ≠ m.length → eqF f l m = false
  | [], [], h => absurd rfl h
  | [], _ :: _, _ => rfl
  | _ :: _, [], _ => rfl
  | a :: l, b :: m, h => by
    rw [eqF, eqF_len f l m (by simpa using h), Bool.and_false]
theorem eqF_bad {α : Type} (f : α → α → Bool) : ∀ (l m : List α) (k : Nat) (h1 : k < l.length) (h2 : k < m.length), f l[k] m[k] = false → eqF f l m = false
  | [], _, _, h1, _, _ => absurd h1 (by simp)
  | _ :: _, [], _, _, h2, _ => absurd h2 (by simp)
  | a :: l, b :: m, 0, _, _, h => by
    rw [eqF, show f a b = false from h]
    rfl
  | a :: l, b :: m, k + 1, h1, h2, h => by
    rw [eqF, eqF_bad f l m k (by simpa using h1) (by simpa using h2) h, Bool.and_false]
theorem eqF_good {α : Type} (f : α → α → Bool) : ∀ (l m : List α), l.length = m.length → (∀ k (h1 : k < l.length) (h2 : k < m.length), f l[k] m[k] = true) → eqF f l m = true
  | [], [], _, _ => rfl
  | [], _ :: _, h, _ => by simp at h
  | _ :: _, [], h, _ => by simp at h
  | a :: l, b :: m, h, g => by
    rw [eqF, show f a b = true from g 0 (by simp) (by simp), Bool.true_and]
    exact eqF_good f l m (by simpa using h) fun k h1 h2 => g (k + 1) (by simpa using h1) (by simpa using h2)
def inF (n : Nat) : Bool := decide (1 ≤ n) && decide (n ≤ 16)
/-- The reference's rise of numbers. -/
def riseF (l : List Nat) : Bool := risesF l && inF l.length
end Go.Proofs.YthjhofmjhmnddaaGreat

/-
  What the reference's Spans and Members of layer 5 answer.
-/
namespace Go.Proofs.YthjhofmjhmnddaaGreat
set_option linter.unusedSimpArgs false
set_option linter.unusedVariables false
open Go.RowKit Ru

def spansR (tr : Nat) (ss : List SpanD) : Bool := spansF tr ss && inF ss.length
def membersR (ms : List MemberD) : Bool := membersF ms && inF ms.length
end Go.Proofs.YthjhofmjhmnddaaGreat

/-
  What the reference's Same of two packets answers.
-/
namespace Go.Proofs.YthjhofmjhmnddaaGreat
set_option linter.unusedSimpArgs false
set_option linter.unusedVariables false
open Go.RowKit Ru

def sameM (a b : MemberD) : Bool := decide (a.id = b.id) && (decide (a.inc = b.inc) && decide (a.state = b.state))
def eqB (a b c d : Nat) : Bool := decide (a = c) && decide (b = d)
def scalF (p q : PackD) : Bool := (p.kind == q.kind) && (((p.trace : Int) == (q.trace : Int)) && (eqB p.bn p.bnode q.bn q.bnode && (eqB p.sn p.snode q.sn q.snode && ((p.v == q.v) && (p.ok == q.ok)))))
def eqN (a b : Nat) : Bool := ((a : Int) == (b : Int))
def sameP (p q : PackD) : Bool := eqF sameF p.spans q.spans && (eqF sameM p.members q.members && (eqF eqN p.ids q.ids && scalF p q))
abbrev packBox (W : World) (g : Nat) (p : PackD) (s : PackS) : Prop := Whole W g 41 (packCells p s)

end Go.Proofs.YthjhofmjhmnddaaGreat
