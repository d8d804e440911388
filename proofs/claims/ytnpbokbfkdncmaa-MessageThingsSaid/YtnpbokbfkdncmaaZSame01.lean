/-
  The laws' comparison of two slices of bytes, any; packets that the reference calls the same are one.
-/
import Derived.Test.YtnpbokbfkdncmaaZGA
import Derived.Test.YtnpbokbfkdncmaaZGJ
import Derived.Deep.QuietTactic
import Derived.BigQuiet
namespace Go.Proofs.Ytnpbokbfkdncmaa
set_option linter.unusedSimpArgs false
set_option linter.unusedVariables false
open Go.RowKit Ru

theorem eqF_eq {α : Type} {f : α → α → Bool} (h : ∀ a b, f a b = true → a = b) : ∀ (l m : List α), eqF f l m = true → l = m
  | [], [], _ => rfl
  | [], _ :: _, e => by cases e
  | _ :: _, [], e => by cases e
  | a :: l, b :: m, e => by
    rw [eqF, Bool.and_eq_true] at e
    rw [h a b e.1, eqF_eq h l m e.2]
theorem sameP_eq {p q : PackD} (h : sameP p q = true) : p = q := by
  unfold sameP scalF at h
  simp only [Bool.and_eq_true] at h
  obtain ⟨h1, h2, h3, h4, h5, h6, h7, h8, h9⟩ := h
  have e1 := eqF_eq (fun a b => sameF_iff.1) _ _ h1
  have e2 := eqF_eq (f := sameM) (fun a b e => by
    obtain ⟨a1, a2, a3⟩ := a
    obtain ⟨b1, b2, b3⟩ := b
    simp [sameM] at e
    obtain ⟨rfl, rfl, rfl⟩ := e
    rfl) _ _ h2
  have e3 := eqF_eq (f := eqN) (fun a b e => by simp [eqN] at e; omega) _ _ h3
  obtain ⟨k, tr, bn, bd, sn, sd, v, ok, l1, l2, l3⟩ := p
  obtain ⟨k', tr', bn', bd', sn', sd', v', ok', l1', l2', l3'⟩ := q
  simp [eqB] at h4 h5 h6 h7 h8 h9 e1 e2 e3
  obtain ⟨rfl, rfl⟩ := h6
  obtain ⟨rfl, rfl⟩ := h7
  have h5' : tr = tr' := by omega
  subst h4 h5' h8 h9 e1 e2 e3
  rfl
theorem sameP_self (p : PackD) : sameP p p = true := by
  unfold sameP scalF
  rw [eqF_self sameF_self, eqF_self sameM_self, eqF_self eqN_self]
  simp [eqB]
theorem sameP_ne {p q : PackD} (h : p ≠ q) : sameP p q = false := by
  cases hs : sameP p q
  · rfl
  · exact absurd (sameP_eq hs) h
end Go.Proofs.Ytnpbokbfkdncmaa
