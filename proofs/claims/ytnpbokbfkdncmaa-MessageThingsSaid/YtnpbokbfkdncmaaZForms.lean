/-
  The form of a right packet, by kinds; what there is at least.
-/
import Derived.Test.YtnpbokbfkdncmaaZGK
import Derived.Test.YtnpbokbfkdncmaaZGL
namespace Go.Proofs.Ytnpbokbfkdncmaa
set_option linter.unusedSimpArgs false
set_option linter.unusedVariables false
open Go.RowKit Ru
theorem listsR {p : PackD} (h : rightP p = true) : ((partsF p.kind).spans = true → p.spans ≠ []) ∧ ((partsF p.kind).members = true → p.members ≠ []) ∧ ((partsF p.kind).ids = true → p.ids ≠ []) := by
  unfold rightP at h
  simp only [Bool.and_eq_true] at h
  obtain ⟨_, _, _, h3⟩ := h
  unfold listsF at h3
  simp only [Bool.and_eq_true] at h3
  obtain ⟨s1, _, s3, _, s5, _⟩ := h3
  refine ⟨fun e => ?_, fun e => ?_, fun e => ?_⟩
  · rw [e] at s1; intro h; rw [h] at s1; cases s1
  · rw [e] at s3; intro h; rw [h] at s3; cases s3
  · rw [e] at s5; intro h; rw [h] at s5; cases s5
theorem verdictR {p : PackD} (h : rightP p = true) : vLeast (partsF p.kind) ≤ p.v := by
  unfold rightP at h
  simp only [Bool.and_eq_true] at h
  obtain ⟨_, h1, _, _⟩ := h
  unfold numbersF at h1
  simp only [Bool.and_eq_true, decide_eq_true_eq] at h1
  exact h1.2.2.1
theorem form1 {tr bn bd sn sd : Nat} {v : Int} {ok : Bool} {l1 : List SpanD} {l2 : List MemberD} {l3 : List Nat} (h : rightP ⟨1, tr, bn, bd, sn, sd, v, ok, l1, l2, l3⟩ = true) : bn = 0 ∧ bd = 0 ∧ ok = false ∧ sn = 0 ∧ sd = 0 ∧ v = 0 ∧ l2 = [] ∧ l3 = [] ∧ l1 ≠ [] := by
  have rf := right_facts h
  exact ⟨(rf.ballot (by show (partsF 1).ballot = false; rw [parts_1])).1, (rf.ballot (by show (partsF 1).ballot = false; rw [parts_1])).2, (rf.answer (by show (partsF 1).answer = false; rw [parts_1])).1, (rf.answer (by show (partsF 1).answer = false; rw [parts_1])).2.1, (rf.answer (by show (partsF 1).answer = false; rw [parts_1])).2.2, (rf.verdict (by show (partsF 1).verdict = false; rw [parts_1])), (rf.members (by show (partsF 1).members = false; rw [parts_1])), (rf.ids (by show (partsF 1).ids = false; rw [parts_1])), (listsR h).1 (by show (partsF 1).spans = true; rw [parts_1])⟩
theorem form2 {tr bn bd sn sd : Nat} {v : Int} {ok : Bool} {l1 : List SpanD} {l2 : List MemberD} {l3 : List Nat} (h : rightP ⟨2, tr, bn, bd, sn, sd, v, ok, l1, l2, l3⟩ = true) : bn = 0 ∧ bd = 0 ∧ ok = false ∧ sn = 0 ∧ sd = 0 ∧ v = 0 ∧ l2 = [] ∧ l3 = [] ∧ l1 ≠ [] := by
  have rf := right_facts h
  exact ⟨(rf.ballot (by show (partsF 2).ballot = false; rw [parts_2])).1, (rf.ballot (by show (partsF 2).ballot = false; rw [parts_2])).2, (rf.answer (by show (partsF 2).answer = false; rw [parts_2])).1, (rf.answer (by show (partsF 2).answer = false; rw [parts_2])).2.1, (rf.answer (by show (partsF 2).answer = false; rw [parts_2])).2.2, (rf.verdict (by show (partsF 2).verdict = false; rw [parts_2])), (rf.members (by show (partsF 2).members = false; rw [parts_2])), (rf.ids (by show (partsF 2).ids = false; rw [parts_2])), (listsR h).1 (by show (partsF 2).spans = true; rw [parts_2])⟩
theorem form3 {tr bn bd sn sd : Nat} {v : Int} {ok : Bool} {l1 : List SpanD} {l2 : List MemberD} {l3 : List Nat} (h : rightP ⟨3, tr, bn, bd, sn, sd, v, ok, l1, l2, l3⟩ = true) : tr = 0 ∧ bn = 0 ∧ bd = 0 ∧ ok = false ∧ sn = 0 ∧ sd = 0 ∧ v = 0 ∧ l1 = [] ∧ l3 = [] ∧ l2 ≠ [] := by
  have rf := right_facts h
  exact ⟨(rf.trace (by show (partsF 3).trace = false; rw [parts_3])), (rf.ballot (by show (partsF 3).ballot = false; rw [parts_3])).1, (rf.ballot (by show (partsF 3).ballot = false; rw [parts_3])).2, (rf.answer (by show (partsF 3).answer = false; rw [parts_3])).1, (rf.answer (by show (partsF 3).answer = false; rw [parts_3])).2.1, (rf.answer (by show (partsF 3).answer = false; rw [parts_3])).2.2, (rf.verdict (by show (partsF 3).verdict = false; rw [parts_3])), (rf.spans (by show (partsF 3).spans = false; rw [parts_3])), (rf.ids (by show (partsF 3).ids = false; rw [parts_3])), (listsR h).2.1 (by show (partsF 3).members = true; rw [parts_3])⟩
theorem form4 {tr bn bd sn sd : Nat} {v : Int} {ok : Bool} {l1 : List SpanD} {l2 : List MemberD} {l3 : List Nat} (h : rightP ⟨4, tr, bn, bd, sn, sd, v, ok, l1, l2, l3⟩ = true) : ok = false ∧ sn = 0 ∧ sd = 0 ∧ v = 0 ∧ l1 = [] ∧ l2 = [] ∧ l3 = [] := by
  have rf := right_facts h
  exact ⟨(rf.answer (by show (partsF 4).answer = false; rw [parts_4])).1, (rf.answer (by show (partsF 4).answer = false; rw [parts_4])).2.1, (rf.answer (by show (partsF 4).answer = false; rw [parts_4])).2.2, (rf.verdict (by show (partsF 4).verdict = false; rw [parts_4])), (rf.spans (by show (partsF 4).spans = false; rw [parts_4])), (rf.members (by show (partsF 4).members = false; rw [parts_4])), (rf.ids (by show (partsF 4).ids = false; rw [parts_4]))⟩
theorem form5 {tr bn bd sn sd : Nat} {v : Int} {ok : Bool} {l1 : List SpanD} {l2 : List MemberD} {l3 : List Nat} (h : rightP ⟨5, tr, bn, bd, sn, sd, v, ok, l1, l2, l3⟩ = true) : l1 = [] ∧ l2 = [] ∧ l3 = [] := by
  have rf := right_facts h
  exact ⟨(rf.spans (by show (partsF 5).spans = false; rw [parts_5])), (rf.members (by show (partsF 5).members = false; rw [parts_5])), (rf.ids (by show (partsF 5).ids = false; rw [parts_5]))⟩
theorem form6 {tr bn bd sn sd : Nat} {v : Int} {ok : Bool} {l1 : List SpanD} {l2 : List MemberD} {l3 : List Nat} (h : rightP ⟨6, tr, bn, bd, sn, sd, v, ok, l1, l2, l3⟩ = true) : ok = false ∧ sn = 0 ∧ sd = 0 ∧ l1 = [] ∧ l2 = [] ∧ l3 = [] ∧ v ≠ 0 := by
  have rf := right_facts h
  exact ⟨(rf.answer (by show (partsF 6).answer = false; rw [parts_6])).1, (rf.answer (by show (partsF 6).answer = false; rw [parts_6])).2.1, (rf.answer (by show (partsF 6).answer = false; rw [parts_6])).2.2, (rf.spans (by show (partsF 6).spans = false; rw [parts_6])), (rf.members (by show (partsF 6).members = false; rw [parts_6])), (rf.ids (by show (partsF 6).ids = false; rw [parts_6])), (by have := verdictR h; simp only at this; rw [parts_6] at this; have e : vLeast ⟨true, true, false, true, false, false, false⟩ = 1 := (by kernel_rfl); rw [e] at this; omega)⟩
theorem form7 {tr bn bd sn sd : Nat} {v : Int} {ok : Bool} {l1 : List SpanD} {l2 : List MemberD} {l3 : List Nat} (h : rightP ⟨7, tr, bn, bd, sn, sd, v, ok, l1, l2, l3⟩ = true) : v = 0 ∧ l1 = [] ∧ l2 = [] ∧ l3 = [] := by
  have rf := right_facts h
  exact ⟨(rf.verdict (by show (partsF 7).verdict = false; rw [parts_7])), (rf.spans (by show (partsF 7).spans = false; rw [parts_7])), (rf.members (by show (partsF 7).members = false; rw [parts_7])), (rf.ids (by show (partsF 7).ids = false; rw [parts_7]))⟩
theorem form8 {tr bn bd sn sd : Nat} {v : Int} {ok : Bool} {l1 : List SpanD} {l2 : List MemberD} {l3 : List Nat} (h : rightP ⟨8, tr, bn, bd, sn, sd, v, ok, l1, l2, l3⟩ = true) : bn = 0 ∧ bd = 0 ∧ ok = false ∧ sn = 0 ∧ sd = 0 ∧ l1 = [] ∧ l2 = [] ∧ l3 = [] := by
  have rf := right_facts h
  exact ⟨(rf.ballot (by show (partsF 8).ballot = false; rw [parts_8])).1, (rf.ballot (by show (partsF 8).ballot = false; rw [parts_8])).2, (rf.answer (by show (partsF 8).answer = false; rw [parts_8])).1, (rf.answer (by show (partsF 8).answer = false; rw [parts_8])).2.1, (rf.answer (by show (partsF 8).answer = false; rw [parts_8])).2.2, (rf.spans (by show (partsF 8).spans = false; rw [parts_8])), (rf.members (by show (partsF 8).members = false; rw [parts_8])), (rf.ids (by show (partsF 8).ids = false; rw [parts_8]))⟩
theorem form9 {tr bn bd sn sd : Nat} {v : Int} {ok : Bool} {l1 : List SpanD} {l2 : List MemberD} {l3 : List Nat} (h : rightP ⟨9, tr, bn, bd, sn, sd, v, ok, l1, l2, l3⟩ = true) : ok = false ∧ sn = 0 ∧ sd = 0 ∧ v = 0 ∧ l2 = [] ∧ l3 = [] ∧ l1 ≠ [] := by
  have rf := right_facts h
  exact ⟨(rf.answer (by show (partsF 9).answer = false; rw [parts_9])).1, (rf.answer (by show (partsF 9).answer = false; rw [parts_9])).2.1, (rf.answer (by show (partsF 9).answer = false; rw [parts_9])).2.2, (rf.verdict (by show (partsF 9).verdict = false; rw [parts_9])), (rf.members (by show (partsF 9).members = false; rw [parts_9])), (rf.ids (by show (partsF 9).ids = false; rw [parts_9])), (listsR h).1 (by show (partsF 9).spans = true; rw [parts_9])⟩
theorem form10 {tr bn bd sn sd : Nat} {v : Int} {ok : Bool} {l1 : List SpanD} {l2 : List MemberD} {l3 : List Nat} (h : rightP ⟨10, tr, bn, bd, sn, sd, v, ok, l1, l2, l3⟩ = true) : bn = 0 ∧ bd = 0 ∧ ok = false ∧ sn = 0 ∧ sd = 0 ∧ v = 0 ∧ l1 = [] ∧ l2 = [] ∧ l3 ≠ [] := by
  have rf := right_facts h
  exact ⟨(rf.ballot (by show (partsF 10).ballot = false; rw [parts_10])).1, (rf.ballot (by show (partsF 10).ballot = false; rw [parts_10])).2, (rf.answer (by show (partsF 10).answer = false; rw [parts_10])).1, (rf.answer (by show (partsF 10).answer = false; rw [parts_10])).2.1, (rf.answer (by show (partsF 10).answer = false; rw [parts_10])).2.2, (rf.verdict (by show (partsF 10).verdict = false; rw [parts_10])), (rf.spans (by show (partsF 10).spans = false; rw [parts_10])), (rf.members (by show (partsF 10).members = false; rw [parts_10])), (listsR h).2.2 (by show (partsF 10).ids = true; rw [parts_10])⟩
end Go.Proofs.Ytnpbokbfkdncmaa
