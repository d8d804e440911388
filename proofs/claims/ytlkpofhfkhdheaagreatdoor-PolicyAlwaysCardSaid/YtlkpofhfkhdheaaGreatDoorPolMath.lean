/-
  Plain facts on rules. No program is named here.
-/
import Derived.Test.YtlkpofhfkhdheaaGreatDoorSpanMath
import Derived.Test.YtlkpofhfkhdheaaGreatDoorBytes
import Derived.Lib.Bytealg
import Derived.Lib.IndexLaws
namespace Go.Proofs.YtlkpofhfkhdheaaGreatDoor
open Ru Go.RowKit

/-- A rule: whether it keeps, what it asks, its number, its text. -/
structure RuleD where
  keep : Bool
  what : ByteArray
  num : Nat
  text : ByteArray
structure RuleD.Wf (r : RuleD) : Prop where
  num : r.num < 18446744073709551616
  what : r.what.size ≤ 9223372036854775807
  text : r.text.size ≤ 9223372036854775807
abbrev ruleVal (r : RuleD) : Value := .agg #[.bool r.keep, .string r.what, .int .u64 (r.num : Nat), .string r.text]
def ruleCells (r : RuleD) : Array Value := #[.bool r.keep, .string r.what, .int .u64 (r.num : Nat), .string r.text]

/-- What a rule asks. -/
inductive What
  | always | fail | root | slow | many | hash | service | name | other
  deriving DecidableEq
def whatF (s : ByteArray) : What :=
  if s.toList == [97, 108, 119, 97, 121, 115] then .always else
  if s.toList == [102, 97, 105, 108] then .fail else
  if s.toList == [114, 111, 111, 116] then .root else
  if s.toList == [115, 108, 111, 119] then .slow else
  if s.toList == [109, 97, 110, 121] then .many else
  if s.toList == [104, 97, 115, 104] then .hash else
  if s.toList == [115, 101, 114, 118, 105, 99, 101] then .service else
  if s.toList == [110, 97, 109, 101] then .name else .other
theorem what_always {s : ByteArray} (h : whatF s = .always) : (s.toList == [97, 108, 119, 97, 121, 115]) = true ∧ (s.toList == [102, 97, 105, 108]) = false ∧ (s.toList == [114, 111, 111, 116]) = false ∧ (s.toList == [115, 108, 111, 119]) = false ∧ (s.toList == [109, 97, 110, 121]) = false ∧ (s.toList == [104, 97, 115, 104]) = false ∧ (s.toList == [115, 101, 114, 118, 105, 99, 101]) = false ∧ (s.toList == [110, 97, 109, 101]) = false := by
  have e : s.toList = [97, 108, 119, 97, 121, 115] := by
    unfold whatF at h
    repeat' split at h
    all_goals first | (exact beq_iff_eq.1 (by assumption)) | cases h
  rw [e]
  exact ⟨rfl, rfl, rfl, rfl, rfl, rfl, rfl, rfl⟩
theorem what_fail {s : ByteArray} (h : whatF s = .fail) : (s.toList == [97, 108, 119, 97, 121, 115]) = false ∧ (s.toList == [102, 97, 105, 108]) = true ∧ (s.toList == [114, 111, 111, 116]) = false ∧ (s.toList == [115, 108, 111, 119]) = false ∧ (s.toList == [109, 97, 110, 121]) = false ∧ (s.toList == [104, 97, 115, 104]) = false ∧ (s.toList == [115, 101, 114, 118, 105, 99, 101]) = false ∧ (s.toList == [110, 97, 109, 101]) = false := by
  have e : s.toList = [102, 97, 105, 108] := by
    unfold whatF at h
    repeat' split at h
    all_goals first | (exact beq_iff_eq.1 (by assumption)) | cases h
  rw [e]
  exact ⟨rfl, rfl, rfl, rfl, rfl, rfl, rfl, rfl⟩
theorem what_root {s : ByteArray} (h : whatF s = .root) : (s.toList == [97, 108, 119, 97, 121, 115]) = false ∧ (s.toList == [102, 97, 105, 108]) = false ∧ (s.toList == [114, 111, 111, 116]) = true ∧ (s.toList == [115, 108, 111, 119]) = false ∧ (s.toList == [109, 97, 110, 121]) = false ∧ (s.toList == [104, 97, 115, 104]) = false ∧ (s.toList == [115, 101, 114, 118, 105, 99, 101]) = false ∧ (s.toList == [110, 97, 109, 101]) = false := by
  have e : s.toList = [114, 111, 111, 116] := by
    unfold whatF at h
    repeat' split at h
    all_goals first | (exact beq_iff_eq.1 (by assumption)) | cases h
  rw [e]
  exact ⟨rfl, rfl, rfl, rfl, rfl, rfl, rfl, rfl⟩
theorem what_slow {s : ByteArray} (h : whatF s = .slow) : (s.toList == [97, 108, 119, 97, 121, 115]) = false ∧ (s.toList == [102, 97, 105, 108]) = false ∧ (s.toList == [114, 111, 111, 116]) = false ∧ (s.toList == [115, 108, 111, 119]) = true ∧ (s.toList == [109, 97, 110, 121]) = false ∧ (s.toList == [104, 97, 115, 104]) = false ∧ (s.toList == [115, 101, 114, 118, 105, 99, 101]) = false ∧ (s.toList == [110, 97, 109, 101]) = false := by
  have e : s.toList = [115, 108, 111, 119] := by
    unfold whatF at h
    repeat' split at h
    all_goals first | (exact beq_iff_eq.1 (by assumption)) | cases h
  rw [e]
  exact ⟨rfl, rfl, rfl, rfl, rfl, rfl, rfl, rfl⟩
theorem what_many {s : ByteArray} (h : whatF s = .many) : (s.toList == [97, 108, 119, 97, 121, 115]) = false ∧ (s.toList == [102, 97, 105, 108]) = false ∧ (s.toList == [114, 111, 111, 116]) = false ∧ (s.toList == [115, 108, 111, 119]) = false ∧ (s.toList == [109, 97, 110, 121]) = true ∧ (s.toList == [104, 97, 115, 104]) = false ∧ (s.toList == [115, 101, 114, 118, 105, 99, 101]) = false ∧ (s.toList == [110, 97, 109, 101]) = false := by
  have e : s.toList = [109, 97, 110, 121] := by
    unfold whatF at h
    repeat' split at h
    all_goals first | (exact beq_iff_eq.1 (by assumption)) | cases h
  rw [e]
  exact ⟨rfl, rfl, rfl, rfl, rfl, rfl, rfl, rfl⟩
theorem what_hash {s : ByteArray} (h : whatF s = .hash) : (s.toList == [97, 108, 119, 97, 121, 115]) = false ∧ (s.toList == [102, 97, 105, 108]) = false ∧ (s.toList == [114, 111, 111, 116]) = false ∧ (s.toList == [115, 108, 111, 119]) = false ∧ (s.toList == [109, 97, 110, 121]) = false ∧ (s.toList == [104, 97, 115, 104]) = true ∧ (s.toList == [115, 101, 114, 118, 105, 99, 101]) = false ∧ (s.toList == [110, 97, 109, 101]) = false := by
  have e : s.toList = [104, 97, 115, 104] := by
    unfold whatF at h
    repeat' split at h
    all_goals first | (exact beq_iff_eq.1 (by assumption)) | cases h
  rw [e]
  exact ⟨rfl, rfl, rfl, rfl, rfl, rfl, rfl, rfl⟩
theorem what_service {s : ByteArray} (h : whatF s = .service) : (s.toList == [97, 108, 119, 97, 121, 115]) = false ∧ (s.toList == [102, 97, 105, 108]) = false ∧ (s.toList == [114, 111, 111, 116]) = false ∧ (s.toList == [115, 108, 111, 119]) = false ∧ (s.toList == [109, 97, 110, 121]) = false ∧ (s.toList == [104, 97, 115, 104]) = false ∧ (s.toList == [115, 101, 114, 118, 105, 99, 101]) = true ∧ (s.toList == [110, 97, 109, 101]) = false := by
  have e : s.toList = [115, 101, 114, 118, 105, 99, 101] := by
    unfold whatF at h
    repeat' split at h
    all_goals first | (exact beq_iff_eq.1 (by assumption)) | cases h
  rw [e]
  exact ⟨rfl, rfl, rfl, rfl, rfl, rfl, rfl, rfl⟩
theorem what_name {s : ByteArray} (h : whatF s = .name) : (s.toList == [97, 108, 119, 97, 121, 115]) = false ∧ (s.toList == [102, 97, 105, 108]) = false ∧ (s.toList == [114, 111, 111, 116]) = false ∧ (s.toList == [115, 108, 111, 119]) = false ∧ (s.toList == [109, 97, 110, 121]) = false ∧ (s.toList == [104, 97, 115, 104]) = false ∧ (s.toList == [115, 101, 114, 118, 105, 99, 101]) = false ∧ (s.toList == [110, 97, 109, 101]) = true := by
  have e : s.toList = [110, 97, 109, 101] := by
    unfold whatF at h
    repeat' split at h
    all_goals first | (exact beq_iff_eq.1 (by assumption)) | cases h
  rw [e]
  exact ⟨rfl, rfl, rfl, rfl, rfl, rfl, rfl, rfl⟩
theorem what_other {s : ByteArray} (h : whatF s = .other) : (s.toList == [97, 108, 119, 97, 121, 115]) = false ∧ (s.toList == [102, 97, 105, 108]) = false ∧ (s.toList == [114, 111, 111, 116]) = false ∧ (s.toList == [115, 108, 111, 119]) = false ∧ (s.toList == [109, 97, 110, 121]) = false ∧ (s.toList == [104, 97, 115, 104]) = false ∧ (s.toList == [115, 101, 114, 118, 105, 99, 101]) = false ∧ (s.toList == [110, 97, 109, 101]) = false := by
  unfold whatF at h
  repeat' split at h
  all_goals first | (simp_all; done) | cases h
def formN : What → Nat
  | .always | .fail | .root => 1
  | .slow | .many | .hash => 2
  | .service | .name => 3
  | .other => 0
def loN : What → Nat
  | .many => 1
  | _ => 0
def hiN : What → Nat
  | .slow => 1099511627776
  | .many => 16
  | .hash => 1000
  | _ => 0
/-- A text without a blank. -/
def blankF (s : ByteArray) : Bool := decide ((0 : Int) ≤ Lib.indexByte s.data.toList 32)
/-- A rule that is one. -/
def textOk (n : Nat) (s : ByteArray) : Bool := if n = 3 then nameOk s && !blankF s else if n = 0 then false else s.toList.isEmpty
def ruleOk (r : RuleD) : Bool := decide (loN (whatF r.what) ≤ r.num) && (decide (r.num ≤ hiN (whatF r.what)) && textOk (formN (whatF r.what)) r.text)
theorem rule_low {r : RuleD} (h : r.num < loN (whatF r.what)) : ruleOk r = false := by unfold ruleOk; rw [decide_eq_false (by omega)]; rfl
theorem rule_high {r : RuleD} (h : hiN (whatF r.what) < r.num) : ruleOk r = false := by unfold ruleOk; rw [decide_eq_false (show ¬ r.num ≤ hiN (whatF r.what) by omega)]; simp
theorem rule_mid {r : RuleD} (h1 : loN (whatF r.what) ≤ r.num) (h2 : r.num ≤ hiN (whatF r.what)) : ruleOk r = textOk (formN (whatF r.what)) r.text := by unfold ruleOk; rw [decide_eq_true h1, decide_eq_true h2]; rfl
theorem form_lt (k : What) : formN k = 0 ∨ formN k = 1 ∨ formN k = 2 ∨ formN k = 3 := by cases k <;> simp [formN]
end Go.Proofs.YtlkpofhfkhdheaaGreatDoor
