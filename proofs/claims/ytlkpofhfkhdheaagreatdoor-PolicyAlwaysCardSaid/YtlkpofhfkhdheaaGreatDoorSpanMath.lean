/-
  Plain facts on spans and their bytes. No program is named here.
-/
import Derived.Test.YtlkpofhfkhdheaaGreatDoorRuneMath
namespace Go.Proofs.YtlkpofhfkhdheaaGreatDoor
open Ru

/-- A rune that no name may have. -/
def badRune (r : Nat) : Bool := decide (r < 32) || (decide (127 ≤ r) && decide (r ≤ 159))
/-- A name. -/
def nameOk (s : ByteArray) : Bool := decide (1 ≤ s.size) && decide (s.size ≤ 32) && (match runesOf s 0 with | none => false | some rs => rs.all fun r => !badRune r)
def nameKind (s : ByteArray) : Int := if nameOk s = true then 0 else 5
theorem name_none {s : ByteArray} (h : runesOf s 0 = none) : nameOk s = false := by unfold nameOk; rw [h]; simp
theorem name_size {s : ByteArray} (h : s.size < 1 ∨ 32 < s.size) : nameOk s = false := by
  unfold nameOk
  rcases h with h | h
  · rw [decide_eq_false (by omega)]; rfl
  · rw [decide_eq_false (show ¬ s.size ≤ 32 by omega)]; simp
theorem name_sizes {s : ByteArray} (h : nameOk s = true) : 1 ≤ s.size ∧ s.size ≤ 32 := by
  by_cases h1 : s.size < 1 ∨ 32 < s.size
  · rw [name_size h1] at h; cases h
  · omega
theorem name_bad {s : ByteArray} {rs : List Nat} (h : runesOf s 0 = some rs) {k : Nat} (hk : k < rs.length) (hb : badRune rs[k] = true) : nameOk s = false := by
  unfold nameOk
  rw [h]
  have : (rs.all fun r => !badRune r) = false := by
    rw [List.all_eq_false]
    exact ⟨rs[k], List.getElem_mem hk, by rw [hb]; decide⟩
  simp only [this, Bool.and_false]
theorem name_good {s : ByteArray} {rs : List Nat} (h : runesOf s 0 = some rs) (h1 : 1 ≤ s.size) (h2 : s.size ≤ 32) (hg : ∀ k (hk : k < rs.length), badRune rs[k] = false) : nameOk s = true := by
  unfold nameOk
  rw [h, decide_eq_true h1, decide_eq_true h2]
  have : (rs.all fun r => !badRune r) = true := by
    rw [List.all_eq_true]
    intro r hr
    obtain ⟨k, hk, rfl⟩ := List.getElem_of_mem hr
    rw [hg k hk]; rfl
  simp only [this, Bool.and_true]
theorem kind_bad {s : ByteArray} (h : nameOk s = false) : nameKind s = 5 := by unfold nameKind; rw [h]; rfl
theorem kind_good {s : ByteArray} (h : nameOk s = true) : nameKind s = 0 := by unfold nameKind; rw [h]; rfl

/-- A span: its numbers, its texts, whether it failed. -/
structure SpanD where
  trace : Nat
  id : Nat
  parent : Nat
  start : Nat
  len : Nat
  service : ByteArray
  name : ByteArray
  fail : Bool
/-- Its numbers are those of 64 bits. -/
structure SpanD.Wf (s : SpanD) : Prop where
  trace : s.trace < 18446744073709551616
  id : s.id < 18446744073709551616
  parent : s.parent < 18446744073709551616
  start : s.start < 18446744073709551616
  len : s.len < 18446744073709551616
  service : s.service.size ≤ 9223372036854775807
  name : s.name.size ≤ 9223372036854775807
def SpanD.zero : SpanD := ⟨0, 0, 0, 0, 0, ⟨#[]⟩, ⟨#[]⟩, false⟩

def argBad (s : SpanD) : Bool := decide (s.trace = 0) || decide (s.id = 0) || decide (1099511627776 < s.start) || decide (1099511627776 < s.len)
/-- What stands against a span. -/
def rightF (s : SpanD) : Int := if argBad s = true then 1 else if nameOk s.service = true ∧ nameOk s.name = true then 0 else 5
theorem right_arg {s : SpanD} (h : argBad s = true) : rightF s = 1 := by unfold rightF; rw [if_pos h]
theorem right_name {s : SpanD} (h : argBad s = false) (hn : nameOk s.service = false ∨ nameOk s.name = false) : rightF s = 5 := by
  unfold rightF
  rw [if_neg (by rw [h]; decide), if_neg]
  rintro ⟨h1, h2⟩
  rcases hn with hn | hn
  · rw [hn] at h1; cases h1
  · rw [hn] at h2; cases h2
theorem right_ok {s : SpanD} (h : argBad s = false) (h1 : nameOk s.service = true) (h2 : nameOk s.name = true) : rightF s = 0 := by
  unfold rightF
  rw [if_neg (by rw [h]; decide), if_pos ⟨h1, h2⟩]
theorem right_zero {s : SpanD} (h : rightF s = 0) : argBad s = false ∧ nameOk s.service = true ∧ nameOk s.name = true := by
  cases ha : argBad s
  · by_cases hn : nameOk s.service = true ∧ nameOk s.name = true
    · exact ⟨rfl, hn⟩
    · unfold rightF at h
      rw [if_neg (by rw [ha]; decide), if_neg hn] at h
      cases h
  · rw [right_arg ha] at h; cases h
theorem arg_yes {s : SpanD} (h : argBad s = true) : s.trace = 0 ∨ (s.trace ≠ 0 ∧ s.id = 0) ∨ (s.trace ≠ 0 ∧ s.id ≠ 0 ∧ 1099511627776 < s.start) ∨ (s.trace ≠ 0 ∧ s.id ≠ 0 ∧ s.start ≤ 1099511627776 ∧ 1099511627776 < s.len) := by
  unfold argBad at h
  simp at h
  omega
theorem arg_no {s : SpanD} (h : argBad s = false) : s.trace ≠ 0 ∧ s.id ≠ 0 ∧ s.start ≤ 1099511627776 ∧ s.len ≤ 1099511627776 := by
  unfold argBad at h
  simp at h
  omega

/-! ### numbers as bytes, the highest first -/
def byteOf (n i : Nat) : UInt8 := UInt8.ofNat (n / 256 ^ i % 256)
theorem byteOf_toNat (n i : Nat) : (byteOf n i).toNat = n / 256 ^ i % 256 := by
  unfold byteOf
  rw [UInt8.toNat_ofNat']
  omega
/-- The first k of the eight bytes. -/
def eightK (n : Nat) : Nat → List UInt8
  | 0 => []
  | k + 1 => eightK n k ++ [byteOf n (7 - k)]
def eight (n : Nat) : List UInt8 := eightK n 8
theorem eightK_length (n k : Nat) : (eightK n k).length = k := by
  induction k with
  | zero => rfl
  | succ k ih => rw [eightK, List.length_append, ih]; rfl
theorem eight_length (n : Nat) : (eight n).length = 8 := eightK_length n 8
/-- The number of the first k bytes. -/
def numB (l : List UInt8) : Nat → Nat
  | 0 => 0
  | k + 1 => numB l k * 256 + (l.getD k 0).toNat
theorem numB_lt (l : List UInt8) (k : Nat) : numB l k < 256 ^ k := by
  induction k with
  | zero => simp [numB]
  | succ k ih =>
    have := UInt8.toNat_lt (l.getD k 0)
    rw [numB, Nat.pow_succ]
    omega
theorem numB_append (a b : List UInt8) (k : Nat) (h : k ≤ a.length) : numB (a ++ b) k = numB a k := by
  induction k with
  | zero => rfl
  | succ k ih =>
    rw [numB, numB, ih (by omega)]
    congr 2
    simp only [List.getD_eq_getElem?_getD]
    rw [List.getElem?_append_left (by omega)]
theorem numB_eightK (n : Nat) : ∀ k, k ≤ 8 → numB (eightK n k) k = n / 256 ^ (8 - k) % 256 ^ k := by
  intro k
  induction k with
  | zero => intro _; simp [numB, Nat.mod_one]
  | succ k ih =>
    intro hk
    have e : (eightK n (k + 1)).getD k 0 = byteOf n (7 - k) := by
      rw [eightK, List.getD_eq_getElem?_getD, List.getElem?_append_right (by rw [eightK_length]; omega), eightK_length, Nat.sub_self]
      rfl
    rw [numB, e, byteOf_toNat, eightK, numB_append _ _ _ (by rw [eightK_length]; omega), ih (by omega)]
    have e2 : (256 : Nat) ^ (8 - k) = 256 ^ (7 - k) * 256 := by rw [show 8 - k = 7 - k + 1 by omega, Nat.pow_succ]
    rw [e2, show 8 - (k + 1) = 7 - k by omega, ← Nat.div_div_eq_div_mul]
    generalize n / 256 ^ (7 - k) = m
    rw [Nat.pow_succ]
    have h1 := Nat.mod_mul_left_div_self m (256 ^ k) 256
    have h2 := Nat.mod_mod_of_dvd m (show 256 ∣ 256 ^ k * 256 from ⟨256 ^ k, Nat.mul_comm _ _⟩)
    rw [Nat.mul_comm (256 ^ k) 256] at *
    have h3 : m % (256 * 256 ^ k) / 256 = m / 256 % 256 ^ k := by rw [Nat.mod_mul_right_div_self]
    omega
theorem numB_eight (n : Nat) (h : n < 18446744073709551616) (t : List UInt8) : numB (eight n ++ t) 8 = n := by
  rw [numB_append _ _ _ (by rw [eight_length]; omega)]
  unfold eight
  rw [numB_eightK n 8 (by omega)]
  rw [show 8 - 8 = 0 from rfl, Nat.pow_zero, Nat.div_one]
  exact Nat.mod_eq_of_lt (by rw [show (256 : Nat) ^ 8 = 18446744073709551616 from rfl]; exact h)
end Go.Proofs.YtlkpofhfkhdheaaGreatDoor
