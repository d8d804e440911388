/-
  What parseLine answers to the line of a rule that is one.
-/
import Derived.Test.YtlkpofhfkhdheaaGreatDoorCutStr
import Derived.Lib.AtoiErrMem
namespace Go.Proofs.YtlkpofhfkhdheaaGreatDoor
open Go.RowKit Ru

theorem digits_parse (M : Nat) (hM : M = 18446744073709551615) : ∀ (u : Nat) (r : List UInt8), u ≤ M → Lib.parseUintM M 0 (Lib.decDigits u ++ r) = Lib.parseUintM M u r := by
  intro u
  induction u using Nat.strongRecOn with
  | ind u ih =>
    intro r hu
    have hd : ∀ d, d < 10 → (UInt8.ofNat (48 + d)).toNat = 48 + d := fun d hd => by rw [UInt8.toNat_ofNat']; omega
    rw [Lib.decDigits]
    split
    · rename_i h
      rw [List.singleton_append, Lib.parseUintM, hd u h, if_pos (by omega), if_neg (by omega), if_neg (by omega)]
      congr 1; omega
    · rename_i h
      rw [List.append_assoc, ih (u / 10) (by omega) _ (by omega), List.singleton_append, Lib.parseUintM, hd (u % 10) (by omega), if_pos (by omega), if_neg (by omega), if_neg (by omega)]
      congr 1; omega
theorem parse_digits (u : Nat) (hu : u < 18446744073709551616) : Lib.parseUintB 64 (digitsS u).data.toList = .ok u := by
  show Lib.parseUintB 64 (Lib.decDigits u) = .ok u
  unfold Lib.parseUintB
  have hne : Lib.decDigits u ≠ [] := by
    intro e
    have := Lib.decDigits_length u
    rw [e] at this
    unfold Lib.nDigits at this
    split at this <;> simp at this
  rw [if_neg hne]
  have := digits_parse (2 ^ 64 - 1) (by decide) u [] (by omega)
  rw [List.append_nil] at this
  rw [this, Lib.parseUintM]
theorem parseuint_any (u : Nat) (w : World) (hu : u < 18446744073709551616) :
    Calls Tryz.prog 49 #[.string (digitsS u), .int .i64 10, .int .i64 64] w fun e w' => e = .returned (.tuple #[.int .u64 (u : Nat), .nilIface]) ∧ Below w.heap.size w w' :=
  (Sh.strconv_ParseUint_10_at64_ok (digitsS u) (by have := digits_size u hu; omega) u (parse_digits u hu) w).mono fun _ _ ⟨h1, h2⟩ => ⟨h1, by
    rcases h2 with rfl | rfl
    · exact Below.refl _ _
    · exact Lib.bytesWorld_below _ _ _⟩

theorem ba_append (a b : ByteArray) : (a ++ b).data.toList = a.data.toList ++ b.data.toList := by simp
theorem what_blank {s : ByteArray} (h : whatF s ≠ .other) : (32 : UInt8) ∉ s.data.toList := by
  have e : s.data.toList = s.toList := by rw [ByteArray.toList_eq]
  rw [e]
  cases hw : whatF s with
  | other => exact absurd hw h
  | always => rw [beq_iff_eq.1 (what_always hw).1]; decide
  | fail => rw [beq_iff_eq.1 (what_fail hw).2.1]; decide
  | root => rw [beq_iff_eq.1 (what_root hw).2.2.1]; decide
  | slow => rw [beq_iff_eq.1 (what_slow hw).2.2.2.1]; decide
  | many => rw [beq_iff_eq.1 (what_many hw).2.2.2.2.1]; decide
  | hash => rw [beq_iff_eq.1 (what_hash hw).2.2.2.2.2.1]; decide
  | service => rw [beq_iff_eq.1 (what_service hw).2.2.2.2.2.2.1]; decide
  | name => rw [beq_iff_eq.1 (what_name hw).2.2.2.2.2.2.2]; decide
theorem what_of_form {s : ByteArray} (h : formN (whatF s) ≠ 0) : whatF s ≠ .other := by rintro e; rw [e] at h; exact h rfl
theorem parted_verb (k : Bool) (x : ByteArray) : Parted (verbS k ++ x) (if k = true then ⟨#[107, 101, 101, 112]⟩ else ⟨#[100, 114, 111, 112]⟩) 32 x := by
  refine ⟨?_, ?_⟩
  · rw [ba_append]
    cases k <;> rfl
  · cases k <;> decide
theorem parted_what {s : ByteArray} (h : whatF s ≠ .other) (x : ByteArray) : Parted (s ++ (⟨#[32]⟩ ++ x)) s 32 x := by
  refine ⟨?_, what_blank h⟩
  rw [ba_append, ba_append]
  rfl
theorem ba_assoc (a b c : ByteArray) : a ++ b ++ c = a ++ (b ++ c) := ByteArray.append_assoc

theorem ok_parts {r : RuleD} (h : ruleOk r = true) : loN (whatF r.what) ≤ r.num ∧ r.num ≤ hiN (whatF r.what) ∧ textOk (formN (whatF r.what)) r.text = true := by
  unfold ruleOk at h
  simp only [Bool.and_eq_true, decide_eq_true_eq] at h
  exact h
theorem isEmpty_eq {s : ByteArray} (h : s.toList.isEmpty = true) : s = ⟨#[]⟩ := by
  rw [ByteArray.toList_eq] at h
  apply ba_ext
  simpa using h
theorem ok_form {r : RuleD} (h : ruleOk r = true) : (formN (whatF r.what) = 1 ∧ r.num = 0 ∧ r.text = ⟨#[]⟩) ∨ (formN (whatF r.what) = 2 ∧ r.text = ⟨#[]⟩) ∨ (formN (whatF r.what) = 3 ∧ r.num = 0) := by
  obtain ⟨h1, h2, h3⟩ := ok_parts h
  cases hw : whatF r.what <;> rw [hw] at h1 h2 h3 <;> simp only [loN, hiN, formN] at h1 h2 h3
  all_goals first
    | exact .inl ⟨rfl, by omega, isEmpty_eq h3⟩
    | exact .inr (.inl ⟨rfl, isEmpty_eq h3⟩)
    | exact .inr (.inr ⟨rfl, by omega⟩)
    | cases h3
theorem what_size {s : ByteArray} (h : whatF s ≠ .other) : s.size ≤ 7 := by
  have e : s.size = s.toList.length := by rw [ByteArray.toList_eq, Array.length_toList]; rfl
  rw [e]
  cases hw : whatF s with
  | other => exact absurd hw h
  | always => rw [beq_iff_eq.1 (what_always hw).1]; decide
  | fail => rw [beq_iff_eq.1 (what_fail hw).2.1]; decide
  | root => rw [beq_iff_eq.1 (what_root hw).2.2.1]; decide
  | slow => rw [beq_iff_eq.1 (what_slow hw).2.2.2.1]; decide
  | many => rw [beq_iff_eq.1 (what_many hw).2.2.2.2.1]; decide
  | hash => rw [beq_iff_eq.1 (what_hash hw).2.2.2.2.2.1]; decide
  | service => rw [beq_iff_eq.1 (what_service hw).2.2.2.2.2.2.1]; decide
  | name => rw [beq_iff_eq.1 (what_name hw).2.2.2.2.2.2.2]; decide
theorem verb_size (k : Bool) (x : ByteArray) : (verbS k ++ x).size = 5 + x.size := by
  rw [ByteArray.size_append]
  cases k <;> rfl
end Go.Proofs.YtlkpofhfkhdheaaGreatDoor
