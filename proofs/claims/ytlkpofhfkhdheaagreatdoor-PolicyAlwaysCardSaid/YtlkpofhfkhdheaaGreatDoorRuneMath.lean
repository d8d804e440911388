/-
  Plain facts on runes: the model's own decoding, told of the bytes, and what a name is. No program is named here.
-/
import Derived.WalkKit
import Derived.Lib.DecodeN
import Derived.Lib.RuneCountTail
namespace Go.Proofs.YtlkpofhfkhdheaaGreatDoor.Ru
open Go.Lib (decodeN)

/-- The rune that bytes begin with, and how many they are; 0 and 0: none. -/
def runeN (n b0 b1 b2 b3 : Nat) : Nat × Nat :=
  if n = 0 then (0, 0) else if decodeN n b0 b1 b2 b3 = (65533, 1) then (0, 0) else decodeN n b0 b1 b2 b3
theorem runeN_bad {n b0 b1 b2 b3 : Nat} (h : decodeN n b0 b1 b2 b3 = (65533, 1)) : runeN n b0 b1 b2 b3 = (0, 0) := by
  unfold runeN
  rw [if_pos h]
  split <;> rfl
theorem runeN_good {n b0 b1 b2 b3 r k : Nat} (hn : n ≠ 0) (h : decodeN n b0 b1 b2 b3 = (r, k)) (h1 : r ≠ 65533 ∨ k ≠ 1) : runeN n b0 b1 b2 b3 = (r, k) := by
  unfold runeN
  rw [if_neg hn, if_neg (by rw [h]; intro e; injection e; omega), h]

/-- A number that a rune may be, above the least that its bytes may say. -/
def fits (least r : Nat) : Bool := decide (least ≤ r ∧ r ≤ 1114111 ∧ ¬ (55296 ≤ r ∧ r ≤ 57343))
theorem fits_yes {least r : Nat} (h : fits least r = true) : least ≤ r ∧ r ≤ 1114111 ∧ ¬ (55296 ≤ r ∧ r ≤ 57343) := of_decide_eq_true h
theorem fits_no {least r : Nat} (h : fits least r = false) : ¬ (least ≤ r ∧ r ≤ 1114111 ∧ ¬ (55296 ≤ r ∧ r ≤ 57343)) := of_decide_eq_false h

theorem rune_ascii (n b0 b1 b2 b3 : Nat) (hn : n ≠ 0) (h : b0 < 128) : runeN n b0 b1 b2 b3 = (b0, 1) :=
  runeN_good hn (by unfold decodeN; rw [if_pos h]) (by omega)
theorem rune_none (n b0 b1 b2 b3 : Nat) (h : 128 ≤ b0) (h1 : ¬ (194 ≤ b0 ∧ b0 ≤ 244)) (h0 : b0 < 256) : runeN n b0 b1 b2 b3 = (0, 0) := by
  apply runeN_bad
  unfold decodeN
  repeat' split
  all_goals first | rfl | (exfalso; omega)
theorem rune_few2 (n b0 b1 b2 b3 : Nat) (h : 194 ≤ b0 ∧ b0 ≤ 223) (hn : n < 2) : runeN n b0 b1 b2 b3 = (0, 0) := by
  apply runeN_bad
  unfold decodeN
  repeat' split
  all_goals first | rfl | (exfalso; omega)
theorem rune_few3 (n b0 b1 b2 b3 : Nat) (h : 224 ≤ b0 ∧ b0 ≤ 239) (hn : n < 3) : runeN n b0 b1 b2 b3 = (0, 0) := by
  apply runeN_bad
  unfold decodeN
  repeat' split
  all_goals first | rfl | (exfalso; omega)
theorem rune_few4 (n b0 b1 b2 b3 : Nat) (h : 240 ≤ b0 ∧ b0 ≤ 244) (hn : n < 4) : runeN n b0 b1 b2 b3 = (0, 0) := by
  apply runeN_bad
  unfold decodeN
  repeat' split
  all_goals first | rfl | (exfalso; omega)
set_option maxRecDepth 100000 in
theorem rune_two (n b0 b1 b2 b3 : Nat) (h : 194 ≤ b0 ∧ b0 ≤ 223) (hn : 2 ≤ n) (h1 : 128 ≤ b1 ∧ b1 ≤ 191) : runeN n b0 b1 b2 b3 = ((b0 - 192) * 64 + b1 - 128, 2) := by
  refine runeN_good (by omega) ?_ (by omega)
  unfold decodeN
  rw [if_neg (by omega), if_pos (by omega), if_pos (by omega)]
  congr 1; omega
theorem rune_two_not (n b0 b1 b2 b3 : Nat) (h : 194 ≤ b0 ∧ b0 ≤ 223) (hb : b1 < 256) (h1 : ¬ (128 ≤ b1 ∧ b1 ≤ 191)) : runeN n b0 b1 b2 b3 = (0, 0) := by
  apply runeN_bad
  unfold decodeN
  repeat' split
  all_goals first | rfl | (exfalso; omega)
set_option maxRecDepth 100000 in
theorem rune_three (n b0 b1 b2 b3 : Nat) (h : 224 ≤ b0 ∧ b0 ≤ 239) (hn : 3 ≤ n) (h1 : 128 ≤ b1 ∧ b1 ≤ 191) (h2 : 128 ≤ b2 ∧ b2 ≤ 191) (r : Nat) (hr : r = ((b0 - 224) * 64 + b1 - 128) * 64 + b2 - 128) :
    runeN n b0 b1 b2 b3 = if fits 2048 r = true then (r, 3) else (0, 0) := by
  have e : b0 % 16 * 4096 + b1 % 64 * 64 + b2 % 64 = r := by omega
  cases hf : fits 2048 r
  · have hf' := fits_no hf
    rw [if_neg (by decide)]
    apply runeN_bad
    unfold decodeN
    rw [if_neg (by omega), if_neg (by omega), if_pos (by omega), e, if_neg (by omega)]
  · have hf' := fits_yes hf
    rw [if_pos rfl]
    refine runeN_good (by omega) ?_ (by omega)
    unfold decodeN
    rw [if_neg (by omega), if_neg (by omega), if_pos (by omega), e, if_pos (by omega)]
theorem rune_three_not (n b0 b1 b2 b3 : Nat) (h : 224 ≤ b0 ∧ b0 ≤ 239) (hb : b1 < 256) (hb2 : b2 < 256) (h1 : ¬ (128 ≤ b1 ∧ b1 ≤ 191) ∨ ¬ (128 ≤ b2 ∧ b2 ≤ 191)) : runeN n b0 b1 b2 b3 = (0, 0) := by
  apply runeN_bad
  unfold decodeN
  rw [if_neg (by omega), if_neg (by omega), if_neg (by omega), if_neg (by omega)]
set_option maxRecDepth 100000 in
theorem rune_four (n b0 b1 b2 b3 : Nat) (h : 240 ≤ b0 ∧ b0 ≤ 244) (hn : 4 ≤ n) (h1 : 128 ≤ b1 ∧ b1 ≤ 191) (h2 : 128 ≤ b2 ∧ b2 ≤ 191) (h3 : 128 ≤ b3 ∧ b3 ≤ 191) (r : Nat) (hr : r = (((b0 - 240) * 64 + b1 - 128) * 64 + b2 - 128) * 64 + b3 - 128) :
    runeN n b0 b1 b2 b3 = if fits 65536 r = true then (r, 4) else (0, 0) := by
  have e : b0 % 8 * 262144 + b1 % 64 * 4096 + b2 % 64 * 64 + b3 % 64 = r := by omega
  cases hf : fits 65536 r
  · have hf' := fits_no hf
    rw [if_neg (by decide)]
    apply runeN_bad
    unfold decodeN
    rw [if_neg (by omega), if_neg (by omega), if_neg (by omega), if_pos (by omega), e, if_neg (by omega)]
  · have hf' := fits_yes hf
    rw [if_pos rfl]
    refine runeN_good (by omega) ?_ (by omega)
    unfold decodeN
    rw [if_neg (by omega), if_neg (by omega), if_neg (by omega), if_pos (by omega), e, if_pos (by omega)]
theorem rune_four_not (n b0 b1 b2 b3 : Nat) (h : 240 ≤ b0 ∧ b0 ≤ 244) (hb : b1 < 256) (hb2 : b2 < 256) (hb3 : b3 < 256) (h1 : ¬ (128 ≤ b1 ∧ b1 ≤ 191) ∨ ¬ (128 ≤ b2 ∧ b2 ≤ 191) ∨ ¬ (128 ≤ b3 ∧ b3 ≤ 191)) : runeN n b0 b1 b2 b3 = (0, 0) := by
  apply runeN_bad
  unfold decodeN
  rw [if_neg (by omega), if_neg (by omega), if_neg (by omega), if_neg (by omega)]

/-- .. of a text. -/
def runeF (s : ByteArray) : Nat × Nat := runeN s.size (s.get! 0).toNat (s.get! 1).toNat (s.get! 2).toNat (s.get! 3).toNat
theorem get_eq (s : ByteArray) (k : Nat) (h : k < s.size) : s.get! k = s[k] := by
  rw [← Lib.getD_get!']
  simp only [List.getD_eq_getElem?_getD]
  rw [List.getElem?_eq_getElem (by simpa using h)]
  rfl
/-- What the bytes behind the leading one have made of its number. -/
def acc (s : ByteArray) (r0 : Nat) : Nat → Nat
  | 0 => 0
  | 1 => r0
  | k + 2 => acc s r0 (k + 1) * 64 + (s.get! (k + 1)).toNat - 128
theorem acc_1 (s : ByteArray) (r0 : Nat) : acc s r0 1 = r0 := rfl
theorem acc_2 (s : ByteArray) (r0 : Nat) : acc s r0 2 = r0 * 64 + (s.get! 1).toNat - 128 := rfl
theorem acc_3 (s : ByteArray) (r0 : Nat) : acc s r0 3 = (r0 * 64 + (s.get! 1).toNat - 128) * 64 + (s.get! 2).toNat - 128 := rfl
theorem acc_4 (s : ByteArray) (r0 : Nat) : acc s r0 4 = ((r0 * 64 + (s.get! 1).toNat - 128) * 64 + (s.get! 2).toNat - 128) * 64 + (s.get! 3).toNat - 128 := rfl
theorem acc_succ (s : ByteArray) (r0 : Nat) {k : Nat} (h : 1 ≤ k) : acc s r0 (k + 1) = acc s r0 k * 64 + (s.get! k).toNat - 128 := by
  obtain ⟨j, rfl⟩ : ∃ j, k = j + 1 := ⟨k - 1, by omega⟩
  rfl
def Conts (s : ByteArray) (k : Nat) : Prop := ∀ j, 1 ≤ j → j < k → 128 ≤ (s.get! j).toNat ∧ (s.get! j).toNat ≤ 191
theorem Conts.one (s : ByteArray) : Conts s 1 := fun j h1 h2 => by omega
theorem Conts.succ {s : ByteArray} {k : Nat} (h : Conts s k) (h1 : 128 ≤ (s.get! k).toNat ∧ (s.get! k).toNat ≤ 191) : Conts s (k + 1) := fun j h2 h3 => by
  by_cases e : j = k
  · subst e; exact h1
  · exact h j h2 (by omega)
theorem acc_lt {s : ByteArray} {r0 : Nat} (h0 : r0 < 64) (k : Nat) (h1 : 1 ≤ k) (h4 : k ≤ 4) (hc : Conts s k) : acc s r0 k < 64 ^ k := by
  rcases (show k = 1 ∨ k = 2 ∨ k = 3 ∨ k = 4 by omega) with rfl | rfl | rfl | rfl
  · rw [acc_1, show (64 : Nat) ^ 1 = 64 from rfl]; exact h0
  · have := hc 1 (by omega) (by omega); rw [acc_2, show (64 : Nat) ^ 2 = 4096 from rfl]; omega
  · have := hc 1 (by omega) (by omega); have := hc 2 (by omega) (by omega); rw [acc_3, show (64 : Nat) ^ 3 = 262144 from rfl]; omega
  · have := hc 1 (by omega) (by omega); have := hc 2 (by omega) (by omega); have := hc 3 (by omega) (by omega); rw [acc_4, show (64 : Nat) ^ 4 = 16777216 from rfl]; omega
theorem runeF_2 {s : ByteArray} (h : 194 ≤ (s.get! 0).toNat ∧ (s.get! 0).toNat ≤ 223) (hn : 2 ≤ s.size) (hc : Conts s 2) (R : Nat) (hR : acc s ((s.get! 0).toNat - 192) 2 = R) : runeF s = if fits 128 R = true then (R, 2) else (0, 0) := by
  have h1 := hc 1 (by omega) (by omega)
  rw [acc_2] at hR
  unfold runeF
  rw [rune_two _ _ _ _ _ h hn h1]
  rw [if_pos]
  · congr 1
  · unfold fits
    rw [decide_eq_true_eq]
    omega
theorem runeF_3 {s : ByteArray} (h : 224 ≤ (s.get! 0).toNat ∧ (s.get! 0).toNat ≤ 239) (hn : 3 ≤ s.size) (hc : Conts s 3) (R : Nat) (hR : acc s ((s.get! 0).toNat - 224) 3 = R) : runeF s = if fits 2048 R = true then (R, 3) else (0, 0) := by
  have h1 := hc 1 (by omega) (by omega)
  have h2 := hc 2 (by omega) (by omega)
  rw [acc_3] at hR
  unfold runeF
  exact rune_three _ _ _ _ _ h hn h1 h2 R hR.symm
theorem runeF_4 {s : ByteArray} (h : 240 ≤ (s.get! 0).toNat ∧ (s.get! 0).toNat ≤ 244) (hn : 4 ≤ s.size) (hc : Conts s 4) (R : Nat) (hR : acc s ((s.get! 0).toNat - 240) 4 = R) : runeF s = if fits 65536 R = true then (R, 4) else (0, 0) := by
  have h1 := hc 1 (by omega) (by omega)
  have h2 := hc 2 (by omega) (by omega)
  have h3 := hc 3 (by omega) (by omega)
  rw [acc_4] at hR
  unfold runeF
  exact rune_four _ _ _ _ _ h hn h1 h2 h3 R hR.symm
theorem runeF_2_not {s : ByteArray} (h : 194 ≤ (s.get! 0).toNat ∧ (s.get! 0).toNat ≤ 223) (k : Nat) (h1 : 1 ≤ k) (hk : k < 2) (hc : ¬ (128 ≤ (s.get! k).toNat ∧ (s.get! k).toNat ≤ 191)) : runeF s = (0, 0) := by
  obtain rfl : k = 1 := by omega
  exact rune_two_not _ _ _ _ _ h (UInt8.toNat_lt _) hc
theorem runeF_3_not {s : ByteArray} (h : 224 ≤ (s.get! 0).toNat ∧ (s.get! 0).toNat ≤ 239) (k : Nat) (h1 : 1 ≤ k) (hk : k < 3) (hc : ¬ (128 ≤ (s.get! k).toNat ∧ (s.get! k).toNat ≤ 191)) : runeF s = (0, 0) := by
  refine rune_three_not _ _ _ _ _ h (UInt8.toNat_lt _) (UInt8.toNat_lt _) ?_
  rcases (show k = 1 ∨ k = 2 by omega) with rfl | rfl
  · exact .inl hc
  · exact .inr hc
theorem runeF_4_not {s : ByteArray} (h : 240 ≤ (s.get! 0).toNat ∧ (s.get! 0).toNat ≤ 244) (k : Nat) (h1 : 1 ≤ k) (hk : k < 4) (hc : ¬ (128 ≤ (s.get! k).toNat ∧ (s.get! k).toNat ≤ 191)) : runeF s = (0, 0) := by
  refine rune_four_not _ _ _ _ _ h (UInt8.toNat_lt _) (UInt8.toNat_lt _) (UInt8.toNat_lt _) ?_
  rcases (show k = 1 ∨ k = 2 ∨ k = 3 by omega) with rfl | rfl | rfl
  · exact .inl hc
  · exact .inr (.inl hc)
  · exact .inr (.inr hc)
/-- .. of what stands from place i on. -/
def runeAt (s : ByteArray) (i : Nat) : Nat × Nat := runeF (s.extract i s.size)
/-- All runes from place i on, if each is right. -/
def runesFrom (s : ByteArray) : Nat → Nat → Option (List Nat)
  | 0, _ => some []
  | f + 1, i => if s.size ≤ i then some [] else if (runeAt s i).2 = 0 then none else (runesFrom s f (i + (runeAt s i).2)).map ((runeAt s i).1 :: ·)
def runesOf (s : ByteArray) (i : Nat) : Option (List Nat) := runesFrom s (s.size - i) i
theorem size_from (s : ByteArray) (i : Nat) : (s.extract i s.size).size = s.size - i := by
  rw [ByteArray.size_extract]; omega
theorem decode_width (n b0 b1 b2 b3 : Nat) (hn : n ≠ 0) : 1 ≤ (decodeN n b0 b1 b2 b3).2 ∧ (decodeN n b0 b1 b2 b3).2 ≤ n ∧ (decodeN n b0 b1 b2 b3).2 ≤ 4 ∧ (decodeN n b0 b1 b2 b3).1 ≤ 1114111 := by
  unfold decodeN
  repeat' split
  all_goals (simp only; omega)
theorem runeF_width (s : ByteArray) : (runeF s).2 ≤ s.size ∧ (runeF s).2 ≤ 4 ∧ (runeF s).1 ≤ 1114111 := by
  unfold runeF runeN
  split
  · simp
  · split
    · simp
    · rename_i h _
      have := decode_width s.size (s.get! 0).toNat (s.get! 1).toNat (s.get! 2).toNat (s.get! 3).toNat h
      omega
theorem runeAt_width (s : ByteArray) (i : Nat) : (runeAt s i).2 ≤ s.size - i ∧ (runeAt s i).1 ≤ 1114111 := by
  have := runeF_width (s.extract i s.size)
  rw [size_from] at this
  exact ⟨this.1, this.2.2⟩
theorem runesFrom_fuel (s : ByteArray) : ∀ (f g i : Nat), s.size - i ≤ f → s.size - i ≤ g → runesFrom s f i = runesFrom s g i
  | 0, 0, _, _, _ => rfl
  | 0, g + 1, i, h, _ => by rw [runesFrom, runesFrom, if_pos (by omega)]
  | f + 1, 0, i, _, h => by rw [runesFrom, runesFrom, if_pos (by omega)]
  | f + 1, g + 1, i, h1, h2 => by
    rw [runesFrom, runesFrom]
    by_cases h0 : s.size ≤ i
    · rw [if_pos h0, if_pos h0]
    · rw [if_neg h0, if_neg h0]
      by_cases hk : (runeAt s i).2 = 0
      · rw [if_pos hk, if_pos hk]
      · rw [if_neg hk, if_neg hk, runesFrom_fuel s f g _ (by omega) (by omega)]
theorem runesOf_end {s : ByteArray} {i : Nat} (h : s.size ≤ i) : runesOf s i = some [] := by
  unfold runesOf
  rw [show s.size - i = 0 by omega]
  rfl
theorem runesOf_none {s : ByteArray} {i : Nat} (h : i < s.size) (hk : (runeAt s i).2 = 0) : runesOf s i = none := by
  unfold runesOf
  obtain ⟨f, hf⟩ : ∃ f, s.size - i = f + 1 := ⟨s.size - i - 1, by omega⟩
  rw [hf, runesFrom, if_neg (by omega), if_pos hk]
theorem runesOf_step {s : ByteArray} {i : Nat} (h : i < s.size) (hk : (runeAt s i).2 ≠ 0) : runesOf s i = (runesOf s (i + (runeAt s i).2)).map ((runeAt s i).1 :: ·) := by
  unfold runesOf
  obtain ⟨f, hf⟩ : ∃ f, s.size - i = f + 1 := ⟨s.size - i - 1, by omega⟩
  conv => lhs; rw [hf, runesFrom, if_neg (by omega), if_neg hk]
  rw [runesFrom_fuel s f (s.size - (i + (runeAt s i).2)) _ (by omega) (Nat.le_refl _)]
/-- So far the runes up to place i have given rs. -/
def RunesAt (s : ByteArray) (rs : List Nat) (i : Nat) : Prop := i ≤ s.size ∧ rs.length ≤ i ∧ (∀ r ∈ rs, r ≤ 1114111) ∧ runesOf s 0 = (runesOf s i).map (rs ++ ·)
theorem runesAt_zero (s : ByteArray) : RunesAt s [] 0 := ⟨Nat.zero_le _, Nat.le_refl _, fun r h => by simp at h, by simp⟩
theorem runesAt_end {s : ByteArray} {rs : List Nat} {i : Nat} (h : RunesAt s rs i) (hi : i = s.size) : runesOf s 0 = some rs := by
  rw [h.2.2.2, runesOf_end (by omega)]
  simp
theorem runesAt_bad {s : ByteArray} {rs : List Nat} {i : Nat} (h : RunesAt s rs i) (hi : i < s.size) (hk : (runeAt s i).2 = 0) : runesOf s 0 = none := by
  rw [h.2.2.2, runesOf_none hi hk]
  rfl
theorem runesAt_step {s : ByteArray} {rs : List Nat} {i : Nat} (h : RunesAt s rs i) (hi : i < s.size) (hk : (runeAt s i).2 ≠ 0) : RunesAt s (rs ++ [(runeAt s i).1]) (i + (runeAt s i).2) := by
  have hw := runeAt_width s i
  refine ⟨by omega, by rw [List.length_append, List.length_singleton]; have := h.2.1; omega, ?_, ?_⟩
  · intro r hr
    rcases List.mem_append.1 hr with h1 | h1
    · exact h.2.2.1 r h1
    · rw [List.mem_singleton.1 h1]; exact hw.2
  · rw [h.2.2.2, runesOf_step hi hk, Option.map_map]
    congr 1
    funext x
    simp
end Go.Proofs.YtlkpofhfkhdheaaGreatDoor.Ru
