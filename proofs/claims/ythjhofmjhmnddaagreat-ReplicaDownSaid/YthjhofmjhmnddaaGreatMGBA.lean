/-
  Texts: their bytes, and appending them to a row of bytes of the call's own.
-/
import Derived.Test.YthjhofmjhmnddaaGreatMGAA
import Derived.Lib.AppendStr
import Derived.Lib.SlBytesRow
import Derived.Laws.BytesArg
import Derived.WalkKit
import Derived.Lib.DecodeN
import Derived.Lib.RuneCountTail
import Derived.Lib.Strings
set_option linter.unusedSimpArgs false
set_option linter.unusedVariables false
namespace Go.Proofs.YthjhofmjhmnddaaGreat
open Go.RowKit
def strB (s : ByteArray) : List UInt8 := s.data.toList
def strOf (l : List UInt8) : ByteArray := ⟨l.toArray⟩
theorem strOf_size (l : List UInt8) : (strOf l).size = l.length := rfl
theorem sl_string {w : World} {A : Option Addr} {n c : Nat} {l : List UInt8} (h : Sl w A n c l) :
  (convert 112 9 (.slice A n c)).run Tryz.prog w = .ok (.string (strOf l)) w := by
 rcases l with _ | ⟨x, l⟩
 ·have hn : n = 0 := h.len.symm
  subst hn
  rcases A with _ | ⟨b, off, spot⟩
  ·rw [run_convert_bytes_nil w 112 5 Tryz.underlying112 Tryz.underlying5 0 c 9 Tryz.underlying9]
   rfl
  ·rw [run_convert_bytes_string w 112 9 5 _ 0 c Tryz.underlying112 Tryz.underlying5 Tryz.underlying9,
    run_bytesToString w _ 0 c [] (by simp [loadCells, loadCellsFrom])]
   rfl
 ·obtain ⟨b, off, rfl, hc⟩ := h.holds (by simp [bytes])
  have hs := Lib.run_convert_whole (P := Tryz.prog) w 112 5 9 Tryz.underlying112 Tryz.underlying5 Tryz.underlying9 b off (strOf (x :: l)) (fun i hi => hc i _ (bytes_get hi)) c
  rw [strOf_size, h.len] at hs
  exact hs
end Go.Proofs.YthjhofmjhmnddaaGreat
/-
 Plain facts on runes: the model's own decoding, told of the bytes, and what a name is. No program is named here.
-/
namespace Go.Proofs.YthjhofmjhmnddaaGreat.Ru
open Go.Lib (decodeN)
def runeN (n b0 b1 b2 b3 : Nat) : Nat × Nat :=
 if n = 0 then (0, 0) else if decodeN n b0 b1 b2 b3 = (65533, 1) then (0, 0) else decodeN n b0 b1 b2 b3
theorem runeN_bad {n b0 b1 b2 b3 : Nat} (h : decodeN n b0 b1 b2 b3 = (65533, 1)) : runeN n b0 b1 b2 b3 = (0, 0) := by
 unfold runeN
 rw [if_pos h]
 split <;> rfl
theorem runeN_good {n b0 b1 b2 b3 r k : Nat} (hn : n ≠ 0) (h : decodeN n b0 b1 b2 b3 = (r, k)) (h1 : r ≠ 65533 ∨ k ≠ 1) : runeN n b0 b1 b2 b3 = (r, k) := by
 unfold runeN
 rw [if_neg hn, if_neg (by rw [h]; intro e; injection e; omega), h]
def fits (least r : Nat) : Bool := decide (least ≤ r ∧ r ≤ 1114111 ∧ ¬ (55296 ≤ r ∧ r ≤ 57343))
theorem fits_yes {least r : Nat} (h : fits least r = true) : least ≤ r ∧ r ≤ 1114111 ∧ ¬ (55296 ≤ r ∧ r ≤ 57343) := of_decide_eq_true h
theorem fits_no {least r : Nat} (h : fits least r = false) : ¬ (least ≤ r ∧ r ≤ 1114111 ∧ ¬ (55296 ≤ r ∧ r ≤ 57343)) := of_decide_eq_false h
theorem rune_ascii (n b0 b1 b2 b3 : Nat) (hn : n ≠ 0) (h : b0 < 128) : runeN n b0 b1 b2 b3 = (b0, 1) :=
 runeN_good hn (by unfold decodeN; rw [if_pos h]) (by omega)
theorem rune_none (n b0 b1 b2 b3 : Nat) (h : 128 ≤ b0) (h1 : ¬ (194 ≤ b0 ∧ b0 ≤ 244)) (h0 : b0 < 256) : runeN n b0 b1 b2 b3 = (0, 0) := by
 apply runeN_bad
 unfold decodeN
 repeat' split
 all_goals first | rfl | (exfalso; omega)
theorem rune_few2 (n b0 b1 b2 b3 : Nat) (h : 194 ≤ b0 ∧ b0 ≤ 223) (hn : n < 2) : runeN n b0 b1 b2 b3 = (0, 0) := by
 apply runeN_bad
 unfold decodeN
 repeat' split
 all_goals first | rfl | (exfalso; omega)
theorem rune_few3 (n b0 b1 b2 b3 : Nat) (h : 224 ≤ b0 ∧ b0 ≤ 239) (hn : n < 3) : runeN n b0 b1 b2 b3 = (0, 0) := by
 apply runeN_bad
 unfold decodeN
 repeat' split
 all_goals first | rfl | (exfalso; omega)
theorem rune_few4 (n b0 b1 b2 b3 : Nat) (h : 240 ≤ b0 ∧ b0 ≤ 244) (hn : n < 4) : runeN n b0 b1 b2 b3 = (0, 0) := by
 apply runeN_bad
 unfold decodeN
 repeat' split
 all_goals first | rfl | (exfalso; omega)
set_option maxRecDepth 100000 in
theorem rune_two (n b0 b1 b2 b3 : Nat) (h : 194 ≤ b0 ∧ b0 ≤ 223) (hn : 2 ≤ n) (h1 : 128 ≤ b1 ∧ b1 ≤ 191) : runeN n b0 b1 b2 b3 = ((b0 - 192) * 64 + b1 - 128, 2) := by
 refine runeN_good (by omega) ?_ (by omega)
 unfold decodeN
 rw [if_neg (by omega), if_pos (by omega), if_pos (by omega)]
 congr 1; omega
theorem rune_two_not (n b0 b1 b2 b3 : Nat) (h : 194 ≤ b0 ∧ b0 ≤ 223) (hb : b1 < 256) (h1 : ¬ (128 ≤ b1 ∧ b1 ≤ 191)) : runeN n b0 b1 b2 b3 = (0, 0) := by
 apply runeN_bad
 unfold decodeN
 repeat' split
 all_goals first | rfl | (exfalso; omega)
set_option maxRecDepth 100000 in
theorem rune_three (n b0 b1 b2 b3 : Nat) (h : 224 ≤ b0 ∧ b0 ≤ 239) (hn : 3 ≤ n) (h1 : 128 ≤ b1 ∧ b1 ≤ 191) (h2 : 128 ≤ b2 ∧ b2 ≤ 191) (r : Nat) (hr : r = ((b0 - 224) * 64 + b1 - 128) * 64 + b2 - 128) :
  runeN n b0 b1 b2 b3 = if fits 2048 r = true then (r, 3) else (0, 0) := by
 have e : b0 % 16 * 4096 + b1 % 64 * 64 + b2 % 64 = r := by omega
 cases hf : fits 2048 r
 ·have hf' := fits_no hf
  rw [if_neg (by decide)]
  apply runeN_bad
  unfold decodeN
  rw [if_neg (by omega), if_neg (by omega), if_pos (by omega), e, if_neg (by omega)]
 ·have hf' := fits_yes hf
  rw [if_pos rfl]
  refine runeN_good (by omega) ?_ (by omega)
  unfold decodeN
  rw [if_neg (by omega), if_neg (by omega), if_pos (by omega), e, if_pos (by omega)]
theorem rune_three_not (n b0 b1 b2 b3 : Nat) (h : 224 ≤ b0 ∧ b0 ≤ 239) (hb : b1 < 256) (hb2 : b2 < 256) (h1 : ¬ (128 ≤ b1 ∧ b1 ≤ 191) ∨ ¬ (128 ≤ b2 ∧ b2 ≤ 191)) : runeN n b0 b1 b2 b3 = (0, 0) := by
 apply runeN_bad
 unfold decodeN
 rw [if_neg (by omega), if_neg (by omega), if_neg (by omega), if_neg (by omega)]
set_option maxRecDepth 100000 in
theorem rune_four (n b0 b1 b2 b3 : Nat) (h : 240 ≤ b0 ∧ b0 ≤ 244) (hn : 4 ≤ n) (h1 : 128 ≤ b1 ∧ b1 ≤ 191) (h2 : 128 ≤ b2 ∧ b2 ≤ 191) (h3 : 128 ≤ b3 ∧ b3 ≤ 191) (r : Nat) (hr : r = (((b0 - 240) * 64 + b1 - 128) * 64 + b2 - 128) * 64 + b3 - 128) :
  runeN n b0 b1 b2 b3 = if fits 65536 r = true then (r, 4) else (0, 0) := by
 have e : b0 % 8 * 262144 + b1 % 64 * 4096 + b2 % 64 * 64 + b3 % 64 = r := by omega
 cases hf : fits 65536 r
 ·have hf' := fits_no hf
  rw [if_neg (by decide)]
  apply runeN_bad
  unfold decodeN
  rw [if_neg (by omega), if_neg (by omega), if_neg (by omega), if_pos (by omega), e, if_neg (by omega)]
 ·have hf' := fits_yes hf
  rw [if_pos rfl]
  refine runeN_good (by omega) ?_ (by omega)
  unfold decodeN
  rw [if_neg (by omega), if_neg (by omega), if_neg (by omega), if_pos (by omega), e, if_pos (by omega)]
theorem rune_four_not (n b0 b1 b2 b3 : Nat) (h : 240 ≤ b0 ∧ b0 ≤ 244) (hb : b1 < 256) (hb2 : b2 < 256) (hb3 : b3 < 256) (h1 : ¬ (128 ≤ b1 ∧ b1 ≤ 191) ∨ ¬ (128 ≤ b2 ∧ b2 ≤ 191) ∨ ¬ (128 ≤ b3 ∧ b3 ≤ 191)) : runeN n b0 b1 b2 b3 = (0, 0) := by
 apply runeN_bad
 unfold decodeN
 rw [if_neg (by omega), if_neg (by omega), if_neg (by omega), if_neg (by omega)]
def runeF (s : ByteArray) : Nat × Nat := runeN s.size (s.get! 0).toNat (s.get! 1).toNat (s.get! 2).toNat (s.get! 3).toNat
theorem get_eq (s : ByteArray) (k : Nat) (h : k < s.size) : s.get! k = s[k] := by
 rw [← Lib.getD_get!']
 simp only [List.getD_eq_getElem?_getD]
 rw [List.getElem?_eq_getElem (by simpa using h)]
 rfl
def acc (s : ByteArray) (r0 : Nat) : Nat → Nat
 | 0 => 0
 | 1 => r0
 | k + 2 => acc s r0 (k + 1) * 64 + (s.get! (k + 1)).toNat - 128
theorem acc_1 (s : ByteArray) (r0 : Nat) : acc s r0 1 = r0 := rfl
theorem acc_2 (s : ByteArray) (r0 : Nat) : acc s r0 2 = r0 * 64 + (s.get! 1).toNat - 128 := rfl
theorem acc_3 (s : ByteArray) (r0 : Nat) : acc s r0 3 = (r0 * 64 + (s.get! 1).toNat - 128) * 64 + (s.get! 2).toNat - 128 := rfl
theorem acc_4 (s : ByteArray) (r0 : Nat) : acc s r0 4 = ((r0 * 64 + (s.get! 1).toNat - 128) * 64 + (s.get! 2).toNat - 128) * 64 + (s.get! 3).toNat - 128 := rfl
theorem acc_succ (s : ByteArray) (r0 : Nat) {k : Nat} (h : 1 ≤ k) : acc s r0 (k + 1) = acc s r0 k * 64 + (s.get! k).toNat - 128 := by
 obtain ⟨j, rfl⟩ : ∃ j, k = j + 1 := ⟨k - 1, by omega⟩
 rfl
def Conts (s : ByteArray) (k : Nat) : Prop := ∀ j, 1 ≤ j → j < k → 128 ≤ (s.get! j).toNat ∧ (s.get! j).toNat ≤ 191
theorem Conts.one (s : ByteArray) : Conts s 1 := fun j h1 h2 => by omega
theorem Conts.succ {s : ByteArray} {k : Nat} (h : Conts s k) (h1 : 128 ≤ (s.get! k).toNat ∧ (s.get! k).toNat ≤ 191) : Conts s (k + 1) := fun j h2 h3 => by
 by_cases e : j = k
 ·subst e; exact h1
 ·exact h j h2 (by omega)
theorem acc_lt {s : ByteArray} {r0 : Nat} (h0 : r0 < 64) (k : Nat) (h1 : 1 ≤ k) (h4 : k ≤ 4) (hc : Conts s k) : acc s r0 k < 64 ^ k := by
 rcases (show k = 1 ∨ k = 2 ∨ k = 3 ∨ k = 4 by omega) with rfl | rfl | rfl | rfl
 ·rw [acc_1, show (64 : Nat) ^ 1 = 64 from rfl]; exact h0
 ·have := hc 1 (by omega) (by omega); rw [acc_2, show (64 : Nat) ^ 2 = 4096 from rfl]; omega
 ·have := hc 1 (by omega) (by omega); have := hc 2 (by omega) (by omega); rw [acc_3, show (64 : Nat) ^ 3 = 262144 from rfl]; omega
 ·have := hc 1 (by omega) (by omega); have := hc 2 (by omega) (by omega); have := hc 3 (by omega) (by omega); rw [acc_4, show (64 : Nat) ^ 4 = 16777216 from rfl]; omega
theorem runeF_2 {s : ByteArray} (h : 194 ≤ (s.get! 0).toNat ∧ (s.get! 0).toNat ≤ 223) (hn : 2 ≤ s.size) (hc : Conts s 2) (R : Nat) (hR : acc s ((s.get! 0).toNat - 192) 2 = R) : runeF s = if fits 128 R = true then (R, 2) else (0, 0) := by
 have h1 := hc 1 (by omega) (by omega)
 rw [acc_2] at hR
 unfold runeF
 rw [rune_two _ _ _ _ _ h hn h1]
 rw [if_pos]
 ·congr 1
 ·unfold fits
  rw [decide_eq_true_eq]
  omega
theorem runeF_3 {s : ByteArray} (h : 224 ≤ (s.get! 0).toNat ∧ (s.get! 0).toNat ≤ 239) (hn : 3 ≤ s.size) (hc : Conts s 3) (R : Nat) (hR : acc s ((s.get! 0).toNat - 224) 3 = R) : runeF s = if fits 2048 R = true then (R, 3) else (0, 0) := by
 have h1 := hc 1 (by omega) (by omega)
 have h2 := hc 2 (by omega) (by omega)
 rw [acc_3] at hR
 unfold runeF
 exact rune_three _ _ _ _ _ h hn h1 h2 R hR.symm
theorem runeF_4 {s : ByteArray} (h : 240 ≤ (s.get! 0).toNat ∧ (s.get! 0).toNat ≤ 244) (hn : 4 ≤ s.size) (hc : Conts s 4) (R : Nat) (hR : acc s ((s.get! 0).toNat - 240) 4 = R) : runeF s = if fits 65536 R = true then (R, 4) else (0, 0) := by
 have h1 := hc 1 (by omega) (by omega)
 have h2 := hc 2 (by omega) (by omega)
 have h3 := hc 3 (by omega) (by omega)
 rw [acc_4] at hR
 unfold runeF
 exact rune_four _ _ _ _ _ h hn h1 h2 h3 R hR.symm
theorem runeF_2_not {s : ByteArray} (h : 194 ≤ (s.get! 0).toNat ∧ (s.get! 0).toNat ≤ 223) (k : Nat) (h1 : 1 ≤ k) (hk : k < 2) (hc : ¬ (128 ≤ (s.get! k).toNat ∧ (s.get! k).toNat ≤ 191)) : runeF s = (0, 0) := by
 obtain rfl : k = 1 := by omega
 exact rune_two_not _ _ _ _ _ h (UInt8.toNat_lt _) hc
theorem runeF_3_not {s : ByteArray} (h : 224 ≤ (s.get! 0).toNat ∧ (s.get! 0).toNat ≤ 239) (k : Nat) (h1 : 1 ≤ k) (hk : k < 3) (hc : ¬ (128 ≤ (s.get! k).toNat ∧ (s.get! k).toNat ≤ 191)) : runeF s = (0, 0) := by
 refine rune_three_not _ _ _ _ _ h (UInt8.toNat_lt _) (UInt8.toNat_lt _) ?_
 rcases (show k = 1 ∨ k = 2 by omega) with rfl | rfl
 ·exact .inl hc
 ·exact .inr hc
theorem runeF_4_not {s : ByteArray} (h : 240 ≤ (s.get! 0).toNat ∧ (s.get! 0).toNat ≤ 244) (k : Nat) (h1 : 1 ≤ k) (hk : k < 4) (hc : ¬ (128 ≤ (s.get! k).toNat ∧ (s.get! k).toNat ≤ 191)) : runeF s = (0, 0) := by
 refine rune_four_not _ _ _ _ _ h (UInt8.toNat_lt _) (UInt8.toNat_lt _) (UInt8.toNat_lt _) ?_
 rcases (show k = 1 ∨ k = 2 ∨ k = 3 by omega) with rfl | rfl | rfl
 ·exact .inl hc
 ·exact .inr (.inl hc)
 ·exact .inr (.inr hc)
def runeAt (s : ByteArray) (i : Nat) : Nat × Nat := runeF (s.extract i s.size)
def runesFrom (s : ByteArray) : Nat → Nat → Option (List Nat)
 | 0, _ => some []
 | f + 1, i => if s.size ≤ i then some [] else if (runeAt s i).2 = 0 then none else (runesFrom s f (i + (runeAt s i).2)).map ((runeAt s i).1 :: ·)
def runesOf (s : ByteArray) (i : Nat) : Option (List Nat) := runesFrom s (s.size - i) i
theorem size_from (s : ByteArray) (i : Nat) : (s.extract i s.size).size = s.size - i := by
 rw [ByteArray.size_extract]; omega
theorem decode_width (n b0 b1 b2 b3 : Nat) (hn : n ≠ 0) : 1 ≤ (decodeN n b0 b1 b2 b3).2 ∧ (decodeN n b0 b1 b2 b3).2 ≤ n ∧ (decodeN n b0 b1 b2 b3).2 ≤ 4 ∧ (decodeN n b0 b1 b2 b3).1 ≤ 1114111 := by
 unfold decodeN
 repeat' split
 all_goals (simp only; omega)
theorem runeF_width (s : ByteArray) : (runeF s).2 ≤ s.size ∧ (runeF s).2 ≤ 4 ∧ (runeF s).1 ≤ 1114111 := by
 unfold runeF runeN
 split
 ·simp
 ·split
  ·simp
  ·rename_i h _
   have := decode_width s.size (s.get! 0).toNat (s.get! 1).toNat (s.get! 2).toNat (s.get! 3).toNat h
   omega
theorem runeAt_width (s : ByteArray) (i : Nat) : (runeAt s i).2 ≤ s.size - i ∧ (runeAt s i).1 ≤ 1114111 := by
 have := runeF_width (s.extract i s.size)
 rw [size_from] at this
 exact ⟨this.1, this.2.2⟩
theorem runesFrom_fuel (s : ByteArray) : ∀ (f g i : Nat), s.size - i ≤ f → s.size - i ≤ g → runesFrom s f i = runesFrom s g i
 | 0, 0, _, _, _ => rfl
 | 0, g + 1, i, h, _ => by rw [runesFrom, runesFrom, if_pos (by omega)]
 | f + 1, 0, i, _, h => by rw [runesFrom, runesFrom, if_pos (by omega)]
 | f + 1, g + 1, i, h1, h2 => by
  rw [runesFrom, runesFrom]
  by_cases h0 : s.size ≤ i
  ·rw [if_pos h0, if_pos h0]
  ·rw [if_neg h0, if_neg h0]
   by_cases hk : (runeAt s i).2 = 0
   ·rw [if_pos hk, if_pos hk]
   ·rw [if_neg hk, if_neg hk, runesFrom_fuel s f g _ (by omega) (by omega)]
theorem runesOf_end {s : ByteArray} {i : Nat} (h : s.size ≤ i) : runesOf s i = some [] := by
 unfold runesOf
 rw [show s.size - i = 0 by omega]
 rfl
theorem runesOf_none {s : ByteArray} {i : Nat} (h : i < s.size) (hk : (runeAt s i).2 = 0) : runesOf s i = none := by
 unfold runesOf
 obtain ⟨f, hf⟩ : ∃ f, s.size - i = f + 1 := ⟨s.size - i - 1, by omega⟩
 rw [hf, runesFrom, if_neg (by omega), if_pos hk]
theorem runesOf_step {s : ByteArray} {i : Nat} (h : i < s.size) (hk : (runeAt s i).2 ≠ 0) : runesOf s i = (runesOf s (i + (runeAt s i).2)).map ((runeAt s i).1 :: ·) := by
 unfold runesOf
 obtain ⟨f, hf⟩ : ∃ f, s.size - i = f + 1 := ⟨s.size - i - 1, by omega⟩
 conv => lhs; rw [hf, runesFrom, if_neg (by omega), if_neg hk]
 rw [runesFrom_fuel s f (s.size - (i + (runeAt s i).2)) _ (by omega) (Nat.le_refl _)]
def RunesAt (s : ByteArray) (rs : List Nat) (i : Nat) : Prop := i ≤ s.size ∧ rs.length ≤ i ∧ (∀ r ∈ rs, r ≤ 1114111) ∧ runesOf s 0 = (runesOf s i).map (rs ++ ·)
theorem runesAt_zero (s : ByteArray) : RunesAt s [] 0 := ⟨Nat.zero_le _, Nat.le_refl _, fun r h => by simp at h, by simp⟩
theorem runesAt_end {s : ByteArray} {rs : List Nat} {i : Nat} (h : RunesAt s rs i) (hi : i = s.size) : runesOf s 0 = some rs := by
 rw [h.2.2.2, runesOf_end (by omega)]
 simp
theorem runesAt_bad {s : ByteArray} {rs : List Nat} {i : Nat} (h : RunesAt s rs i) (hi : i < s.size) (hk : (runeAt s i).2 = 0) : runesOf s 0 = none := by
 rw [h.2.2.2, runesOf_none hi hk]
 rfl
theorem runesAt_step {s : ByteArray} {rs : List Nat} {i : Nat} (h : RunesAt s rs i) (hi : i < s.size) (hk : (runeAt s i).2 ≠ 0) : RunesAt s (rs ++ [(runeAt s i).1]) (i + (runeAt s i).2) := by
 have hw := runeAt_width s i
 refine ⟨by omega, by rw [List.length_append, List.length_singleton]; have := h.2.1; omega, ?_, ?_⟩
 ·intro r hr
  rcases List.mem_append.1 hr with h1 | h1
  ·exact h.2.2.1 r h1
  ·rw [List.mem_singleton.1 h1]; exact hw.2
 ·rw [h.2.2.2, runesOf_step hi hk, Option.map_map]
  congr 1
  funext x
  simp
end Go.Proofs.YthjhofmjhmnddaaGreat.Ru
/-
 Plain facts on spans and their bytes. No program is named here.
-/
namespace Go.Proofs.YthjhofmjhmnddaaGreat
open Ru
def badRune (r : Nat) : Bool := decide (r < 32) || (decide (127 ≤ r) && decide (r ≤ 159))
def nameOk (s : ByteArray) : Bool := decide (1 ≤ s.size) && decide (s.size ≤ 32) && (match runesOf s 0 with | none => false | some rs => rs.all fun r => !badRune r)
def nameKind (s : ByteArray) : Int := if nameOk s = true then 0 else 5
theorem name_none {s : ByteArray} (h : runesOf s 0 = none) : nameOk s = false := by unfold nameOk; rw [h]; simp
theorem name_size {s : ByteArray} (h : s.size < 1 ∨ 32 < s.size) : nameOk s = false := by
 unfold nameOk
 rcases h with h | h
 ·rw [decide_eq_false (by omega)]; rfl
 ·rw [decide_eq_false (show ¬ s.size ≤ 32 by omega)]; simp
theorem name_bad {s : ByteArray} {rs : List Nat} (h : runesOf s 0 = some rs) {k : Nat} (hk : k < rs.length) (hb : badRune rs[k] = true) : nameOk s = false := by
 unfold nameOk
 rw [h]
 have : (rs.all fun r => !badRune r) = false := by
  rw [List.all_eq_false]
  exact ⟨rs[k], List.getElem_mem hk, by rw [hb]; decide⟩
 simp only [this, Bool.and_false]
theorem name_good {s : ByteArray} {rs : List Nat} (h : runesOf s 0 = some rs) (h1 : 1 ≤ s.size) (h2 : s.size ≤ 32) (hg : ∀ k (hk : k < rs.length), badRune rs[k] = false) : nameOk s = true := by
 unfold nameOk
 rw [h, decide_eq_true h1, decide_eq_true h2]
 have : (rs.all fun r => !badRune r) = true := by
  rw [List.all_eq_true]
  intro r hr
  obtain ⟨k, hk, rfl⟩ := List.getElem_of_mem hr
  rw [hg k hk]; rfl
 simp only [this, Bool.and_true]
theorem kind_bad {s : ByteArray} (h : nameOk s = false) : nameKind s = 5 := by unfold nameKind; rw [h]; rfl
theorem kind_good {s : ByteArray} (h : nameOk s = true) : nameKind s = 0 := by unfold nameKind; rw [h]; rfl
structure SpanD where
 trace : Nat
 id : Nat
 parent : Nat
 start : Nat
 len : Nat
 service : ByteArray
 name : ByteArray
 fail : Bool
structure SpanD.Wf (s : SpanD) : Prop where
 trace : s.trace < 18446744073709551616
 id : s.id < 18446744073709551616
 parent : s.parent < 18446744073709551616
 start : s.start < 18446744073709551616
 len : s.len < 18446744073709551616
 service : s.service.size ≤ 9223372036854775807
 name : s.name.size ≤ 9223372036854775807
def SpanD.zero : SpanD := ⟨0, 0, 0, 0, 0, ⟨#[]⟩, ⟨#[]⟩, false⟩
def argBad (s : SpanD) : Bool := decide (s.trace = 0) || decide (s.id = 0) || decide (1099511627776 < s.start) || decide (1099511627776 < s.len)
def rightF (s : SpanD) : Int := if argBad s = true then 1 else if nameOk s.service = true ∧ nameOk s.name = true then 0 else 5
theorem right_arg {s : SpanD} (h : argBad s = true) : rightF s = 1 := by unfold rightF; rw [if_pos h]
theorem right_name {s : SpanD} (h : argBad s = false) (hn : nameOk s.service = false ∨ nameOk s.name = false) : rightF s = 5 := by
 unfold rightF
 rw [if_neg (by rw [h]; decide), if_neg]
 rintro ⟨h1, h2⟩
 rcases hn with hn | hn
 ·rw [hn] at h1; cases h1
 ·rw [hn] at h2; cases h2
theorem right_ok {s : SpanD} (h : argBad s = false) (h1 : nameOk s.service = true) (h2 : nameOk s.name = true) : rightF s = 0 := by
 unfold rightF
 rw [if_neg (by rw [h]; decide), if_pos ⟨h1, h2⟩]
theorem right_zero {s : SpanD} (h : rightF s = 0) : argBad s = false ∧ nameOk s.service = true ∧ nameOk s.name = true := by
 cases ha : argBad s
 ·by_cases hn : nameOk s.service = true ∧ nameOk s.name = true
  ·exact ⟨rfl, hn⟩
  ·unfold rightF at h
   rw [if_neg (by rw [ha]; decide), if_neg hn] at h
   cases h
 ·rw [right_arg ha] at h; cases h
theorem arg_yes {s : SpanD} (h : argBad s = true) : s.trace = 0 ∨ (s.trace ≠ 0 ∧ s.id = 0) ∨ (s.trace ≠ 0 ∧ s.id ≠ 0 ∧ 1099511627776 < s.start) ∨ (s.trace ≠ 0 ∧ s.id ≠ 0 ∧ s.start ≤ 1099511627776 ∧ 1099511627776 < s.len) := by
 unfold argBad at h
 simp at h
 omega
theorem arg_no {s : SpanD} (h : argBad s = false) : s.trace ≠ 0 ∧ s.id ≠ 0 ∧ s.start ≤ 1099511627776 ∧ s.len ≤ 1099511627776 := by
 unfold argBad at h
 simp at h
 omega
/-! ### numbers as bytes, the highest first -/
def byteOf (n i : Nat) : UInt8 := UInt8.ofNat (n / 256 ^ i % 256)
def eightK (n : Nat) : Nat → List UInt8
 | 0 => []
 | k + 1 => eightK n k ++ [byteOf n (7 - k)]
def eight (n : Nat) : List UInt8 := eightK n 8
def numB (l : List UInt8) : Nat → Nat
 | 0 => 0
 | k + 1 => numB l k * 256 + (l.getD k 0).toNat
end Go.Proofs.YthjhofmjhmnddaaGreat
/-
 Plain facts on the cutting of a span's bytes. No program's function is named here.
-/
namespace Go.Proofs.YthjhofmjhmnddaaGreat
def cutTextF (l : List UInt8) : Int × ByteArray × List UInt8 :=
 if l = [] then (3, ByteArray.empty, [])
 else if (l.getD 0 0).toNat < 1 ∨ 32 < (l.getD 0 0).toNat then (6, ByteArray.empty, [])
 else if l.length - 1 < (l.getD 0 0).toNat then (3, ByteArray.empty, [])
 else (0, strOf ((l.take ((l.getD 0 0).toNat + 1)).drop 1), l.drop ((l.getD 0 0).toNat + 1))
def numsOf (l : List UInt8) (sv nm : ByteArray) : SpanD :=
 ⟨numB l 8, numB (l.drop 8) 8, numB (l.drop 16) 8, numB (l.drop 24) 8, numB (l.drop 32) 8, sv, nm, decide ((l.getD 40 0).toNat = 1)⟩
def cutSpanF (l : List UInt8) : Int × SpanD × List UInt8 :=
 if l.length < 41 then (3, SpanD.zero, [])
 else if 1 < (l.getD 40 0).toNat then (6, SpanD.zero, [])
 else if (cutTextF (l.drop 41)).1 ≠ 0 then ((cutTextF (l.drop 41)).1, SpanD.zero, [])
 else if (cutTextF (cutTextF (l.drop 41)).2.2).1 ≠ 0 then ((cutTextF (cutTextF (l.drop 41)).2.2).1, SpanD.zero, [])
 else if rightF (numsOf l (cutTextF (l.drop 41)).2.1 (cutTextF (cutTextF (l.drop 41)).2.2).2.1) ≠ 0 then (rightF (numsOf l (cutTextF (l.drop 41)).2.1 (cutTextF (cutTextF (l.drop 41)).2.2).2.1), SpanD.zero, [])
 else (0, numsOf l (cutTextF (l.drop 41)).2.1 (cutTextF (cutTextF (l.drop 41)).2.2).2.1, (cutTextF (cutTextF (l.drop 41)).2.2).2.2)
end Go.Proofs.YthjhofmjhmnddaaGreat
/-
 Plain facts on names as the program goes through them: by the model's own decoding, the rune fffd looked at by its bytes. No program is named here.
-/
namespace Go.Proofs.YthjhofmjhmnddaaGreat
open Ru
open Go.Lib (decodeN)
theorem get_beyond (s : ByteArray) (k : Nat) (h : s.size ≤ k) : s.get! k = 0 := by
 rw [← Lib.getD_get!']
 simp only [List.getD_eq_getElem?_getD]
 rw [List.getElem?_eq_none (by simpa using h)]
 rfl
theorem get_from (s : ByteArray) (i j : Nat) (h : i ≤ s.size) : (s.extract i s.size).get! j = s.get! (i + j) := by
 by_cases hj : j < s.size - i
 ·rw [get_eq _ _ (by rw [size_from]; exact hj), get_eq _ _ (by omega)]
  simp [ByteArray.getElem_extract]
 ·rw [get_beyond _ _ (by rw [size_from]; omega), get_beyond _ _ (by omega)]
theorem runeAt_decode (s : ByteArray) (i : Nat) (h : i < s.size) : runeAt s i = if Utf8.decode s i = (65533, 1) then (0, 0) else Utf8.decode s i := by
 unfold runeAt runeF runeN
 rw [size_from, get_from s i 0 (by omega), get_from s i 1 (by omega), get_from s i 2 (by omega), get_from s i 3 (by omega), Lib.decode_at, Nat.add_zero, if_neg (by omega)]
theorem runeAt_plain {s : ByteArray} {i : Nat} (h : i < s.size) (hr : (Utf8.decode s i).1 ≠ 65533) : runeAt s i = Utf8.decode s i := by
 rw [runeAt_decode s i h, if_neg]
 intro e
 rw [e] at hr
 exact hr rfl
theorem decode_whole (n b3 : Nat) (h : 3 ≤ n) : decodeN n 239 191 189 b3 = (65533, 3) := by
 unfold decodeN
 rw [if_neg (by omega), if_neg (by omega), if_pos (by omega), if_pos (by omega)]
theorem decode_part (n b0 b1 b2 b3 : Nat) : (decodeN n b0 b1 b2 b3).1 = 65533 → ¬ (3 ≤ n ∧ b0 = 239 ∧ b1 = 191 ∧ b2 = 189) → (decodeN n b0 b1 b2 b3).2 = 1 := by
 unfold decodeN
 repeat' split
 all_goals
  intro h1 h2
  first | rfl | (exfalso; simp only at h1; omega)
def fffdAt (s : ByteArray) (i : Nat) : Bool := Lib.hasPrefix (s.extract i s.size).data.toList [239, 191, 189]
theorem prefix3 (l : List UInt8) (a b c : UInt8) : Lib.hasPrefix l [a, b, c] = true ↔ 3 ≤ l.length ∧ l.getD 0 0 = a ∧ l.getD 1 0 = b ∧ l.getD 2 0 = c := by
 match l with
 | [] => simp [Lib.hasPrefix]
 | [x] => simp [Lib.hasPrefix]
 | [x, y] => simp [Lib.hasPrefix]
 | x :: y :: z :: l =>
  show (a == x && (b == y && (c == z && true))) = true ↔ 3 ≤ l.length + 1 + 1 + 1 ∧ x = a ∧ y = b ∧ z = c
  simp only [Bool.and_eq_true, beq_iff_eq, and_true]
  exact ⟨fun ⟨h1, h2, h3⟩ => ⟨by omega, h1.symm, h2.symm, h3.symm⟩, fun ⟨_, h1, h2, h3⟩ => ⟨h1.symm, h2.symm, h3.symm⟩⟩
theorem fffdAt_iff (s : ByteArray) (i : Nat) (h : i ≤ s.size) : fffdAt s i = true ↔ 3 ≤ s.size - i ∧ (s.get! i).toNat = 239 ∧ (s.get! (i + 1)).toNat = 191 ∧ (s.get! (i + 2)).toNat = 189 := by
 unfold fffdAt
 rw [prefix3, show (s.extract i s.size).data.toList.length = s.size - i by rw [← size_from]; simp]
 have g : ∀ j, (s.extract i s.size).data.toList.getD j 0 = s.get! (i + j) := fun j => by rw [Lib.getD_get!', get_from s i j h]
 rw [g 0, g 1, g 2, Nat.add_zero]
 simp only [← UInt8.toNat_inj]
 rfl
theorem runeAt_whole {s : ByteArray} {i : Nat} (h : i < s.size) (hf : fffdAt s i = true) : runeAt s i = (65533, 3) ∧ (Utf8.decode s i).2 = 3 := by
 obtain ⟨h3, h0, h1, h2⟩ := (fffdAt_iff s i (by omega)).1 hf
 have e : Utf8.decode s i = (65533, 3) := by
  rw [Lib.decode_at, h0, h1, h2]
  exact decode_whole _ _ h3
 rw [runeAt_decode s i h, e]
 exact ⟨rfl, rfl⟩
theorem runeAt_broken {s : ByteArray} {i : Nat} (h : i < s.size) (hr : (Utf8.decode s i).1 = 65533) (hf : fffdAt s i = false) : (runeAt s i).2 = 0 := by
 have h2 : (Utf8.decode s i).2 = 1 := by
  rw [Lib.decode_at] at hr ⊢
  refine decode_part _ _ _ _ _ hr ?_
  rintro ⟨a, b, c, d⟩
  rw [(fffdAt_iff s i (by omega)).2 ⟨a, b, c, d⟩] at hf
  cases hf
 rw [runeAt_decode s i h, if_pos (Prod.ext hr h2)]
theorem width_pos (s : ByteArray) (i : Nat) (h : i < s.size) : 1 ≤ (Utf8.decode s i).2 := by
 rw [Lib.decode_at]
 exact (decode_width _ _ _ _ _ (by omega)).1
def NameAt (s : ByteArray) (i : Nat) : Prop := ∃ rs, RunesAt s rs i ∧ ∀ r ∈ rs, badRune r = false
theorem nameAt_zero (s : ByteArray) : NameAt s 0 := ⟨[], runesAt_zero s, by simp⟩
theorem nameAt_le {s : ByteArray} {i : Nat} (h : NameAt s i) : i ≤ s.size := by
 obtain ⟨rs, h, _⟩ := h
 exact h.1
theorem nameAt_step {s : ByteArray} {i : Nat} (h : NameAt s i) (hi : i < s.size) (r n : Nat) (hd : runeAt s i = (r, n)) (hn : n ≠ 0) (hb : badRune r = false) : NameAt s (i + n) := by
 obtain ⟨rs, hr, hg⟩ := h
 have := runesAt_step hr hi (by rw [hd]; exact hn)
 rw [hd] at this
 refine ⟨_, this, ?_⟩
 intro x hx
 rcases List.mem_append.1 hx with h1 | h1
 ·exact hg x h1
 ·rw [List.mem_singleton.1 h1]; exact hb
theorem nameAt_broken {s : ByteArray} {i : Nat} (h : NameAt s i) (hi : i < s.size) (hk : (runeAt s i).2 = 0) : nameKind s = 5 := by
 obtain ⟨rs, hr, _⟩ := h
 exact kind_bad (name_none (runesAt_bad hr hi hk))
theorem nameAt_bad {s : ByteArray} {i : Nat} (h : NameAt s i) (hi : i < s.size) (r n : Nat) (hd : runeAt s i = (r, n)) (hn : n ≠ 0) (hb : badRune r = true) : nameKind s = 5 := by
 obtain ⟨rs, hr, _⟩ := h
 have h1 := runesAt_step hr hi (by rw [hd]; exact hn)
 rw [hd] at h1
 cases ho : runesOf s 0 with
 | none => exact kind_bad (name_none ho)
 | some all =>
  have h2 := h1.2.2.2
  rw [ho] at h2
  cases h3 : runesOf s (i + n) with
  | none => rw [h3] at h2; cases h2
  | some t =>
   rw [h3] at h2
   injection h2 with h2
   have hk : rs.length < all.length := by rw [h2]; simp
   refine kind_bad (name_bad ho hk ?_)
   have : all[rs.length]'hk = r := by simp [h2]
   rw [this]; exact hb
theorem nameAt_end {s : ByteArray} (h : NameAt s s.size) (h1 : 1 ≤ s.size) (h2 : s.size ≤ 32) : nameKind s = 0 := by
 obtain ⟨rs, hr, hg⟩ := h
 exact kind_good (name_good (runesAt_end hr rfl) h1 h2 fun k hk => hg _ (List.getElem_mem hk))
end Go.Proofs.YthjhofmjhmnddaaGreat
