/-
  Plain facts on the cutting of a span's bytes. No program's function is named here.
-/
import Derived.Test.YtljlhaillmeedaaZGRA
import Derived.Lib.Strings
namespace Go.Proofs.Ytljlhaillmeedaa
set_option linter.unusedSimpArgs false
set_option linter.unusedVariables false

/-- Of a name's length and bytes: the kind, the text, what is behind. -/
def cutTextF (l : List UInt8) : Int × ByteArray × List UInt8 :=
  if l = [] then (3, ByteArray.empty, [])
  else if (l.getD 0 0).toNat < 1 ∨ 32 < (l.getD 0 0).toNat then (6, ByteArray.empty, [])
  else if l.length - 1 < (l.getD 0 0).toNat then (3, ByteArray.empty, [])
  else (0, strOf ((l.take ((l.getD 0 0).toNat + 1)).drop 1), l.drop ((l.getD 0 0).toNat + 1))
theorem cutText_none : cutTextF [] = (3, ByteArray.empty, []) := rfl
theorem cutText_form {l : List UInt8} (h : l ≠ []) (h1 : (l.getD 0 0).toNat < 1 ∨ 32 < (l.getD 0 0).toNat) : cutTextF l = (6, ByteArray.empty, []) := by unfold cutTextF; rw [if_neg h, if_pos h1]
theorem cutText_short {l : List UInt8} (h : l ≠ []) (h1 : ¬ ((l.getD 0 0).toNat < 1 ∨ 32 < (l.getD 0 0).toNat)) (h2 : l.length - 1 < (l.getD 0 0).toNat) : cutTextF l = (3, ByteArray.empty, []) := by unfold cutTextF; rw [if_neg h, if_neg h1, if_pos h2]
theorem cutText_ok {l : List UInt8} (h : l ≠ []) (h1 : ¬ ((l.getD 0 0).toNat < 1 ∨ 32 < (l.getD 0 0).toNat)) (h2 : ¬ l.length - 1 < (l.getD 0 0).toNat) :
    cutTextF l = (0, strOf ((l.take ((l.getD 0 0).toNat + 1)).drop 1), l.drop ((l.getD 0 0).toNat + 1)) := by unfold cutTextF; rw [if_neg h, if_neg h1, if_neg h2]
theorem cutText_kind (l : List UInt8) : (cutTextF l).1 = 0 ∨ ((cutTextF l).1 ≠ 0 ∧ (cutTextF l).2 = (ByteArray.empty, [])) := by
  unfold cutTextF
  repeat' split
  all_goals simp

/-- The span's bytes ahead of its texts are there. -/
def numsOf (l : List UInt8) (sv nm : ByteArray) : SpanD :=
  ⟨numB l 8, numB (l.drop 8) 8, numB (l.drop 16) 8, numB (l.drop 24) 8, numB (l.drop 32) 8, sv, nm, decide ((l.getD 40 0).toNat = 1)⟩
/-- What Cut answers: the kind, the span, what is behind. -/
def cutSpanF (l : List UInt8) : Int × SpanD × List UInt8 :=
  if l.length < 41 then (3, SpanD.zero, [])
  else if 1 < (l.getD 40 0).toNat then (6, SpanD.zero, [])
  else if (cutTextF (l.drop 41)).1 ≠ 0 then ((cutTextF (l.drop 41)).1, SpanD.zero, [])
  else if (cutTextF (cutTextF (l.drop 41)).2.2).1 ≠ 0 then ((cutTextF (cutTextF (l.drop 41)).2.2).1, SpanD.zero, [])
  else if rightF (numsOf l (cutTextF (l.drop 41)).2.1 (cutTextF (cutTextF (l.drop 41)).2.2).2.1) ≠ 0 then (rightF (numsOf l (cutTextF (l.drop 41)).2.1 (cutTextF (cutTextF (l.drop 41)).2.2).2.1), SpanD.zero, [])
  else (0, numsOf l (cutTextF (l.drop 41)).2.1 (cutTextF (cutTextF (l.drop 41)).2.2).2.1, (cutTextF (cutTextF (l.drop 41)).2.2).2.2)
theorem numB8_lt (l : List UInt8) : numB l 8 < 18446744073709551616 := numB_lt l 8
theorem numsOf_wf (l : List UInt8) (sv nm : ByteArray) (h1 : sv.size ≤ 9223372036854775807) (h2 : nm.size ≤ 9223372036854775807) : (numsOf l sv nm).Wf :=
  ⟨numB8_lt _, numB8_lt _, numB8_lt _, numB8_lt _, numB8_lt _, h1, h2⟩
end Go.Proofs.Ytljlhaillmeedaa

/-
  Plain facts on names as the program goes through them: by the model's own decoding, the rune fffd looked at by its bytes. No program is named here.
-/
namespace Go.Proofs.Ytljlhaillmeedaa
set_option linter.unusedSimpArgs false
set_option linter.unusedVariables false
open Ru
open Go.Lib (decodeN)

theorem get_beyond (s : ByteArray) (k : Nat) (h : s.size ≤ k) : s.get! k = 0 := by
  rw [← Lib.getD_get!']
  simp only [List.getD_eq_getElem?_getD]
  rw [List.getElem?_eq_none (by simpa using h)]
  rfl
theorem get_from (s : ByteArray) (i j : Nat) (h : i ≤ s.size) : (s.extract i s.size).get! j = s.get! (i + j) := by
  by_cases hj : j < s.size - i
  · rw [get_eq _ _ (by rw [size_from]; exact hj), get_eq _ _ (by omega)]
    simp [ByteArray.getElem_extract]
  · rw [get_beyond _ _ (by rw [size_from]; omega), get_beyond _ _ (by omega)]
/-- The rune at a place, by the model's decoding. -/
theorem runeAt_decode (s : ByteArray) (i : Nat) (h : i < s.size) : runeAt s i = if Utf8.decode s i = (65533, 1) then (0, 0) else Utf8.decode s i := by
  unfold runeAt runeF runeN
  rw [size_from, get_from s i 0 (by omega), get_from s i 1 (by omega), get_from s i 2 (by omega), get_from s i 3 (by omega), Lib.decode_at, Nat.add_zero, if_neg (by omega)]
theorem runeAt_plain {s : ByteArray} {i : Nat} (h : i < s.size) (hr : (Utf8.decode s i).1 ≠ 65533) : runeAt s i = Utf8.decode s i := by
  rw [runeAt_decode s i h, if_neg]
  intro e
  rw [e] at hr
  exact hr rfl
theorem decode_whole (n b3 : Nat) (h : 3 ≤ n) : decodeN n 239 191 189 b3 = (65533, 3) := by
  unfold decodeN
  rw [if_neg (by omega), if_neg (by omega), if_pos (by omega), if_pos (by omega)]
theorem decode_part (n b0 b1 b2 b3 : Nat) : (decodeN n b0 b1 b2 b3).1 = 65533 → ¬ (3 ≤ n ∧ b0 = 239 ∧ b1 = 191 ∧ b2 = 189) → (decodeN n b0 b1 b2 b3).2 = 1 := by
  unfold decodeN
  repeat' split
  all_goals
    intro h1 h2
    first | rfl | (exfalso; simp only at h1; omega)
/-- The three bytes of the rune fffd stand at this place. -/
def fffdAt (s : ByteArray) (i : Nat) : Bool := Lib.hasPrefix (s.extract i s.size).data.toList [239, 191, 189]
theorem prefix3 (l : List UInt8) (a b c : UInt8) : Lib.hasPrefix l [a, b, c] = true ↔ 3 ≤ l.length ∧ l.getD 0 0 = a ∧ l.getD 1 0 = b ∧ l.getD 2 0 = c := by
  match l with
  | [] => simp [Lib.hasPrefix]
  | [x] => simp [Lib.hasPrefix]
  | [x, y] => simp [Lib.hasPrefix]
  | x :: y :: z :: l =>
    show (a == x && (b == y && (c == z && true))) = true ↔ 3 ≤ l.length + 1 + 1 + 1 ∧ x = a ∧ y = b ∧ z = c
    simp only [Bool.and_eq_true, beq_iff_eq, and_true]
    exact ⟨fun ⟨h1, h2, h3⟩ => ⟨by omega, h1.symm, h2.symm, h3.symm⟩, fun ⟨_, h1, h2, h3⟩ => ⟨h1.symm, h2.symm, h3.symm⟩⟩
theorem fffdAt_iff (s : ByteArray) (i : Nat) (h : i ≤ s.size) : fffdAt s i = true ↔ 3 ≤ s.size - i ∧ (s.get! i).toNat = 239 ∧ (s.get! (i + 1)).toNat = 191 ∧ (s.get! (i + 2)).toNat = 189 := by
  unfold fffdAt
  rw [prefix3, show (s.extract i s.size).data.toList.length = s.size - i by rw [← size_from]; simp]
  have g : ∀ j, (s.extract i s.size).data.toList.getD j 0 = s.get! (i + j) := fun j => by rw [Lib.getD_get!', get_from s i j h]
  rw [g 0, g 1, g 2, Nat.add_zero]
  simp only [← UInt8.toNat_inj]
  rfl
theorem runeAt_whole {s : ByteArray} {i : Nat} (h : i < s.size) (hf : fffdAt s i = true) : runeAt s i = (65533, 3) ∧ (Utf8.decode s i).2 = 3 := by
  obtain ⟨h3, h0, h1, h2⟩ := (fffdAt_iff s i (by omega)).1 hf
  have e : Utf8.decode s i = (65533, 3) := by
    rw [Lib.decode_at, h0, h1, h2]
    exact decode_whole _ _ h3
  rw [runeAt_decode s i h, e]
  exact ⟨rfl, rfl⟩
theorem runeAt_broken {s : ByteArray} {i : Nat} (h : i < s.size) (hr : (Utf8.decode s i).1 = 65533) (hf : fffdAt s i = false) : (runeAt s i).2 = 0 := by
  have h2 : (Utf8.decode s i).2 = 1 := by
    rw [Lib.decode_at] at hr ⊢
    refine decode_part _ _ _ _ _ hr ?_
    rintro ⟨a, b, c, d⟩
    rw [(fffdAt_iff s i (by omega)).2 ⟨a, b, c, d⟩] at hf
    cases hf
  rw [runeAt_decode s i h, if_pos (Prod.ext hr h2)]
theorem width_pos (s : ByteArray) (i : Nat) (h : i < s.size) : 1 ≤ (Utf8.decode s i).2 := by
  rw [Lib.decode_at]
  exact (decode_width _ _ _ _ _ (by omega)).1
/-- What has been gone through up to place i is right, and none of it may not stand in a name. -/
def NameAt (s : ByteArray) (i : Nat) : Prop := ∃ rs, RunesAt s rs i ∧ ∀ r ∈ rs, badRune r = false
theorem nameAt_zero (s : ByteArray) : NameAt s 0 := ⟨[], runesAt_zero s, by simp⟩
theorem nameAt_le {s : ByteArray} {i : Nat} (h : NameAt s i) : i ≤ s.size := by
  obtain ⟨rs, h, _⟩ := h
  exact h.1
theorem nameAt_step {s : ByteArray} {i : Nat} (h : NameAt s i) (hi : i < s.size) (r n : Nat) (hd : runeAt s i = (r, n)) (hn : n ≠ 0) (hb : badRune r = false) : NameAt s (i + n) := by
  obtain ⟨rs, hr, hg⟩ := h
  have := runesAt_step hr hi (by rw [hd]; exact hn)
  rw [hd] at this
  refine ⟨_, this, ?_⟩
  intro x hx
  rcases List.mem_append.1 hx with h1 | h1
  · exact hg x h1
  · rw [List.mem_singleton.1 h1]; exact hb
theorem nameAt_broken {s : ByteArray} {i : Nat} (h : NameAt s i) (hi : i < s.size) (hk : (runeAt s i).2 = 0) : nameKind s = 5 := by
  obtain ⟨rs, hr, _⟩ := h
  exact kind_bad (name_none (runesAt_bad hr hi hk))
/-- A rune that may not stand in a name, wherever: it is none, whatever comes behind. -/
theorem nameAt_bad {s : ByteArray} {i : Nat} (h : NameAt s i) (hi : i < s.size) (r n : Nat) (hd : runeAt s i = (r, n)) (hn : n ≠ 0) (hb : badRune r = true) : nameKind s = 5 := by
  obtain ⟨rs, hr, _⟩ := h
  have h1 := runesAt_step hr hi (by rw [hd]; exact hn)
  rw [hd] at h1
  cases ho : runesOf s 0 with
  | none => exact kind_bad (name_none ho)
  | some all =>
    have h2 := h1.2.2.2
    rw [ho] at h2
    cases h3 : runesOf s (i + n) with
    | none => rw [h3] at h2; cases h2
    | some t =>
      rw [h3] at h2
      injection h2 with h2
      have hk : rs.length < all.length := by rw [h2]; simp
      refine kind_bad (name_bad ho hk ?_)
      have : all[rs.length]'hk = r := by simp [h2]
      rw [this]; exact hb
theorem nameAt_end {s : ByteArray} (h : NameAt s s.size) (h1 : 1 ≤ s.size) (h2 : s.size ≤ 32) : nameKind s = 0 := by
  obtain ⟨rs, hr, hg⟩ := h
  exact kind_good (name_good (runesAt_end hr rfl) h1 h2 fun k hk => hg _ (List.getElem_mem hk))
end Go.Proofs.Ytljlhaillmeedaa
