/-
  Plain facts on runes: a string is valid exactly where it has runes; the conversion gives them.
-/
import Derived.Test.YtlkpofhfkhdheaaGreatDoorNameMath
import Derived.Test.YtlkpofhfkhdheaaGreatDoorRefName
import Derived.Test.YtlkpofhfkhdheaaGreatDoorCutStr
import Derived.Laws.IdiomStrings
import Derived.Lib.ValidLaws
namespace Go.Proofs.YtlkpofhfkhdheaaGreatDoor
open Go.RowKit Ru

theorem drop_from (s : ByteArray) (i : Nat) : (s.extract i s.size).data.toList = s.data.toList.drop i := by
  simp
  exact List.take_of_length_le (by simp)
theorem decode_from (s : ByteArray) (i : Nat) (h : i < s.size) : Utf8.decode (s.extract i s.size) 0 = Utf8.decode s i := by
  rw [Lib.decode_at, Lib.decode_at, size_from, get_from s i 0 (by omega), get_from s i (0 + 1) (by omega), get_from s i (0 + 2) (by omega), get_from s i (0 + 3) (by omega)]
  simp
theorem decodeL_drop (s : ByteArray) (i : Nat) (h : i < s.size) : Lib.decodeL (s.data.toList.drop i) = Utf8.decode s i := by
  rw [← decode_from s i h, ← drop_from s i]
  rfl
theorem valid_runes (s : ByteArray) : ∀ f i, s.size - i ≤ f → Lib.validD (s.data.toList.drop i) = (runesOf s i).isSome
  | 0, i, h => by
    rw [runesOf_end (by omega), List.drop_eq_nil_of_le (by simp; omega)]
    rfl
  | f + 1, i, h => by
    by_cases hi : s.size ≤ i
    · rw [runesOf_end hi, List.drop_eq_nil_of_le (by simpa using hi)]
      rfl
    · have hi : i < s.size := by omega
      have hne : s.data.toList.drop i ≠ [] := by simpa using hi
      have hw := width_pos s i hi
      rw [Lib.validD_step _ hne, decodeL_drop s i hi]
      by_cases hb : Utf8.decode s i = (65533, 1)
      · have hk : (runeAt s i).2 = 0 := by rw [runeAt_decode s i hi, if_pos hb]
        rw [runesOf_none hi hk, if_pos (by rw [hb]; exact ⟨rfl, rfl⟩)]
        rfl
      · have he : runeAt s i = Utf8.decode s i := by rw [runeAt_decode s i hi, if_neg hb]
        have hk : (runeAt s i).2 ≠ 0 := by rw [he]; omega
        rw [runesOf_step hi hk, if_neg (by rintro ⟨a, b⟩; exact hb (Prod.ext a b)), List.drop_drop, valid_runes s f _ (by omega), he]
        simp
theorem valid_some (s : ByteArray) : Lib.validD s.data.toList = (runesOf s 0).isSome := by
  have := valid_runes s s.size 0 (by omega)
  simpa using this
theorem conv_runes (s : ByteArray) : ∀ f i (acc : Array Value) rs, s.size - i ≤ f → runesOf s i = some rs → Conv.runesFrom s f i acc = acc ++ (runeVals rs).toArray
  | 0, i, acc, rs, h, hr => by
    rw [runesOf_end (by omega)] at hr
    cases hr
    simp [Conv.runesFrom, runeVals]
  | f + 1, i, acc, rs, h, hr => by
    unfold Conv.runesFrom
    by_cases hi : s.size ≤ i
    · rw [runesOf_end hi] at hr
      cases hr
      rw [if_neg (by omega)]
      simp [runeVals]
    · have hi : i < s.size := by omega
      have hw := width_pos s i hi
      rw [if_pos hi]
      by_cases hk : (runeAt s i).2 = 0
      · rw [runesOf_none hi hk] at hr; cases hr
      · have he : runeAt s i = Utf8.decode s i := by
          rw [runeAt_decode s i hi]
          rw [runeAt_decode s i hi] at hk
          split at hk
          · exact absurd rfl hk
          · rename_i hb
            rw [if_neg hb]
        rw [runesOf_step hi hk] at hr
        obtain ⟨rs', hr', rfl⟩ := Option.map_eq_some_iff.1 hr
        rw [he] at hr'
        simp only
        rw [conv_runes s f _ _ rs' (by omega) hr', he]
        simp [runeVals]
theorem conv_all {s : ByteArray} {rs : List Nat} (h : runesOf s 0 = some rs) : Conv.runesFrom s s.size 0 #[] = (runeVals rs).toArray := by
  rw [conv_runes s s.size 0 #[] rs (by omega) h]
  simp
end Go.Proofs.YtlkpofhfkhdheaaGreatDoor
