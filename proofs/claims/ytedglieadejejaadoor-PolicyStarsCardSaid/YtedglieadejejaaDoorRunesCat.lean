/-
  Plain facts on the runes of two texts, one behind the other; a rune that is an ASCII one is its byte.
-/
import Derived.Test.YtedglieadejejaaDoorRunes
namespace Go.Proofs.YtedglieadejejaaDoor
open Go.RowKit Ru
open Go.Lib (decodeN)

theorem decode_more {n n' b0 b1 b2 b3 c1 c2 c3 r k : Nat} (h : decodeN n b0 b1 b2 b3 = (r, k)) (hv : ¬ (r = 65533 ∧ k = 1)) (hn : n ≤ n') (h1 : 1 < k → c1 = b1) (h2 : 2 < k → c2 = b2) (h3 : 3 < k → c3 = b3) :
    decodeN n' b0 c1 c2 c3 = (r, k) := by
  have bad : ∀ {x : Nat × Nat}, x = (65533, 1) → x = (r, k) → False := fun e1 e2 => hv (by rw [e1] at e2; cases e2; exact ⟨rfl, rfl⟩)
  unfold decodeN at h ⊢
  by_cases q1 : b0 < 128
  · rw [if_pos q1] at h ⊢
    exact h
  rw [if_neg q1] at h ⊢
  by_cases q2 : b0 / 32 = 6 ∧ (1 < n ∧ b1 / 64 = 2)
  · rw [if_pos q2] at h
    by_cases q : b0 % 32 * 64 + b1 % 64 ≥ 128
    · rw [if_pos q] at h
      have hk : k = 2 := (congrArg Prod.snd h).symm
      obtain rfl := h1 (by omega)
      rw [if_pos ⟨q2.1, by omega, q2.2.2⟩, if_pos q]
      exact h
    · rw [if_neg q] at h
      exact (bad rfl h).elim
  rw [if_neg q2] at h
  by_cases q3 : b0 / 16 = 14 ∧ (1 < n ∧ b1 / 64 = 2) ∧ (2 < n ∧ b2 / 64 = 2)
  · rw [if_pos q3] at h
    split at h
    · rename_i q
      have hk : k = 3 := (congrArg Prod.snd h).symm
      obtain rfl := h1 (by omega)
      obtain rfl := h2 (by omega)
      rw [if_neg (by omega), if_pos ⟨q3.1, ⟨by omega, q3.2.1.2⟩, by omega, q3.2.2.2⟩, if_pos q]
      exact h
    · exact (bad rfl h).elim
  rw [if_neg q3] at h
  by_cases q4 : b0 / 8 = 30 ∧ (1 < n ∧ b1 / 64 = 2) ∧ (2 < n ∧ b2 / 64 = 2) ∧ (3 < n ∧ b3 / 64 = 2)
  · rw [if_pos q4] at h
    split at h
    · rename_i q
      have hk : k = 4 := (congrArg Prod.snd h).symm
      obtain rfl := h1 (by omega)
      obtain rfl := h2 (by omega)
      obtain rfl := h3 (by omega)
      rw [if_neg (by omega), if_neg (by omega), if_pos ⟨q4.1, ⟨by omega, q4.2.1.2⟩, ⟨by omega, q4.2.2.1.2⟩, by omega, q4.2.2.2.2⟩, if_pos q]
      exact h
    · exact (bad rfl h).elim
  rw [if_neg q4] at h
  exact (bad rfl h).elim
theorem get_left (a b : ByteArray) (j : Nat) (h : j < a.size) : (a ++ b).get! j = a.get! j := by
  rw [get_eq _ _ (by rw [ByteArray.size_append]; omega), get_eq _ _ h, ByteArray.getElem_append_left h]
theorem get_right (a b : ByteArray) (j : Nat) : (a ++ b).get! (a.size + j) = b.get! j := by
  by_cases h : j < b.size
  · rw [get_eq _ _ (by rw [ByteArray.size_append]; omega), get_eq _ _ h, ByteArray.getElem_append_right (by omega)]
    simp
  · rw [get_beyond _ _ (by rw [ByteArray.size_append]; omega), get_beyond _ _ (by omega)]
theorem runeAt_left {a b : ByteArray} {i : Nat} (h : i < a.size) (hk : (runeAt a i).2 ≠ 0) : runeAt (a ++ b) i = runeAt a i := by
  have hw := runeAt_width a i
  have hi2 : i < (a ++ b).size := by rw [ByteArray.size_append]; omega
  have hd : runeAt a i = Utf8.decode a i := by
    rw [runeAt_decode a i h]
    rw [runeAt_decode a i h] at hk
    split at hk
    · exact absurd rfl hk
    · rename_i hb
      rw [if_neg hb]
  have hv : ¬ ((runeAt a i).1 = 65533 ∧ (runeAt a i).2 = 1) := by
    rintro ⟨e1, e2⟩
    have e : Utf8.decode a i = (65533, 1) := by rw [← hd]; exact Prod.ext e1 e2
    rw [runeAt_decode a i h, if_pos e] at hk
    exact hk rfl
  have hdl := hd.symm
  rw [Lib.decode_at] at hdl
  generalize hrk : runeAt a i = rk at *
  obtain ⟨r, k⟩ := rk
  have e : Utf8.decode (a ++ b) i = (r, k) := by
    rw [Lib.decode_at, get_left a b i h]
    refine decode_more hdl hv (by rw [ByteArray.size_append]; omega) ?_ ?_ ?_
    · intro h1; rw [get_left a b (i + 1) (by simp only at hw; omega)]
    · intro h1; rw [get_left a b (i + 2) (by simp only at hw; omega)]
    · intro h1; rw [get_left a b (i + 3) (by simp only at hw; omega)]
  rw [runeAt_decode _ _ hi2, e, if_neg]
  intro e2
  cases e2
  exact hv ⟨rfl, rfl⟩
theorem runeAt_right (a b : ByteArray) (i : Nat) (h : i < b.size) : runeAt (a ++ b) (a.size + i) = runeAt b i := by
  rw [runeAt_decode _ _ (by rw [ByteArray.size_append]; omega), runeAt_decode _ _ h, Lib.decode_at, Lib.decode_at, get_right, Nat.add_assoc, Nat.add_assoc, Nat.add_assoc, get_right, get_right, get_right, show (a ++ b).size - (a.size + i) = b.size - i by rw [ByteArray.size_append]; omega]
theorem runes_right (a b : ByteArray) : ∀ f i, b.size - i ≤ f → runesOf (a ++ b) (a.size + i) = runesOf b i
  | 0, i, h => by rw [runesOf_end (s := b) (i := i) (by omega), runesOf_end (s := a ++ b) (i := a.size + i) (by rw [ByteArray.size_append]; omega)]
  | f + 1, i, h => by
    by_cases hi : b.size ≤ i
    · rw [runesOf_end hi, runesOf_end (by rw [ByteArray.size_append]; omega)]
    · have e := runeAt_right a b i (by omega)
      have hl : a.size + i < (a ++ b).size := by rw [ByteArray.size_append]; omega
      by_cases hk : (runeAt b i).2 = 0
      · rw [runesOf_none (by omega) hk, runesOf_none hl (by rw [e]; exact hk)]
      · rw [runesOf_step (by omega) hk, runesOf_step hl (by rw [e]; exact hk), e, Nat.add_assoc, runes_right a b f _ (by omega)]
theorem runes_left (a b : ByteArray) : ∀ f i rs, a.size - i ≤ f → i ≤ a.size → runesOf a i = some rs → runesOf (a ++ b) i = (runesOf b 0).map (rs ++ ·)
  | 0, i, rs, h, hi, hr => by
    rw [runesOf_end (by omega)] at hr
    cases hr
    obtain rfl : i = a.size := by omega
    have := runes_right a b b.size 0 (by omega)
    rw [Nat.add_zero] at this
    rw [this]
    simp
  | f + 1, i, rs, h, hi, hr => by
    by_cases he : i = a.size
    · subst he
      rw [runesOf_end (Nat.le_refl _)] at hr
      cases hr
      have := runes_right a b b.size 0 (by omega)
      rw [Nat.add_zero] at this
      rw [this]
      simp
    · have hlt : i < a.size := by omega
      by_cases hk : (runeAt a i).2 = 0
      · rw [runesOf_none hlt hk] at hr; cases hr
      · rw [runesOf_step hlt hk] at hr
        obtain ⟨rs', hr', rfl⟩ := Option.map_eq_some_iff.1 hr
        have hw := runeAt_width a i
        have e := runeAt_left (b := b) hlt hk
        rw [runesOf_step (by rw [ByteArray.size_append]; omega) (by rw [e]; exact hk), e, runes_left a b f _ rs' (by omega) (by omega) hr', Option.map_map]
        rfl
theorem runes_cat {a b : ByteArray} {ra rb : List Nat} (ha : runesOf a 0 = some ra) (hb : runesOf b 0 = some rb) : runesOf (a ++ b) 0 = some (ra ++ rb) := by
  rw [runes_left a b a.size 0 ra (by omega) (by omega) ha, hb]
  rfl
theorem decode_low {n b0 b1 b2 b3 : Nat} (h : (decodeN n b0 b1 b2 b3).1 < 128) : b0 = (decodeN n b0 b1 b2 b3).1 ∧ (decodeN n b0 b1 b2 b3).2 = 1 := by
  unfold decodeN at h ⊢
  repeat' split
  all_goals first | (exact ⟨rfl, rfl⟩) | (exfalso; revert h; repeat' split) <;> (try intro h; try simp only at h; omega)
/-- Where no byte is this ASCII one, no rune is. -/
theorem runes_no (s : ByteArray) (c : Nat) (hc : c < 128) (hno : ∀ i, i < s.size → (s.get! i).toNat ≠ c) : ∀ f i rs, s.size - i ≤ f → runesOf s i = some rs → ∀ r ∈ rs, r ≠ c
  | 0, i, rs, h, hr => by
    rw [runesOf_end (by omega)] at hr
    cases hr
    simp
  | f + 1, i, rs, h, hr => by
    by_cases hi : s.size ≤ i
    · rw [runesOf_end hi] at hr
      cases hr
      simp
    · have hlt : i < s.size := by omega
      by_cases hk : (runeAt s i).2 = 0
      · rw [runesOf_none hlt hk] at hr; cases hr
      · rw [runesOf_step hlt hk] at hr
        obtain ⟨rs', hr', rfl⟩ := Option.map_eq_some_iff.1 hr
        intro r hm
        rcases List.mem_cons.1 hm with rfl | hm
        · intro e
          have hd : runeAt s i = Utf8.decode s i := by
            rw [runeAt_decode s i hlt]
            rw [runeAt_decode s i hlt] at hk
            split at hk
            · exact absurd rfl hk
            · rename_i hb
              rw [if_neg hb]
          rw [hd, Lib.decode_at] at e
          have := decode_low (by rw [e]; exact hc)
          rw [e] at this
          exact hno i hlt this.1
        · exact runes_no s c hc hno f _ rs' (by omega) hr' r hm
end Go.Proofs.YtedglieadejejaaDoor
