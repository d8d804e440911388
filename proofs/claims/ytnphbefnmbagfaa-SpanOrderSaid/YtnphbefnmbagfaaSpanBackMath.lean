/-
  Plain facts on spans that are put and cut: there and back, and cut off.
-/
import Derived.Test.YtnphbefnmbagfaaRefPut
import Derived.Test.YtnphbefnmbagfaaSpanCut
namespace Go.Proofs.Ytnphbefnmbagfaa
open Go.RowKit Ru

theorem cutText_put {s : ByteArray} (h1 : 1 ≤ s.size) (h2 : s.size ≤ 32) (r : List UInt8) : cutTextF (textF s ++ r) = (0, s, r) := by
  have hsz : (UInt8.ofNat s.size).toNat = s.size := by rw [UInt8.toNat_ofNat']; omega
  have hl : (textF s ++ r).getD 0 0 = UInt8.ofNat s.size := rfl
  rw [cutText_ok (by simp [textF]) (by rw [hl, hsz]; omega) (by rw [hl, hsz, List.length_append, textF_length]; omega), hl, hsz,
    List.take_left' (by rw [textF_length]; omega), List.drop_left' (by rw [textF_length]; omega)]
  rw [show (textF s).drop 1 = strB s from rfl, strOf_strB]
theorem cutText_take {s : ByteArray} (h1 : 1 ≤ s.size) (h2 : s.size ≤ 32) (r : List UInt8) {k : Nat} (hk : k < 1 + s.size) : cutTextF ((textF s ++ r).take k) = (3, ByteArray.empty, []) := by
  have hsz : (UInt8.ofNat s.size).toNat = s.size := by rw [UInt8.toNat_ofNat']; omega
  rcases k with _ | j
  · rfl
  · have hl : ((textF s ++ r).take (j + 1)).getD 0 0 = UInt8.ofNat s.size := rfl
    have hlen : ((textF s ++ r).take (j + 1)).length = j + 1 := by rw [List.length_take, List.length_append, textF_length]; omega
    rw [cutText_short (by intro e; rw [e] at hlen; cases hlen) (by rw [hl, hsz]; omega) (by rw [hl, hsz, hlen]; omega)]
theorem cutText_back (m : List UInt8) (h : (cutTextF m).1 = 0) : textF (cutTextF m).2.1 ++ (cutTextF m).2.2 = m := by
  by_cases h0 : m = []
  · subst h0; cases h
  by_cases h1 : (m.getD 0 0).toNat < 1 ∨ 32 < (m.getD 0 0).toNat
  · rw [cutText_form h0 h1] at h; cases h
  by_cases h2 : m.length - 1 < (m.getD 0 0).toNat
  · rw [cutText_short h0 h1 h2] at h; cases h
  rw [cutText_ok h0 h1 h2]
  clear h
  rcases m with _ | ⟨a, t⟩
  · exact absurd rfl h0
  · have ha : (a :: t).getD 0 0 = a := rfl
    rw [ha] at h1 h2 ⊢
    rw [List.length_cons] at h2
    simp only [List.take_succ_cons, List.drop_succ_cons, List.drop_zero]
    unfold textF
    rw [strB_strOf, strOf_size, List.length_take, Nat.min_eq_left (by omega), UInt8.ofNat_toNat, List.cons_append, List.take_append_drop]

theorem headK_five (s : SpanD) : headK s 5 = eight s.trace ++ (eight s.id ++ (eight s.parent ++ (eight s.start ++ eight s.len))) := by
  simp [headK, numsN]
theorem putF_eq (s : SpanD) : putF s = eight s.trace ++ (eight s.id ++ (eight s.parent ++ (eight s.start ++ (eight s.len ++ (flag s.fail :: (textF s.service ++ textF s.name)))))) := by
  unfold putF
  rw [headK_five]
  simp only [List.append_assoc, List.cons_append]
  rfl
theorem putF_length (s : SpanD) : (putF s).length = 43 + s.service.size + s.name.size := by
  rw [putF_eq]
  simp only [List.length_append, eight_length, List.length_cons, textF_length]
  omega
theorem drop8 (n : Nat) (t : List UInt8) : (eight n ++ t).drop 8 = t := List.drop_left' (eight_length n)
/-- The bytes of a span's numbers, with whatever behind. -/
theorem nums_put {s : SpanD} (h : s.Wf) (t : List UInt8) (sv nm : ByteArray) :
    numsOf (eight s.trace ++ (eight s.id ++ (eight s.parent ++ (eight s.start ++ (eight s.len ++ (flag s.fail :: t)))))) sv nm = ⟨s.trace, s.id, s.parent, s.start, s.len, sv, nm, s.fail⟩ := by
  have d16 : ∀ l : List UInt8, l.drop 16 = (l.drop 8).drop 8 := fun l => by rw [List.drop_drop]
  have d24 : ∀ l : List UInt8, l.drop 24 = ((l.drop 8).drop 8).drop 8 := fun l => by rw [List.drop_drop, List.drop_drop]
  have d32 : ∀ l : List UInt8, l.drop 32 = (((l.drop 8).drop 8).drop 8).drop 8 := fun l => by rw [List.drop_drop, List.drop_drop, List.drop_drop]
  have g40 : ∀ l : List UInt8, l.getD 40 0 = (((((l.drop 8).drop 8).drop 8).drop 8).drop 8).getD 0 0 := fun l => by
    simp only [List.drop_drop, List.getD_eq_getElem?_getD, List.getElem?_drop]
  unfold numsOf
  rw [d16, d24, d32, g40]
  simp only [drop8]
  rw [numB_eight _ h.trace, numB_eight _ h.id, numB_eight _ h.parent, numB_eight _ h.start, numB_eight _ h.len]
  congr 1
  cases s.fail <;> rfl
theorem drop41 (s : SpanD) (t : List UInt8) : (eight s.trace ++ (eight s.id ++ (eight s.parent ++ (eight s.start ++ (eight s.len ++ (flag s.fail :: t)))))).drop 41 = t := by
  have d41 : ∀ l : List UInt8, l.drop 41 = (((((l.drop 8).drop 8).drop 8).drop 8).drop 8).drop 1 := fun l => by simp only [List.drop_drop]
  rw [d41]
  simp only [drop8]
  rfl
theorem get40 (s : SpanD) (t : List UInt8) : (eight s.trace ++ (eight s.id ++ (eight s.parent ++ (eight s.start ++ (eight s.len ++ (flag s.fail :: t)))))).getD 40 0 = flag s.fail := by
  have g40 : ∀ l : List UInt8, l.getD 40 0 = (((((l.drop 8).drop 8).drop 8).drop 8).drop 8).getD 0 0 := fun l => by
    simp only [List.drop_drop, List.getD_eq_getElem?_getD, List.getElem?_drop]
  rw [g40]
  simp only [drop8]
  rfl
theorem flag_le (b : Bool) : ¬ 1 < (flag b).toNat := by cases b <;> decide
/-- What was put is cut as it was. -/
theorem cutSpan_put {s : SpanD} (h : s.Wf) (hr : rightF s = 0) (r : List UInt8) : cutSpanF (putF s ++ r) = (0, s, r) := by
  obtain ⟨_, h1, h2⟩ := right_zero hr
  have n1 := name_sizes h1
  have n2 := name_sizes h2
  rw [putF_eq]
  simp only [List.append_assoc, List.cons_append]
  unfold cutSpanF
  rw [if_neg (by simp only [List.length_append, List.length_cons, eight_length]; omega), get40, if_neg (flag_le _), drop41, cutText_put n1.1 n1.2, if_neg (by simp), cutText_put n2.1 n2.2, if_neg (by simp), nums_put h, if_neg (by rw [hr]; simp)]
/-- .. and cut off anywhere they are too short. -/
theorem cutSpan_take {s : SpanD} (hr : rightF s = 0) {k : Nat} (hk : k < (putF s).length) : cutSpanF ((putF s).take k) = (3, SpanD.zero, []) := by
  obtain ⟨_, h1, h2⟩ := right_zero hr
  have n1 := name_sizes h1
  have n2 := name_sizes h2
  rw [putF_length] at hk
  by_cases h41 : k < 41
  · unfold cutSpanF
    rw [if_pos (by rw [List.length_take]; omega)]
  · have e : (putF s).take k = eight s.trace ++ (eight s.id ++ (eight s.parent ++ (eight s.start ++ (eight s.len ++ (flag s.fail :: (textF s.service ++ textF s.name).take (k - 41)))))) := by
      rw [putF_eq]
      have t8 : ∀ (n j : Nat) (t : List UInt8), 8 ≤ j → (eight n ++ t).take j = eight n ++ t.take (j - 8) := fun n j t hj => by
        rw [List.take_append, eight_length, List.take_of_length_le (by rw [eight_length]; omega)]
      rw [t8 _ _ _ (by omega), t8 _ _ _ (by omega), t8 _ _ _ (by omega), t8 _ _ _ (by omega), t8 _ _ _ (by omega), show k - 8 - 8 - 8 - 8 - 8 = k - 41 + 1 by omega, List.take_succ_cons]
    rw [e]
    unfold cutSpanF
    rw [if_neg (by simp only [List.length_append, List.length_cons, eight_length]; omega), get40, if_neg (flag_le _), drop41]
    by_cases hs : k - 41 < 1 + s.service.size
    · rw [cutText_take n1.1 n1.2 _ hs, if_pos (by simp)]
    · have e2 : (textF s.service ++ textF s.name).take (k - 41) = textF s.service ++ (textF s.name ++ []).take (k - 41 - (1 + s.service.size)) := by
        rw [List.append_nil, List.take_append, textF_length, List.take_of_length_le (by rw [textF_length]; omega)]
      rw [e2, cutText_put n1.1 n1.2, if_neg (by simp), cutText_take n2.1 n2.2 _ (by omega), if_pos (by simp)]

theorem numB_div (l : List UInt8) (k j : Nat) : numB l (k + j) / 256 ^ j = numB l k := by
  induction j with
  | zero => simp
  | succ j ih =>
    have hc := UInt8.toNat_lt (l.getD (k + j) 0)
    rw [← Nat.add_assoc, numB, Nat.pow_succ, Nat.mul_comm (256 ^ j) 256, ← Nat.div_div_eq_div_mul, show (numB l (k + j) * 256 + (l.getD (k + j) 0).toNat) / 256 = numB l (k + j) by omega, ih]
theorem eightK_numB (l : List UInt8) (h : 8 ≤ l.length) : ∀ k, k ≤ 8 → eightK (numB l 8) k = l.take k := by
  intro k
  induction k with
  | zero => intro _; simp [eightK]
  | succ k ih =>
    intro hk
    have e := numB_div l (k + 1) (7 - k)
    rw [show k + 1 + (7 - k) = 8 by omega] at e
    have hc := UInt8.toNat_lt (l.getD k 0)
    have hb : byteOf (numB l 8) (7 - k) = l.getD k 0 := by
      apply UInt8.toNat_inj.1
      rw [byteOf_toNat, e, numB]
      omega
    rw [eightK, ih (by omega), hb, List.take_succ_eq_append_getElem (by omega), List.getD_eq_getElem?_getD, List.getElem?_eq_getElem (by omega)]
    rfl
theorem eight_numB (l : List UInt8) (h : 8 ≤ l.length) : eight (numB l 8) = l.take 8 := eightK_numB l h 8 (Nat.le_refl _)
/-- What is cut is put as it was. -/
theorem cutSpan_back {l r : List UInt8} {s : SpanD} (h : cutSpanF l = (0, s, r)) : putF s ++ r = l ∧ rightF s = 0 := by
  unfold cutSpanF at h
  by_cases h1 : l.length < 41
  · rw [if_pos h1] at h; cases h
  by_cases h2 : 1 < (l.getD 40 0).toNat
  · rw [if_neg h1, if_pos h2] at h; cases h
  by_cases h3 : (cutTextF (l.drop 41)).1 = 0
  rotate_left
  · rw [if_neg h1, if_neg h2, if_pos h3] at h; injection h with h4; exact absurd h4 h3
  by_cases h4 : (cutTextF (cutTextF (l.drop 41)).2.2).1 = 0
  rotate_left
  · rw [if_neg h1, if_neg h2, if_neg (by rw [h3]; simp), if_pos h4] at h; injection h with h5; exact absurd h5 h4
  rw [if_neg h1, if_neg h2, if_neg (by rw [h3]; simp), if_neg (by rw [h4]; simp)] at h
  have b1 := cutText_back _ h3
  have b2 := cutText_back _ h4
  generalize (cutTextF (cutTextF (l.drop 41)).2.2).2.2 = r2 at *
  generalize (cutTextF (cutTextF (l.drop 41)).2.2).2.1 = t2 at *
  generalize (cutTextF (l.drop 41)).2.2 = r1 at *
  generalize (cutTextF (l.drop 41)).2.1 = t1 at *
  by_cases h5 : rightF (numsOf l t1 t2) = 0
  rotate_left
  · rw [if_pos h5] at h; injection h with h6; exact absurd h6 h5
  rw [if_neg (by rw [h5]; simp)] at h
  injection h with _ h
  injection h with hs hr
  subst hs hr
  refine ⟨?_, h5⟩
  have hfl : flag (decide ((l.getD 40 0).toNat = 1)) = l.getD 40 0 := by
    apply UInt8.toNat_inj.1
    rcases (show (l.getD 40 0).toNat = 0 ∨ (l.getD 40 0).toNat = 1 by omega) with e | e
    all_goals rw [e]; rfl
  rw [putF_eq]
  unfold numsOf
  simp only
  rw [hfl, eight_numB _ (by omega), eight_numB _ (by rw [List.length_drop]; omega), eight_numB _ (by rw [List.length_drop]; omega), eight_numB _ (by rw [List.length_drop]; omega), eight_numB _ (by rw [List.length_drop]; omega)]
  simp only [List.append_assoc, List.cons_append]
  rw [b2, b1]
  have h40 : l.drop 40 = l.getD 40 0 :: l.drop 41 := by
    rw [List.drop_eq_getElem_cons (by omega), List.getD_eq_getElem?_getD, List.getElem?_eq_getElem (by omega)]
    rfl
  rw [← h40]
  have j : ∀ (m : Nat), (l.drop m).take 8 ++ l.drop (m + 8) = l.drop m := fun m => by rw [← List.drop_drop, List.take_append_drop]
  rw [j 32, j 24, j 16, j 8, List.take_append_drop]
end Go.Proofs.Ytnphbefnmbagfaa
