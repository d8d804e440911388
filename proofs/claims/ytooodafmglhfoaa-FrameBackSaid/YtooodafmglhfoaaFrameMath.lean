/-
  Plain facts on frames: a length's four bytes, the data, a sum's four bytes. No program is named here.
-/
import Derived.Test.YtooodafmglhfoaaCrcMath
namespace Go.Proofs.Ytooodafmglhfoaa.Fm
open Crc

/-- The number that a text begins with, its lowest byte first. -/
def numN : List UInt8 → Nat
  | a :: b :: c :: d :: _ => a.toNat + 256 * b.toNat + 65536 * c.toNat + 16777216 * d.toNat
  | _ => 0

theorem numN_lt (l : List UInt8) : numN l < 4294967296 := by
  match l with
  | [] | [_] | [_, _] | [_, _, _] => simp [numN]
  | a :: b :: c :: d :: _ =>
    have := UInt8.toNat_lt a; have := UInt8.toNat_lt b; have := UInt8.toNat_lt c; have := UInt8.toNat_lt d
    simp only [numN]; omega

theorem word_length (x : BitVec 32) : (word x).length = 4 := rfl

theorem numN_word (x : BitVec 32) (t : List UInt8) : numN (word x ++ t) = x.toNat := by
  have h := x.isLt
  simp only [word, List.cons_append, List.nil_append, numN, low_toNat, shr_toNat, Nat.reducePow]
  omega

/-- Four bytes are the bytes of their number. -/
theorem word_numN (l : List UInt8) (h : l.length = 4) : word (BitVec.ofNat 32 (numN l)) = l := by
  match l, h with
  | [a, b, c, d], _ =>
    have h1 := UInt8.toNat_lt a; have h2 := UInt8.toNat_lt b; have h3 := UInt8.toNat_lt c; have h4 := UInt8.toNat_lt d
    have hx : (BitVec.ofNat 32 (numN [a, b, c, d])).toNat = numN [a, b, c, d] := by
      rw [BitVec.toNat_ofNat]; exact Nat.mod_eq_of_lt (numN_lt _)
    generalize BitVec.ofNat 32 (numN [a, b, c, d]) = x at *
    simp only [numN] at hx
    have e : ∀ (c : UInt8) (y : BitVec 32), y.toNat % 256 = c.toNat → low y = c := by
      intro c y hy
      apply UInt8.toNat_inj.1
      rw [low_toNat, hy]
    unfold word
    rw [e a x (by omega), e b (x >>> 8) (by rw [shr_toNat]; omega), e c (x >>> 8 >>> 8) (by rw [shr_toNat, shr_toNat]; omega), e d (x >>> 8 >>> 8 >>> 8) (by rw [shr_toNat, shr_toNat, shr_toNat]; omega)]

theorem numN_take (l : List UInt8) (k : Nat) (h : 4 ≤ k) : numN (l.take k) = numN l := by
  match l with
  | [] => simp
  | [a] => rw [List.take_of_length_le (by simp; omega)]
  | [a, b] => rw [List.take_of_length_le (by simp; omega)]
  | [a, b, c] => rw [List.take_of_length_le (by simp; omega)]
  | a :: b :: c :: d :: t =>
    obtain ⟨k, rfl⟩ : ∃ j, k = j + 4 := ⟨k - 4, by omega⟩
    simp [numN]

/-- What Cut answers: the kind, the data, what is behind. -/
def cutF (l : List UInt8) : Int × List UInt8 × List UInt8 :=
  if l.length < 4 then (3, [], [])
  else if 8192 < numN l then (2, [], [])
  else if l.length < 4 + numN l + 4 then (3, [], [])
  else if (more 0#32 (l.take (4 + numN l))).toNat = numN (l.drop (4 + numN l)) then (0, (l.take (4 + numN l)).drop 4, l.drop (4 + numN l + 4))
  else (2, [], [])

theorem cut_few {l : List UInt8} (h : l.length < 4) : cutF l = (3, [], []) := by unfold cutF; rw [if_pos h]
theorem cut_long {l : List UInt8} (h : ¬ l.length < 4) (h1 : 8192 < numN l) : cutF l = (2, [], []) := by unfold cutF; rw [if_neg h, if_pos h1]
theorem cut_cut {l : List UInt8} (h : ¬ l.length < 4) (h1 : ¬ 8192 < numN l) (h2 : l.length < 4 + numN l + 4) : cutF l = (3, [], []) := by unfold cutF; rw [if_neg h, if_neg h1, if_pos h2]
theorem cut_ok {l : List UInt8} (h : ¬ l.length < 4) (h1 : ¬ 8192 < numN l) (h2 : ¬ l.length < 4 + numN l + 4) (h3 : (more 0#32 (l.take (4 + numN l))).toNat = numN (l.drop (4 + numN l))) :
    cutF l = (0, (l.take (4 + numN l)).drop 4, l.drop (4 + numN l + 4)) := by unfold cutF; rw [if_neg h, if_neg h1, if_neg h2, if_pos h3]
theorem cut_bad {l : List UInt8} (h : ¬ l.length < 4) (h1 : ¬ 8192 < numN l) (h2 : ¬ l.length < 4 + numN l + 4) (h3 : ¬ (more 0#32 (l.take (4 + numN l))).toNat = numN (l.drop (4 + numN l))) :
    cutF l = (2, [], []) := by unfold cutF; rw [if_neg h, if_neg h1, if_neg h2, if_neg h3]

/-- What is behind is shorter, and of the data it is told how long it is. -/
theorem cut_lengths {l : List UInt8} (h : (cutF l).1 = 0) : (cutF l).2.1.length ≤ 8192 ∧ (cutF l).2.1.length + 8 + (cutF l).2.2.length = l.length ∧ (cutF l).2.2 = l.drop ((cutF l).2.1.length + 8) := by
  by_cases h0 : l.length < 4
  · rw [cut_few h0] at h; cases h
  by_cases h1 : 8192 < numN l
  · rw [cut_long h0 h1] at h; cases h
  by_cases h2 : l.length < 4 + numN l + 4
  · rw [cut_cut h0 h1 h2] at h; cases h
  by_cases h3 : (more 0#32 (l.take (4 + numN l))).toNat = numN (l.drop (4 + numN l))
  · rw [cut_ok h0 h1 h2 h3]
    have hl : ((l.take (4 + numN l)).drop 4).length = numN l := by rw [List.length_drop, List.length_take]; omega
    refine ⟨?_, ?_, ?_⟩
    · show ((l.take (4 + numN l)).drop 4).length ≤ 8192
      omega
    · show ((l.take (4 + numN l)).drop 4).length + 8 + (l.drop (4 + numN l + 4)).length = l.length
      rw [hl, List.length_drop]; omega
    · show l.drop (4 + numN l + 4) = l.drop (((l.take (4 + numN l)).drop 4).length + 8)
      rw [hl]; congr 1; omega
  · rw [cut_bad h0 h1 h2 h3] at h; cases h
theorem cut_kind (l : List UInt8) : (cutF l).1 = 0 ∨ ((cutF l).1 ≠ 0 ∧ (cutF l).2 = ([], [])) := by
  unfold cutF
  repeat' split
  all_goals simp

theorem cut_le (l : List UInt8) : (cutF l).2.1.length ≤ l.length ∧ (cutF l).2.2.length ≤ l.length := by
  rcases cut_kind l with h | ⟨_, h⟩
  · have := cut_lengths h
    omega
  · rw [h]; simp

/-- The frame of data. -/
def framed (d : List UInt8) : List UInt8 := (word (BitVec.ofNat 32 d.length) ++ d) ++ word (more 0#32 (word (BitVec.ofNat 32 d.length) ++ d))
theorem framed_length (d : List UInt8) : (framed d).length = 4 + d.length + 4 := by
  unfold framed
  rw [List.length_append, List.length_append, word_length, word_length]
theorem numN_head (n : Nat) (h : n ≤ 8192) (t : List UInt8) : numN (word (BitVec.ofNat 32 n) ++ t) = n := by
  rw [numN_word, BitVec.toNat_ofNat]
  exact Nat.mod_eq_of_lt (by omega)

theorem cut_framed (d r : List UInt8) (h : d.length ≤ 8192) : cutF (framed d ++ r) = (0, d, r) := by
  have hn : numN (framed d ++ r) = d.length := by
    unfold framed
    rw [List.append_assoc, List.append_assoc]
    exact numN_head _ h _
  have hl := framed_length d
  have e1 : (framed d ++ r).take (4 + numN (framed d ++ r)) = word (BitVec.ofNat 32 d.length) ++ d := by
    rw [hn, framed, List.append_assoc, List.take_append_of_le_length (by rw [List.length_append, word_length]; omega), List.take_of_length_le (by rw [List.length_append, word_length]; omega)]
  have e2 : (framed d ++ r).drop (4 + numN (framed d ++ r)) = word (more 0#32 (word (BitVec.ofNat 32 d.length) ++ d)) ++ r := by
    rw [hn, framed, List.append_assoc, List.drop_append_of_le_length (by rw [List.length_append, word_length]; omega), List.drop_of_length_le (by rw [List.length_append, word_length]; omega)]
    rfl
  have e3 : (framed d ++ r).drop (4 + numN (framed d ++ r) + 4) = r := by
    rw [hn, ← hl, List.drop_left]
  rw [cut_ok (by rw [List.length_append]; omega) (by rw [hn]; omega) (by rw [List.length_append, hn]; omega) (by rw [e1, e2, numN_word]), e1, e3]
  congr 1

/-- A frame that is cut off is too short. -/
theorem cut_framed_off (d : List UInt8) (h : d.length ≤ 8192) (k : Nat) (hk : k < (framed d).length) : cutF ((framed d).take k) = (3, [], []) := by
  have hl := framed_length d
  have hlen : ((framed d).take k).length = k := by rw [List.length_take]; omega
  by_cases h4 : k < 4
  · exact cut_few (by omega)
  have hn : numN ((framed d).take k) = d.length := by
    rw [numN_take _ _ (by omega)]
    unfold framed
    rw [List.append_assoc]
    exact numN_head _ h _
  exact cut_cut (by omega) (by omega) (by omega)

/-! ### all frames -/
/-- The data of the frames from the beginning on, how many bytes they took, what stopped them. -/
def allF : Nat → List UInt8 → List (List UInt8) × Nat × Int
  | 0, _ => ([], 0, 0)
  | f + 1, l => if l = [] then ([], 0, 0) else if (cutF l).1 = 0 then
      ((cutF l).2.1 :: (allF f (cutF l).2.2).1, (cutF l).2.1.length + 8 + (allF f (cutF l).2.2).2.1, (allF f (cutF l).2.2).2.2) else ([], 0, (cutF l).1)
theorem allF_fuel : ∀ (f g : Nat) (l : List UInt8), l.length ≤ f → l.length ≤ g → allF f l = allF g l
  | 0, 0, _, _, _ => rfl
  | 0, g + 1, l, h, _ => by
    obtain rfl : l = [] := List.eq_nil_of_length_eq_zero (by omega)
    simp [allF]
  | f + 1, 0, l, _, h => by
    obtain rfl : l = [] := List.eq_nil_of_length_eq_zero (by omega)
    simp [allF]
  | f + 1, g + 1, l, h1, h2 => by
    rw [allF, allF]
    by_cases h0 : l = []
    · rw [if_pos h0, if_pos h0]
    · rw [if_neg h0, if_neg h0]
      by_cases hk : (cutF l).1 = 0
      · have := (cut_lengths hk).2.1
        rw [if_pos hk, if_pos hk, allF_fuel f g _ (by omega) (by omega)]
      · rw [if_neg hk, if_neg hk]
def allOf (l : List UInt8) : List (List UInt8) × Nat × Int := allF l.length l
theorem all_none : allOf [] = ([], 0, 0) := rfl
theorem all_stop {l : List UInt8} (h0 : l ≠ []) (hk : (cutF l).1 ≠ 0) : allOf l = ([], 0, (cutF l).1) := by
  unfold allOf
  obtain ⟨n, hn⟩ : ∃ n, l.length = n + 1 := ⟨l.length - 1, by have := List.length_pos_iff.2 h0; omega⟩
  rw [hn, allF, if_neg h0, if_neg hk]
theorem all_step {l : List UInt8} (h0 : l ≠ []) (hk : (cutF l).1 = 0) : allOf l = ((cutF l).2.1 :: (allOf (cutF l).2.2).1, (cutF l).2.1.length + 8 + (allOf (cutF l).2.2).2.1, (allOf (cutF l).2.2).2.2) := by
  unfold allOf
  obtain ⟨n, hn⟩ : ∃ n, l.length = n + 1 := ⟨l.length - 1, by have := List.length_pos_iff.2 h0; omega⟩
  have := (cut_lengths hk).2.1
  conv => lhs; rw [hn, allF, if_neg h0, if_pos hk]
  rw [allF_fuel n (cutF l).2.2.length _ (by omega) (Nat.le_refl _)]

/-- So far the frames of the first u bytes have given ms. -/
def AllAt (l : List UInt8) (ms : List (List UInt8)) (u : Nat) : Prop := u ≤ l.length ∧ allOf l = (ms ++ (allOf (l.drop u)).1, u + (allOf (l.drop u)).2.1, (allOf (l.drop u)).2.2)
theorem allAt_zero (l : List UInt8) : AllAt l [] 0 := ⟨Nat.zero_le _, by simp⟩
theorem allAt_end {l : List UInt8} {ms : List (List UInt8)} {u : Nat} (h : AllAt l ms u) (hu : u = l.length) : allOf l = (ms, u, 0) := by
  rw [h.2, List.drop_of_length_le (by omega), all_none]
  simp
theorem drop_ne {l : List UInt8} {u : Nat} (h : u < l.length) : l.drop u ≠ [] := by
  intro e
  have := congrArg List.length e
  rw [List.length_drop, List.length_nil] at this
  omega
theorem allAt_stop {l : List UInt8} {ms : List (List UInt8)} {u : Nat} (h : AllAt l ms u) (hu : u < l.length) (hk : (cutF (l.drop u)).1 ≠ 0) : allOf l = (ms, u, (cutF (l.drop u)).1) := by
  rw [h.2, all_stop (drop_ne hu) hk]
  simp
theorem allAt_step {l : List UInt8} {ms : List (List UInt8)} {u : Nat} (h : AllAt l ms u) (hu : u < l.length) (hk : (cutF (l.drop u)).1 = 0) :
    u < l.length - (cutF (l.drop u)).2.2.length ∧ (cutF (l.drop u)).2.2 = l.drop (l.length - (cutF (l.drop u)).2.2.length) ∧ AllAt l (ms ++ [(cutF (l.drop u)).2.1]) (l.length - (cutF (l.drop u)).2.2.length) := by
  obtain ⟨h1, h2, h3⟩ := cut_lengths hk
  rw [List.length_drop] at h2
  have e : l.length - (cutF (l.drop u)).2.2.length = u + ((cutF (l.drop u)).2.1.length + 8) := by omega
  rw [List.drop_drop] at h3
  refine ⟨by omega, by rw [e]; exact h3, by omega, ?_⟩
  rw [h.2, all_step (drop_ne hu) hk, e, ← h3]
  show (ms ++ (cutF (l.drop u)).2.1 :: (allOf (cutF (l.drop u)).2.2).1, u + ((cutF (l.drop u)).2.1.length + 8 + (allOf (cutF (l.drop u)).2.2).2.1), _) = _
  rw [List.append_assoc, List.singleton_append, Nat.add_assoc, Nat.add_assoc, Nat.add_assoc]
/-- There are no more of them than bytes. -/
theorem allF_few : ∀ (f : Nat) (l : List UInt8), (allF f l).1.length ≤ l.length
  | 0, _ => Nat.zero_le _
  | f + 1, l => by
    rw [allF]
    split
    · exact Nat.zero_le _
    · split
      · rename_i hk
        have := (cut_lengths hk).2.1
        have := allF_few f (cutF l).2.2
        rw [List.length_cons]
        omega
      · exact Nat.zero_le _
theorem allAt_few {l : List UInt8} {ms : List (List UInt8)} {u : Nat} (h : AllAt l ms u) : ms.length ≤ l.length := by
  have h1 := allF_few l.length l
  have h2 : (allOf l).1.length = (ms ++ (allOf (l.drop u)).1).length := by rw [h.2]
  rw [List.length_append] at h2
  unfold allOf at h2
  omega

def frames (ds : List (List UInt8)) : List UInt8 := (ds.map framed).flatten
theorem frames_nil : frames [] = [] := rfl
theorem frames_cons (d : List UInt8) (ds : List (List UInt8)) : frames (d :: ds) = framed d ++ frames ds := rfl
theorem frames_append (a b : List (List UInt8)) : frames (a ++ b) = frames a ++ frames b := by simp [frames]
theorem frames_snoc (a : List (List UInt8)) (d : List UInt8) : frames (a ++ [d]) = frames a ++ framed d := by rw [frames_append]; simp [frames]
theorem framed_ne (d r : List UInt8) : framed d ++ r ≠ [] := by
  intro h
  have := congrArg List.length h
  rw [List.length_append, framed_length] at this
  simp at this
/-- All of whole frames with something behind them: these, and then what is behind. -/
theorem all_frames : ∀ (ds : List (List UInt8)) (r : List UInt8), (∀ d ∈ ds, d.length ≤ 8192) →
    allOf (frames ds ++ r) = (ds ++ (allOf r).1, (frames ds).length + (allOf r).2.1, (allOf r).2.2)
  | [], r, _ => by simp [frames]
  | d :: ds, r, h => by
    have hd : d.length ≤ 8192 := h d (by simp)
    have hc := cut_framed d (frames ds ++ r) hd
    have ih := all_frames ds r (fun x hx => h x (by simp [hx]))
    rw [frames_cons, List.append_assoc, all_step (framed_ne _ _) (by rw [hc]), hc]
    show (d :: (allOf (frames ds ++ r)).1, d.length + 8 + (allOf (frames ds ++ r)).2.1, (allOf (frames ds ++ r)).2.2) = _
    rw [ih, List.length_append, framed_length]
    congr 2
    show d.length + 8 + ((frames ds).length + (allOf r).2.1) = 4 + d.length + 4 + (frames ds).length + (allOf r).2.1
    omega
theorem all_whole (ds : List (List UInt8)) (h : ∀ d ∈ ds, d.length ≤ 8192) : allOf (frames ds) = (ds, (frames ds).length, 0) := by
  have := all_frames ds [] h
  rw [List.append_nil] at this
  rw [this, all_none]
  simp
/-- .. cut off within the next one. -/
theorem all_off (ds : List (List UInt8)) (d : List UInt8) (h : ∀ d ∈ ds, d.length ≤ 8192) (hd : d.length ≤ 8192) (k : Nat) (h0 : 0 < k) (hk : k < (framed d).length) :
    allOf (frames ds ++ (framed d).take k) = (ds, (frames ds).length, 3) := by
  have hc := cut_framed_off d hd k hk
  have hs : allOf ((framed d).take k) = ([], 0, 3) := by
    rw [all_stop (by intro e; have := congrArg List.length e; rw [List.length_take, List.length_nil] at this; omega) (by rw [hc]; decide), hc]
  rw [all_frames ds _ h, hs]
  simp

/-! ### a byte that is turned -/
theorem xor_ne (c t : UInt8) (h : t ≠ 0) : c ^^^ t ≠ c := by
  intro e
  have h2 : c ^^^ (c ^^^ t) = c ^^^ c := by rw [e]
  rw [← UInt8.xor_assoc] at h2
  simp at h2
  exact h h2
theorem regs_set (l : List UInt8) (j : Nat) (hj : j < l.length) (t : UInt8) (r : BitVec 32) :
    regs r (l.set j (l[j] ^^^ t)) = regs r l ^^^ steps (8 * (l.length - j)) (wide t) := by
  have e1 : l = l.take j ++ l[j] :: l.drop (j + 1) := by rw [← List.drop_eq_getElem_cons hj, List.take_append_drop]
  have e2 : l.set j (l[j] ^^^ t) = l.take j ++ (l[j] ^^^ t) :: l.drop (j + 1) := List.set_eq_take_append_cons_drop .. |>.trans (by rw [if_pos hj])
  rw [e2]
  conv => rhs; arg 1; rw [e1]
  rw [regs_append, regs_cons, regs_append, regs_cons]
  generalize regs r (l.take j) = x
  have h1 : upd x (l[j] ^^^ t) = upd x l[j] ^^^ steps 8 (wide t) := by
    have h2 := upd_both x 0#32 l[j] t
    rw [BitVec.xor_zero] at h2
    rw [h2]
    congr 1
    unfold upd
    rw [BitVec.zero_xor]
  rw [h1, regs_xor, ← steps_add]
  congr 2
  rw [List.length_drop]
  omega
theorem wide_ne {t : UInt8} (h : t ≠ 0) : wide t ≠ 0#32 := by
  intro e
  have := congrArg BitVec.toNat e
  rw [wide_toNat] at this
  apply h
  exact UInt8.toNat_inj.1 this
theorem more_set (l : List UInt8) (j : Nat) (hj : j < l.length) (t : UInt8) (ht : t ≠ 0) : more 0#32 (l.set j (l[j] ^^^ t)) ≠ more 0#32 l :=
  turned_seen l _ _ _ (wide_ne ht) (regs_set l j hj t _)
/-- A byte of a frame that is turned, but of its length, is seen. -/
theorem cut_turned (d : List UInt8) (h : d.length ≤ 8192) (j : Nat) (h4 : 4 ≤ j) (hj : j < (framed d).length) (t : UInt8) (ht : t ≠ 0) :
    cutF ((framed d).set j ((framed d)[j] ^^^ t)) = (2, [], []) := by
  have hl := framed_length d
  have hg0 : ∀ x, (framed d)[j]? = some x → (framed d)[j] = x := fun x hx => by rw [List.getElem?_eq_getElem hj] at hx; exact Option.some.inj hx
  obtain ⟨y, hy⟩ : ∃ y, (framed d)[j] = y := ⟨_, rfl⟩
  rw [hy]
  generalize hz : (framed d).set j (y ^^^ t) = z
  have hzl : z.length = 4 + d.length + 4 := by rw [← hz, List.length_set, hl]
  have hn : numN z = d.length := by
    have e : z.take 4 = (framed d).take 4 := by rw [← hz, List.take_set_of_le h4]
    rw [← numN_take z 4 (Nat.le_refl _), e, numN_take _ 4 (Nat.le_refl _)]
    unfold framed
    rw [List.append_assoc]
    exact numN_head _ h _
  refine cut_bad (by omega) (by omega) (by omega) ?_
  rw [hn]
  intro e
  generalize hb : word (BitVec.ofNat 32 d.length) ++ d = b at *
  have hbl : b.length = 4 + d.length := by rw [← hb, List.length_append, word_length]
  have hf : framed d = b ++ word (more 0#32 b) := by rw [framed, hb]
  by_cases hin : j < 4 + d.length
  · have hjb : j < b.length := by rw [hbl]; exact hin
    have e1 : z.take (4 + d.length) = b.set j (b[j]'hjb ^^^ t) := by
      have hg : y = b[j]'hjb := by rw [← hy]; exact hg0 _ (by rw [hf, List.getElem?_append_left (by omega), List.getElem?_eq_getElem])
      rw [← hz, hg, List.take_set, hf, List.take_append_of_le_length (by omega), List.take_of_length_le (by omega)]
    have e2 : z.drop (4 + d.length) = word (more 0#32 b) := by
      rw [← hz, List.drop_set_of_lt (by omega), hf, ← hbl, List.drop_left]
    rw [e1, e2] at e
    have h3 := numN_word (more 0#32 b) []
    rw [List.append_nil] at h3
    rw [h3] at e
    exact more_set b j hjb t ht (BitVec.eq_of_toNat_eq e)
  · have e1 : z.take (4 + d.length) = b := by
      rw [← hz, List.take_set_of_le (by omega), hf, List.take_append_of_le_length (by omega), List.take_of_length_le (by omega)]
    rw [e1] at e
    have hdl : (z.drop (4 + d.length)).length = 4 := by rw [List.length_drop]; omega
    have e2 : word (more 0#32 b) = z.drop (4 + d.length) := by
      have h3 := word_numN _ hdl
      rw [← e, BitVec.ofNat_toNat, BitVec.setWidth_eq] at h3
      exact h3
    have e3 : z = framed d := by
      rw [hf, e2]
      conv => lhs; rw [← List.take_append_drop (4 + d.length) z, e1]
    have e4 : z[j]? = (framed d)[j]? := by rw [e3]
    rw [← hz, List.getElem?_set_self hj, List.getElem?_eq_getElem hj, hy] at e4
    exact xor_ne _ _ ht (Option.some.inj e4)
end Go.Proofs.Ytooodafmglhfoaa.Fm
