/-
  Plain facts on names as the program goes through them: by the model's own decoding, the rune fffd looked at by its bytes. No program is named here.
-/
import Derived.Test.YtnpbokbfkdncmaaGreatZGA
import Derived.Lib.Strings
import Derived.Test.YtnpbokbfkdncmaaGreatRows
import Derived.WalkKit
import Derived.WalkSpells
import Derived.WalkLawsBesides
import Derived.Lib.SlBytesConst
namespace Go.Proofs.YtnpbokbfkdncmaaGreat
open Ru
open Go.Lib (decodeN)

theorem get_beyond (s : ByteArray) (k : Nat) (h : s.size ≤ k) : s.get! k = 0 := by
  rw [← Lib.getD_get!']
  simp only [List.getD_eq_getElem?_getD]
  rw [List.getElem?_eq_none (by simpa using h)]
  rfl
theorem get_from (s : ByteArray) (i j : Nat) (h : i ≤ s.size) : (s.extract i s.size).get! j = s.get! (i + j) := by
  by_cases hj : j < s.size - i
  · rw [get_eq _ _ (by rw [size_from]; exact hj), get_eq _ _ (by omega)]
    simp [ByteArray.getElem_extract]
  · rw [get_beyond _ _ (by rw [size_from]; omega), get_beyond _ _ (by omega)]
/-- The rune at a place, by the model's decoding. -/
theorem runeAt_decode (s : ByteArray) (i : Nat) (h : i < s.size) : runeAt s i = if Utf8.decode s i = (65533, 1) then (0, 0) else Utf8.decode s i := by
  unfold runeAt runeF runeN
  rw [size_from, get_from s i 0 (by omega), get_from s i 1 (by omega), get_from s i 2 (by omega), get_from s i 3 (by omega), Lib.decode_at, Nat.add_zero, if_neg (by omega)]
theorem runeAt_plain {s : ByteArray} {i : Nat} (h : i < s.size) (hr : (Utf8.decode s i).1 ≠ 65533) : runeAt s i = Utf8.decode s i := by
  rw [runeAt_decode s i h, if_neg]
  intro e
  rw [e] at hr
  exact hr rfl
theorem decode_whole (n b3 : Nat) (h : 3 ≤ n) : decodeN n 239 191 189 b3 = (65533, 3) := by
  unfold decodeN
  rw [if_neg (by omega), if_neg (by omega), if_pos (by omega), if_pos (by omega)]
theorem decode_part (n b0 b1 b2 b3 : Nat) : (decodeN n b0 b1 b2 b3).1 = 65533 → ¬ (3 ≤ n ∧ b0 = 239 ∧ b1 = 191 ∧ b2 = 189) → (decodeN n b0 b1 b2 b3).2 = 1 := by
  unfold decodeN
  repeat' split
  all_goals
    intro h1 h2
    first | rfl | (exfalso; simp only at h1; omega)
/-- The three bytes of the rune fffd stand at this place. -/
def fffdAt (s : ByteArray) (i : Nat) : Bool := Lib.hasPrefix (s.extract i s.size).data.toList [239, 191, 189]
theorem prefix3 (l : List UInt8) (a b c : UInt8) : Lib.hasPrefix l [a, b, c] = true ↔ 3 ≤ l.length ∧ l.getD 0 0 = a ∧ l.getD 1 0 = b ∧ l.getD 2 0 = c := by
  match l with
  | [] => simp [Lib.hasPrefix]
  | [x] => simp [Lib.hasPrefix]
  | [x, y] => simp [Lib.hasPrefix]
  | x :: y :: z :: l =>
    show (a == x && (b == y && (c == z && true))) = true ↔ 3 ≤ l.length + 1 + 1 + 1 ∧ x = a ∧ y = b ∧ z = c
    simp only [Bool.and_eq_true, beq_iff_eq, and_true]
    exact ⟨fun ⟨h1, h2, h3⟩ => ⟨by omega, h1.symm, h2.symm, h3.symm⟩, fun ⟨_, h1, h2, h3⟩ => ⟨h1.symm, h2.symm, h3.symm⟩⟩
theorem fffdAt_iff (s : ByteArray) (i : Nat) (h : i ≤ s.size) : fffdAt s i = true ↔ 3 ≤ s.size - i ∧ (s.get! i).toNat = 239 ∧ (s.get! (i + 1)).toNat = 191 ∧ (s.get! (i + 2)).toNat = 189 := by
  unfold fffdAt
  rw [prefix3, show (s.extract i s.size).data.toList.length = s.size - i by rw [← size_from]; simp]
  have g : ∀ j, (s.extract i s.size).data.toList.getD j 0 = s.get! (i + j) := fun j => by rw [Lib.getD_get!', get_from s i j h]
  rw [g 0, g 1, g 2, Nat.add_zero]
  simp only [← UInt8.toNat_inj]
  rfl
theorem runeAt_whole {s : ByteArray} {i : Nat} (h : i < s.size) (hf : fffdAt s i = true) : runeAt s i = (65533, 3) ∧ (Utf8.decode s i).2 = 3 := by
  obtain ⟨h3, h0, h1, h2⟩ := (fffdAt_iff s i (by omega)).1 hf
  have e : Utf8.decode s i = (65533, 3) := by
    rw [Lib.decode_at, h0, h1, h2]
    exact decode_whole _ _ h3
  rw [runeAt_decode s i h, e]
  exact ⟨rfl, rfl⟩
theorem runeAt_broken {s : ByteArray} {i : Nat} (h : i < s.size) (hr : (Utf8.decode s i).1 = 65533) (hf : fffdAt s i = false) : (runeAt s i).2 = 0 := by
  have h2 : (Utf8.decode s i).2 = 1 := by
    rw [Lib.decode_at] at hr ⊢
    refine decode_part _ _ _ _ _ hr ?_
    rintro ⟨a, b, c, d⟩
    rw [(fffdAt_iff s i (by omega)).2 ⟨a, b, c, d⟩] at hf
    cases hf
  rw [runeAt_decode s i h, if_pos (Prod.ext hr h2)]
theorem width_pos (s : ByteArray) (i : Nat) (h : i < s.size) : 1 ≤ (Utf8.decode s i).2 := by
  rw [Lib.decode_at]
  exact (decode_width _ _ _ _ _ (by omega)).1
/-- What has been gone through up to place i is right, and none of it may not stand in a name. -/
def NameAt (s : ByteArray) (i : Nat) : Prop := ∃ rs, RunesAt s rs i ∧ ∀ r ∈ rs, badRune r = false
theorem nameAt_zero (s : ByteArray) : NameAt s 0 := ⟨[], runesAt_zero s, by simp⟩
theorem nameAt_le {s : ByteArray} {i : Nat} (h : NameAt s i) : i ≤ s.size := by
  obtain ⟨rs, h, _⟩ := h
  exact h.1
theorem nameAt_step {s : ByteArray} {i : Nat} (h : NameAt s i) (hi : i < s.size) (r n : Nat) (hd : runeAt s i = (r, n)) (hn : n ≠ 0) (hb : badRune r = false) : NameAt s (i + n) := by
  obtain ⟨rs, hr, hg⟩ := h
  have := runesAt_step hr hi (by rw [hd]; exact hn)
  rw [hd] at this
  refine ⟨_, this, ?_⟩
  intro x hx
  rcases List.mem_append.1 hx with h1 | h1
  · exact hg x h1
  · rw [List.mem_singleton.1 h1]; exact hb
theorem nameAt_broken {s : ByteArray} {i : Nat} (h : NameAt s i) (hi : i < s.size) (hk : (runeAt s i).2 = 0) : nameKind s = 5 := by
  obtain ⟨rs, hr, _⟩ := h
  exact kind_bad (name_none (runesAt_bad hr hi hk))
/-- A rune that may not stand in a name, wherever: it is none, whatever comes behind. -/
theorem nameAt_bad {s : ByteArray} {i : Nat} (h : NameAt s i) (hi : i < s.size) (r n : Nat) (hd : runeAt s i = (r, n)) (hn : n ≠ 0) (hb : badRune r = true) : nameKind s = 5 := by
  obtain ⟨rs, hr, _⟩ := h
  have h1 := runesAt_step hr hi (by rw [hd]; exact hn)
  rw [hd] at h1
  cases ho : runesOf s 0 with
  | none => exact kind_bad (name_none ho)
  | some all =>
    have h2 := h1.2.2.2
    rw [ho] at h2
    cases h3 : runesOf s (i + n) with
    | none => rw [h3] at h2; cases h2
    | some t =>
      rw [h3] at h2
      injection h2 with h2
      have hk : rs.length < all.length := by rw [h2]; simp
      refine kind_bad (name_bad ho hk ?_)
      have : all[rs.length]'hk = r := by simp [h2]
      rw [this]; exact hb
theorem nameAt_end {s : ByteArray} (h : NameAt s s.size) (h1 : 1 ≤ s.size) (h2 : s.size ≤ 32) : nameKind s = 0 := by
  obtain ⟨rs, hr, hg⟩ := h
  exact kind_good (name_good (runesAt_end hr rfl) h1 h2 fun k hk => hg _ (List.getElem_mem hk))
end Go.Proofs.YtnpbokbfkdncmaaGreat

/-
  Plain facts on the cutting of a span's bytes. No program's function is named here.
-/
namespace Go.Proofs.YtnpbokbfkdncmaaGreat

/-- Of a name's length and bytes: the kind, the text, what is behind. -/
def cutTextF (l : List UInt8) : Int × ByteArray × List UInt8 :=
  if l = [] then (3, ByteArray.empty, [])
  else if (l.getD 0 0).toNat < 1 ∨ 32 < (l.getD 0 0).toNat then (6, ByteArray.empty, [])
  else if l.length - 1 < (l.getD 0 0).toNat then (3, ByteArray.empty, [])
  else (0, strOf ((l.take ((l.getD 0 0).toNat + 1)).drop 1), l.drop ((l.getD 0 0).toNat + 1))
theorem cutText_none : cutTextF [] = (3, ByteArray.empty, []) := rfl
theorem cutText_form {l : List UInt8} (h : l ≠ []) (h1 : (l.getD 0 0).toNat < 1 ∨ 32 < (l.getD 0 0).toNat) : cutTextF l = (6, ByteArray.empty, []) := by unfold cutTextF; rw [if_neg h, if_pos h1]
theorem cutText_short {l : List UInt8} (h : l ≠ []) (h1 : ¬ ((l.getD 0 0).toNat < 1 ∨ 32 < (l.getD 0 0).toNat)) (h2 : l.length - 1 < (l.getD 0 0).toNat) : cutTextF l = (3, ByteArray.empty, []) := by unfold cutTextF; rw [if_neg h, if_neg h1, if_pos h2]
theorem cutText_ok {l : List UInt8} (h : l ≠ []) (h1 : ¬ ((l.getD 0 0).toNat < 1 ∨ 32 < (l.getD 0 0).toNat)) (h2 : ¬ l.length - 1 < (l.getD 0 0).toNat) :
    cutTextF l = (0, strOf ((l.take ((l.getD 0 0).toNat + 1)).drop 1), l.drop ((l.getD 0 0).toNat + 1)) := by unfold cutTextF; rw [if_neg h, if_neg h1, if_neg h2]
theorem cutText_kind (l : List UInt8) : (cutTextF l).1 = 0 ∨ ((cutTextF l).1 ≠ 0 ∧ (cutTextF l).2 = (ByteArray.empty, [])) := by
  unfold cutTextF
  repeat' split
  all_goals simp

/-- The span's bytes ahead of its texts are there. -/
def numsOf (l : List UInt8) (sv nm : ByteArray) : SpanD :=
  ⟨numB l 8, numB (l.drop 8) 8, numB (l.drop 16) 8, numB (l.drop 24) 8, numB (l.drop 32) 8, sv, nm, decide ((l.getD 40 0).toNat = 1)⟩
/-- What Cut answers: the kind, the span, what is behind. -/
def cutSpanF (l : List UInt8) : Int × SpanD × List UInt8 :=
  if l.length < 41 then (3, SpanD.zero, [])
  else if 1 < (l.getD 40 0).toNat then (6, SpanD.zero, [])
  else if (cutTextF (l.drop 41)).1 ≠ 0 then ((cutTextF (l.drop 41)).1, SpanD.zero, [])
  else if (cutTextF (cutTextF (l.drop 41)).2.2).1 ≠ 0 then ((cutTextF (cutTextF (l.drop 41)).2.2).1, SpanD.zero, [])
  else if rightF (numsOf l (cutTextF (l.drop 41)).2.1 (cutTextF (cutTextF (l.drop 41)).2.2).2.1) ≠ 0 then (rightF (numsOf l (cutTextF (l.drop 41)).2.1 (cutTextF (cutTextF (l.drop 41)).2.2).2.1), SpanD.zero, [])
  else (0, numsOf l (cutTextF (l.drop 41)).2.1 (cutTextF (cutTextF (l.drop 41)).2.2).2.1, (cutTextF (cutTextF (l.drop 41)).2.2).2.2)
theorem numB8_lt (l : List UInt8) : numB l 8 < 18446744073709551616 := numB_lt l 8
theorem numsOf_wf (l : List UInt8) (sv nm : ByteArray) (h1 : sv.size ≤ 9223372036854775807) (h2 : nm.size ≤ 9223372036854775807) : (numsOf l sv nm).Wf :=
  ⟨numB8_lt _, numB8_lt _, numB8_lt _, numB8_lt _, numB8_lt _, h1, h2⟩
end Go.Proofs.YtnpbokbfkdncmaaGreat

/-
  What the functions of package crc, and of its reference, answer.
-/
namespace Go.Proofs.YtnpbokbfkdncmaaGreat
open Go.RowKit Crc

theorem int_of {k : IntKind} {a b : Int} (h : a = b) : Value.int k a = Value.int k b := by rw [h]
theorem ret_of {k : IntKind} {a b : Int} (h : a = b) : Ending.returned (.int k a) = .returned (.int k b) := by rw [h]

theorem and1_yes {y : BitVec 32} (h : y.getLsbD 0 = true) : (bits .and .u32 (y.toNat : Int) 1 == 1) = true := by rw [bits_and1, if_pos h]; rfl
theorem and1_no {y : BitVec 32} (h : y.getLsbD 0 = false) : (bits .and .u32 (y.toNat : Int) 1 == 1) = false := by rw [bits_and1, if_neg (by rw [h]; decide)]; rfl

set_option maxHeartbeats 400000 in
theorem eight_any (x : BitVec 32) (w : World) :
    Calls Tryz.prog 94 #[.int .u32 x.toNat] w fun e w' => e = .returned (.int .u32 (steps 8 x).toNat) ∧ w = w' := by
  go_enter Tryz.func94, Tryz.ntmps94
  go_wp2
  go_loop [0,3,4] (fun a _ i => ∃ k : Nat, k ≤ 8 ∧ i = .int .i64 k ∧ a = .int .u32 (steps k x).toNat) (fun _ _ i => 8 - (intOf i).toNat)
  case atStart => exact ⟨0, by omega, rfl, rfl⟩
  case round =>
    obtain ⟨k, hk, rfl, rfl⟩ := hrel
    by_cases hlt : k < 8
    · cases hb : (steps k x).getLsbD 0
      · have h1 := and1_no hb
        have H : Hid (Crc.step (steps k x) = steps k x >>> 1) := step_none _ hb
        clear hb
        go_wp2
        go_round
        case rel => exact ⟨k + 1, by omega, by go_num, by rw [steps, H.out, half]⟩
        case measure => simp [intOf]; omega
      · have h1 := and1_yes hb
        have H : Hid (Crc.step (steps k x) = steps k x >>> 1 ^^^ poly) := step_one _ hb
        clear hb
        go_wp2
        go_round
        case rel => exact ⟨k + 1, by omega, by go_num, by rw [steps, H.out, half, xor_poly]⟩
        case measure => simp [intOf]; omega
    · obtain rfl : k = 8 := by omega
      go_wp2
      go_ret
      exact ⟨rfl, rfl⟩

theorem take_snoc {α : Type} (l : List α) {k : Nat} (h : k < l.length) : l.take (k + 1) = l.take k ++ [l[k]] := by
  rw [List.take_succ_eq_append_getElem h]
theorem regs_take (r : BitVec 32) (l : List UInt8) {k : Nat} (h : k < l.length) : regs r (l.take (k + 1)) = steps 8 (feed (regs r (l.take k)) l[k]) := by
  rw [take_snoc l h, regs_snoc]; rfl

set_option maxHeartbeats 400000 in
theorem more_any (s : BitVec 32) (A : Option Addr) (n c : Nat) (l : List UInt8) (w : World) (hA : Holds w A (bytes l)) (hn : l.length = n) (hc : n ≤ 9223372036854775807) :
    Calls Tryz.prog 75 #[.int .u32 s.toNat, .slice A n c] w fun e w' => e = .returned (.int .u32 (more s l).toNat) ∧ w = w' := by
  subst hn
  have hnot := not_u32 s
  go_enter Tryz.func75, Tryz.ntmps75
  go_wp2
  clear hnot
  go_loop [5, 7, 12] (fun r _ i => ∃ k : Nat, k ≤ l.length ∧ i = .int .i64 k ∧ r = .int .u32 (regs (inv s) (l.take k)).toNat) (fun _ _ i => l.length - (intOf i).toNat)
  case atStart => exact ⟨0, by omega, rfl, by simp [regs_nil]⟩
  case round =>
    obtain ⟨k, hk, rfl, rfl⟩ := hrel
    by_cases hlt : k < l.length
    · obtain ⟨b, off, rfl, hcell⟩ := hA.at_ hlt
      have hb := xor_byte' (regs (inv s) (l.take k)) l[k]
      have H := hid_ (regs_take (inv s) l hlt)
      go_wp2_with (go_at_call 94; refine (eight_any _ _).mono ?_; rintro e w' ⟨rfl, rfl⟩)
      go_round
      case rel => exact ⟨k + 1, by omega, by go_num, by rw [H.out]⟩
      case measure => simp [intOf]; omega
    · obtain rfl : k = l.length := by omega
      go_wp2
      go_ret
      refine ⟨ret_of ?_, rfl⟩
      rw [not_u32]; rfl

set_option maxHeartbeats 400000 in
theorem sum_any (A : Option Addr) (n c : Nat) (l : List UInt8) (w : World) (hA : Holds w A (bytes l)) (hn : l.length = n) (hc : n ≤ 9223372036854775807) :
    Calls Tryz.prog 42 #[.slice A n c] w fun e w' => e = .returned (.int .u32 (more 0#32 l).toNat) ∧ w = w' := by
  have h1 := hid_ (more_any 0 A n c l w hA hn hc)
  go_enter Tryz.func42, Tryz.ntmps42
  go_wp2_with (go_at_call 75; refine h1.out.mono ?_; rintro e w' ⟨rfl, rfl⟩)
  go_ret
  exact ⟨rfl, rfl⟩

end Go.Proofs.YtnpbokbfkdncmaaGreat

/-
  What the functions of package frame answer.
-/
namespace Go.Proofs.YtnpbokbfkdncmaaGreat.Fr
open Go.RowKit Crc Fm

theorem low_byte (x : BitVec 32) : (x.toNat : Int) % (256 : Int) = ((low x).toNat : Int) := by rw [low_toNat]; omega
theorem shr8 (x : BitVec 32) : (x.toNat : Int) / (256 : Int) = ((x >>> 8).toNat : Int) := by rw [shr_toNat]; omega

/-- The word that is left behind k bytes. -/
def left (x : BitVec 32) : Nat → BitVec 32
  | 0 => x
  | k + 1 => left x k >>> 8
theorem word_take (x : BitVec 32) {k : Nat} (h : k < 4) : (word x).take (k + 1) = (word x).take k ++ [low (left x k)] := by
  match k, h with
  | 0, _ | 1, _ | 2, _ | 3, _ => rfl

set_option maxHeartbeats 400000 in
theorem putWord_any (B : Nat) (A : Option Addr) (n c : Nat) (l : List UInt8) (x : BitVec 32) (w : World) (hown : Own B w A n c l) (hB : B ≤ w.heap.size) (hn : n ≤ 140737488355000) :
    Calls Tryz.prog 41 #[.slice A n c, .int .u32 x.toNat] w fun e w' => ∃ A' c', e = .returned (.slice A' (n + 4) c') ∧ Own B w' A' (n + 4) c' (l ++ word x) ∧ Below B w w' := by
  go_enter Tryz.func41, Tryz.ntmps41
  go_wp2
  go_loopw [0, 1, 5] (fun s y i wr => ∃ k A' c', k ≤ 4 ∧ i = .int .i64 (k : Nat) ∧ s = .slice A' (n + k) c' ∧ y = .int .u32 (left x k).toNat ∧ Own B wr A' (n + k) c' (l ++ (word x).take k) ∧ Below B w wr) (fun _ _ i _ => 4 - (intOf i).toNat)
  case atStart => exact ⟨0, A, c, by omega, rfl, rfl, rfl, by simpa using hown, Below.refl _ _⟩
  case round =>
    obtain ⟨k, A', c', hk, rfl, rfl, rfl, ho, hb⟩ := hrel
    by_cases hlt : k < 4
    · have Ho := hid_ ho
      have Hb := hid_ hb
      clear ho hb
      have Hl := hid_ (fun W : World => own_lit W [low (left x k)] #[.int .u8 ((left x k).toNat % (256 : Int))] (by rw [low_byte]; rfl) 1 rfl (by omega) B)
      have Hw := hid_ (word_take x hlt)
      have Hr := hid_ (show n + k + 1 ≤ 140737488355328 by omega)
      have hbw := Hb.out.size
      have Hh := hid_ (show left x (k + 1) = left x k >>> 8 from rfl)
      go_wp2_with (at_builtin; refine wpList_bytes rfl (.tmp 7) (.tmp 10) rfl B A' (n + k) c' _ rfl (Ho.out.alloc _) (some ⟨wr.heap.size, 0, none⟩) 1 1 [low (left x k)] rfl (Hl.out wr (by omega)).sl (n + k + 1) _ rfl rfl Hr.out (by simp; omega) ?_; intro A2 c2 w2 ho2 hb2)
      go_roundw
      case rel => exact ⟨k + 1, A2, c2, by omega, by go_num, by rw [Nat.add_assoc], by rw [Hh.out, shr8], by rw [List.append_assoc, ← Hw.out] at ho2; exact ho2, Hb.out.trans (((Below.refl _ _).alloc (by omega) _).trans hb2)⟩
      case measure => simp [intOf]; omega
    · obtain rfl : k = 4 := by omega
      have Ho := hid_ ho
      have Hb := hid_ hb
      clear ho hb
      go_wp2
      go_ret
      exact ⟨A', c', rfl, Ho.out, Hb.out⟩

def numK (l : List UInt8) : Nat → Nat
  | 0 => 0
  | k + 1 => numK l k + (l.getD k 0).toNat * 2 ^ (8 * k)
theorem numK_lt (l : List UInt8) (k : Nat) (h : k ≤ 4) : numK l k < 2 ^ (8 * k) := by
  have h0 := UInt8.toNat_lt (l.getD 0 0); have h1 := UInt8.toNat_lt (l.getD 1 0); have h2 := UInt8.toNat_lt (l.getD 2 0); have h3 := UInt8.toNat_lt (l.getD 3 0)
  match k, h with
  | 0, _ => simp [numK]
  | 1, _ => simp only [numK]; omega
  | 2, _ => simp only [numK]; omega
  | 3, _ => simp only [numK]; omega
  | 4, _ => simp only [numK]; omega
theorem numK_all {l : List UInt8} (h : 4 ≤ l.length) : numK l 4 = numN l := by
  match l, h with
  | a :: b :: c :: d :: t, _ =>
    simp [numK, numN]
    omega

theorem pow8 {k : Nat} (h : k < 4) : (2 : Nat) ^ (8 * k) ≤ 16777216 :=
  Nat.le_trans (Nat.pow_le_pow_right (by omega) (show 8 * k ≤ 24 by omega)) (Nat.le_refl _)
theorem num_or (l : List UInt8) {k : Nat} (h : k < 4) (hk : k < l.length) :
    bits .or .u32 (numK l k : Nat) ((l[k].toNat : Int) % (4294967296 : Int) * (2 : Int) ^ (8 * k) % (4294967296 : Int)) = (numK l (k + 1) : Nat) := by
  have h1 := numK_lt l k (by omega)
  have hc := UInt8.toNat_lt l[k]
  have hp := pow8 h
  have hm : l[k].toNat * 2 ^ (8 * k) < 4294967296 :=
    Nat.lt_of_le_of_lt (Nat.mul_le_mul_left _ hp) (by omega)
  have e : (l[k].toNat : Int) % (4294967296 : Int) * (2 : Int) ^ (8 * k) % (4294967296 : Int) = ((l[k].toNat * 2 ^ (8 * k) : Nat) : Int) := by
    rw [show (l[k].toNat : Int) % (4294967296 : Int) = (l[k].toNat : Int) from by omega, show (2 : Int) ^ (8 * k) = ((2 ^ (8 * k) : Nat) : Int) from by rw [Int.natCast_pow]; rfl, ← Int.natCast_mul]
    omega
  have hn : numK l k < 4294967296 := by omega
  rw [e, u32_or_nat _ _ hn hm, Nat.or_comm, nat_join (8 * k) _ _ (Nat.mul_mod_left _ _) h1, numK, Nat.add_comm]
  congr 4
  simp [hk]

set_option maxHeartbeats 400000 in
theorem word_any (A : Option Addr) (n c : Nat) (l : List UInt8) (w : World) (hs : Sl w A n c l) (h4 : 4 ≤ n) :
    Calls Tryz.prog 82 #[.slice A n c] w fun e w' => e = .returned (.int .u32 (numN l : Nat)) ∧ w = w' := by
  have hle := hs.le
  go_enter Tryz.func82, Tryz.ntmps82
  go_wp2
  go_loop [3, 4, 5] (fun s _ i => ∃ k : Nat, k ≤ 4 ∧ i = .int .i64 (k : Nat) ∧ s = .int .u32 (numK l k : Nat)) (fun _ _ i => 4 - (intOf i).toNat)
  case atStart => exact ⟨0, by omega, rfl, rfl⟩
  case round =>
    obtain ⟨k, hk, rfl, rfl⟩ := hrel
    by_cases hlt : k < 4
    · have hkl : k < l.length := by rw [hs.len]; omega
      obtain ⟨b, off, rfl, hcell⟩ := hs.holds.at_ hkl
      have hnk := numK_lt l k (by omega)
      have hkn : k < n := by omega
      go_wp2
      go_round
      case rel => exact ⟨k + 1, by omega, by go_num, int_of (num_or l hlt hkl)⟩
      case measure => simp [intOf]; omega
    · obtain rfl : k = 4 := by omega
      have Hn := hid_ (numK_all (l := l) (by rw [hs.len]; exact h4))
      go_wp2
      go_ret
      exact ⟨ret_of (by rw [Hn.out]), rfl⟩
theorem putWord_at (B : Nat) (A : Option Addr) (n c : Nat) (l : List UInt8) (x : BitVec 32) (v : Int) (w : World) (hv : v = (x.toNat : Int)) (hown : Own B w A n c l) (hB : B ≤ w.heap.size) (hn : n ≤ 140737488355000) :
    Calls Tryz.prog 41 #[.slice A n c, .int .u32 v] w fun e w' => ∃ A' c', e = .returned (.slice A' (n + 4) c') ∧ Own B w' A' (n + 4) c' (l ++ word x) ∧ Below B w w' := by
  subst hv
  exact putWord_any B A n c l x w hown hB hn

def CutPost (w : World) (l : List UInt8) (e : Ending) (w' : World) : Prop :=
  ∃ A1 n1 c1 A2 n2 c2, e = .returned (.tuple #[.slice A1 n1 c1, .slice A2 n2 c2, .int .i64 (cutF l).1]) ∧ Sl w' A1 n1 c1 (cutF l).2.1 ∧ Sl w' A2 n2 c2 (cutF l).2.2 ∧ Below w.heap.size w w'
theorem cutPost_none {w w' : World} {l : List UInt8} {k : Int} (h : cutF l = (k, [], [])) (hb : Below w.heap.size w w') :
    CutPost w l (.returned (.tuple #[.slice none 0 0, .slice none 0 0, .int .i64 k])) w' :=
  ⟨none, 0, 0, none, 0, 0, by rw [h], by rw [h]; exact Sl.none _, by rw [h]; exact Sl.none _, hb⟩

theorem cutPost_ok {w w' : World} {l d r : List UInt8} {A1 A2 : Option Addr} {n1 c1 n2 c2 : Nat} (h : cutF l = (0, d, r)) (h1 : Sl w' A1 n1 c1 d) (h2 : Sl w' A2 n2 c2 r) (hb : Below w.heap.size w w') :
    CutPost w l (.returned (.tuple #[.slice A1 n1 c1, .slice A2 n2 c2, .int .i64 0])) w' :=
  ⟨A1, n1, c1, A2, n2, c2, by rw [h], by rw [h]; exact h1, by rw [h]; exact h2, hb⟩

set_option maxHeartbeats 1000000 in
theorem parted_any (A : Option Addr) (n c : Nat) (l : List UInt8) (w : World) (hs : Sl w A n c l) :
    Calls Tryz.prog 54 #[.slice A n c] w (CutPost w l) := by
  have hle := hs.le
  have hcm := hs.max
  have hnc := hs.cap
  have Hs := hid_ hs
  have Hlen := hid_ hs.len
  clear hs
  by_cases h4 : n < 4
  · have Hc := hid_ (cut_few (l := l) (by rw [Hlen.out]; exact h4))
    go_enter Tryz.func54, Tryz.ntmps54
    go_wp2
    go_ret3
    exact cutPost_none Hc.out (Below.refl _ _)
  have hN := numN_lt l
  have Hw := hid_ (fun W (h : Sl W A n c l) => word_any A n c l W h (by omega))
  have Hl4 := hid_ (show ¬ l.length < 4 by rw [Hlen.out]; exact h4)
  by_cases hbig : 8192 < numN l
  · have Hc := hid_ (cut_long Hl4.out hbig)
    go_enter Tryz.func54, Tryz.ntmps54
    go_wp2_with (go_at_call 82; refine (Hw.out _ Hs.out).mono ?_; rintro e w' ⟨rfl, rfl⟩)
    go_ret3
    exact cutPost_none Hc.out (Below.refl _ _)
  by_cases hsh : n < 4 + numN l + 4
  · have Hc := hid_ (cut_cut Hl4.out hbig (by rw [Hlen.out]; exact hsh))
    go_enter Tryz.func54, Tryz.ntmps54
    go_wp2_with (go_at_call 82; refine (Hw.out _ Hs.out).mono ?_; rintro e w' ⟨rfl, rfl⟩)
    go_ret3
    exact cutPost_none Hc.out (Below.refl _ _)
  have hup := Hs.out.upto (4 + numN l) (by omega)
  have hfr := Hs.out.from_ (4 + numN l) (by omega)
  have hcut : cutAt A c (4 + numN l) = A.map fun x => x.add (4 + numN l) := if_neg (by omega)
  rw [hcut] at hfr
  have Hsum := hid_ (fun k => sum_any A (4 + numN l) c (l.take (4 + numN l)) (w.drewN k) (hup.drew k).holds hup.len (by omega))
  have Hnum := hid_ (fun k => word_any _ (n - (4 + numN l)) (c - (4 + numN l)) (l.drop (4 + numN l)) (w.drewN k) (hfr.drew k) (by omega))
  have hN2 := numN_lt (l.drop (4 + numN l))
  have hM2 := (more 0#32 (l.take (4 + numN l))).isLt
  by_cases hsum : (more 0#32 (l.take (4 + numN l))).toNat = numN (l.drop (4 + numN l))
  · have Hd := hid_ ((hup.tight (4 + numN l) (by omega) (by omega)).from_ 4 (by omega))
    have Hr := hid_ (Hs.out.from_ (4 + numN l + 4) (by omega))
    have Hc := hid_ (cut_ok Hl4.out hbig (by rw [Hlen.out]; exact hsh) hsum)
    have hb : (((more 0#32 (l.take (4 + numN l))).toNat : Int) != (numN (l.drop (4 + numN l)) : Int)) = false := by rw [hsum]; simp
    clear hsum hup hfr hcut
    go_enter Tryz.func54, Tryz.ntmps54
    go_wp2_with (go_at_call 82; refine (Hw.out _ Hs.out).mono ?_; rintro e w' ⟨rfl, rfl⟩)
    go_quiet ((first | (go_at_call 42; exact Calls.quiet_of_same (quiet_flip (Hsum.out _))) | (go_at_call 82; exact Calls.quiet_of_same (quiet_flip (Hnum.out _)))))
    clear Hw Hsum Hnum hN2 hM2
    go_wp2_with fail
    go_quiet (fail)
    go_wp2_with fail
    all_goals
      go_ret3
      refine cutPost_ok Hc.out (Sl.drew (Hd.out.at_ (by first | exact cutAt_same (by omega) | exact cutAt_off (by omega) (by omega) (by omega)) (by omega) (by omega) rfl) _) (Sl.drew (Hr.out.at_ (by first | exact cutAt_same (by omega) | exact cutAt_off (by omega) (by omega) (by omega)) (by omega) (by omega) rfl) _) (below_drewN (Below.refl _ _) _)
  · have Hc := hid_ (cut_bad Hl4.out hbig (by rw [Hlen.out]; exact hsh) hsum)
    have hb : (((more 0#32 (l.take (4 + numN l))).toNat : Int) != (numN (l.drop (4 + numN l)) : Int)) = true := by rw [bne_iff_ne]; omega
    clear hsum hup hfr hcut
    go_enter Tryz.func54, Tryz.ntmps54
    go_wp2_with (go_at_call 82; refine (Hw.out _ Hs.out).mono ?_; rintro e w' ⟨rfl, rfl⟩)
    go_quiet ((first | (go_at_call 42; exact Calls.quiet_of_same (quiet_flip (Hsum.out _))) | (go_at_call 82; exact Calls.quiet_of_same (quiet_flip (Hnum.out _)))))
    clear Hw Hsum Hnum hN2 hM2
    go_wp2_with fail
    go_ret3
    exact cutPost_none Hc.out (below_drewN (Below.refl _ _) _)
def SlPost (w : World) (n : Nat) (l : List UInt8) (e : Ending) (w' : World) : Prop := ∃ A c, e = .returned (.slice A n c) ∧ Own w.heap.size w' A n c l ∧ Below w.heap.size w w'

set_option maxHeartbeats 400000 in
theorem clone_any (A : Option Addr) (n c : Nat) (l : List UInt8) (w : World) (hs : Sl w A n c l) (hn : n ≤ 140737488355328) :
    Calls Tryz.prog 55 #[.slice A n c] w (SlPost w n l) := by
  have kn := fun (w : World) (a : Option Addr) (n c : Nat) => Lib.run_eql_slice_nil (P := Tryz.prog) w 33 5 a n c 0 0 Tryz.underlying33
  rcases A with _ | ad
  · have hc := hs.nil rfl
    have hn' := hs.cap
    obtain rfl : c = 0 := hc
    obtain rfl : n = 0 := by omega
    have hl : l = [] := List.eq_nil_of_length_eq_zero hs.len
    subst hl
    go_enter Tryz.func55, Tryz.ntmps55
    go_wp2_with fail
    go_ret
    exact ⟨none, 0, rfl, Own.none _ _, Below.refl _ _⟩
  · have Hs := hid_ hs
    clear hs
    have Hl := hid_ (own_lit w [] #[] rfl 0 rfl (by omega) w.heap.size (Nat.le_refl _))
    go_enter Tryz.func55, Tryz.ntmps55
    go_wp2_with (at_builtin; refine wpList_bytes rfl (.tmp 5) (.tmp 6) rfl w.heap.size _ 0 0 [] rfl Hl.out _ n c l rfl (Hs.out.below ((Below.refl _ _).alloc (Nat.le_refl _) _)) n l (by omega) rfl hn (by simp) ?_; intro A2 c2 w2 ho2 hb2)
    go_ret
    exact ⟨A2, c2, rfl, ho2, ((Below.refl _ _).alloc (Nat.le_refl _) _).trans hb2⟩
theorem cutPost_mk {w w' : World} {l : List UInt8} {k : Int} {A1 A2 : Option Addr} {n1 c1 n2 c2 : Nat} (h : (cutF l).1 = k) (h1 : Sl w' A1 n1 c1 (cutF l).2.1) (h2 : Sl w' A2 n2 c2 (cutF l).2.2) (hb : Below w.heap.size w w') :
    CutPost w l (.returned (.tuple #[.slice A1 n1 c1, .slice A2 n2 c2, .int .i64 k])) w' := ⟨A1, n1, c1, A2, n2, c2, by rw [h], h1, h2, hb⟩
set_option maxHeartbeats 400000 in
theorem cut_any (A : Option Addr) (n c : Nat) (l : List UInt8) (w : World) (hs : Sl w A n c l) (hn : n ≤ 140737488355328) :
    Calls Tryz.prog 23 #[.slice A n c] w (CutPost w l) := by
  have Hp := hid_ (parted_any A n c l w hs)
  have Hle := hid_ (cut_le l)
  have Hlen := hid_ hs.len
  clear hs
  go_enter Tryz.func23, Tryz.ntmps23
  go_wp2_with fail
  refine Hp.out.mono ?_
  rintro e w1 ⟨A1, n1, c1, A2, n2, c2, rfl, hs1, hs2, hb1⟩
  have Hb1 := hid_ hb1
  have Hs2 := hid_ hs2
  have Hc1 := hid_ (clone_any A1 n1 c1 _ w1 hs1 (by have := hs1.len; have := Hle.out.1; have := Hlen.out; omega))
  have Hn2 := hid_ (show n2 ≤ 140737488355328 by have := hs2.len; have := Hle.out.2; have := Hlen.out; omega)
  clear hs1 hs2 hb1
  generalize hk : (cutF l).1 = k
  have Hk := hid_ hk
  clear hk
  go_wp2_with fail
  refine Hc1.out.mono ?_
  rintro e w2 ⟨A3, c3, rfl, hs3, hb2⟩
  have Hs3 := hid_ hs3
  have Hb2 := hid_ hb2
  have Hc2 := hid_ (clone_any A2 n2 c2 _ w2 (Hs2.out.below hb2) Hn2.out)
  clear hs3 hb2
  go_wp2_with fail
  refine Hc2.out.mono ?_
  rintro e w3 ⟨A4, c4, rfl, hs4, hb3⟩
  go_wp2_with fail
  go_ret3
  exact cutPost_mk Hk.out (Hs3.out.sl.below hb3) hs4.sl (Hb1.out.trans ((Hb2.out.mono Hb1.out.size).trans (hb3.mono (Nat.le_trans Hb1.out.size Hb2.out.size))))

def PutPost (w : World) (n : Nat) (l : List UInt8) (e : Ending) (w' : World) : Prop := ∃ A c, e = .returned (.tuple #[.slice A n c, .int .i64 0]) ∧ Own w.heap.size w' A n c l ∧ Below w.heap.size w w'

set_option maxHeartbeats 400000 in
theorem put_large (A0 A1 : Option Addr) (n0 c0 n1 c1 : Nat) (w : World) (h : 8192 < n1) :
    Calls Tryz.prog 19 #[.slice A0 n0 c0, .slice A1 n1 c1] w fun e w' => e = .returned (.tuple #[.slice none 0 0, .int .i64 4]) ∧ w = w' := by
  go_enter Tryz.func19, Tryz.ntmps19
  go_wp2
  go_ret2
  exact ⟨rfl, rfl⟩

theorem putPost_mk {w w' : World} {A : Option Addr} {n c : Nat} {l : List UInt8} (h : Own w.heap.size w' A n c l) (hb : Below w.heap.size w w') : PutPost w n l (.returned (.tuple #[.slice A n c, .int .i64 0])) w' := ⟨A, c, rfl, h, hb⟩
theorem framed_tail {w : World} {A : Option Addr} {n0 n1 c : Nat} {l0 m l1 : List UInt8} (h : Sl w A (n0 + 4 + n1) c (l0 ++ m ++ l1)) (hl : l0.length = n0) (hne : ¬ c = n0) :
    Sl w (A.map fun x => x.add n0) (n0 + 4 + n1 - n0) (c - n0) (m ++ l1) := by
  have h1 := h.from_ n0 (by omega)
  rw [cutAt_add hne, List.append_assoc, ← hl, List.drop_left] at h1
  rw [hl] at h1
  exact h1
set_option maxHeartbeats 1000000 in
theorem put_any (A0 A1 : Option Addr) (n0 c0 n1 c1 : Nat) (l0 l1 : List UInt8) (w : World) (h0 : Sl w A0 n0 c0 l0) (h1 : Sl w A1 n1 c1 l1) (hn : n1 ≤ 8192) (hm : n0 ≤ 140737488000000) :
    Calls Tryz.prog 19 #[.slice A0 n0 c0, .slice A1 n1 c1] w (PutPost w (n0 + 4 + n1 + 4) (l0 ++ framed l1)) := by
  have H0 := hid_ h0
  have H1 := hid_ h1
  have Hlen := hid_ h1.len
  have Hlen0 := hid_ h0.len
  clear h0 h1
  go_enter Tryz.func19, Tryz.ntmps19
  have Hx := hid_ (show (n1 : Int) = ((BitVec.ofNat 32 n1).toNat : Int) by rw [BitVec.toNat_ofNat]; omega)
  go_wp2_with (first
    | (at_make; (with_reducible refine wpList_makeBytes rfl _ _ rfl _ (n0 + 4 + n1 + 4) rfl rfl (by omega) (by omega) ?_); intro B1 d1 w1 ho' hb'; have Ho1 := hid_ ho'; have Hb1 := hid_ hb'; clear ho' hb')
    | (at_builtin; refine wpList_bytes rfl (.tmp 18) (.tmp 19) rfl w.heap.size _ 0 _ [] rfl Ho1.out _ n0 c0 l0 rfl (H0.out.below Hb1.out) n0 l0 (by omega) rfl (by omega) Hb1.out.size ?_; intro B2 d2 w2 ho' hb'; have Ho2 := hid_ ho'; have Hb2 := hid_ (Hb1.out.trans hb'); clear ho' hb')
    | (go_at_call 41; (with_reducible refine Calls.mono (putWord_at w.heap.size B2 n0 d2 l0 (BitVec.ofNat 32 n1) _ w2 Hx.out Ho2.out Hb2.out.size (by omega)) ?_); rintro e w3 ⟨B3, d3, rfl, ho', hb'⟩; have Ho3 := hid_ ho'; have Hb3 := hid_ (Hb2.out.trans hb'); clear ho' hb')
    | (at_builtin; refine wpList_bytes rfl (.tmp 26) (.tmp 27) rfl w.heap.size _ (n0 + 4) _ _ rfl Ho3.out _ n1 c1 l1 rfl (H1.out.below Hb3.out) (n0 + 4 + n1) _ rfl rfl (by omega) Hb3.out.size ?_; intro B4 d4 w4 ho' hb'; have Ho4 := hid_ ho'; have Hb4 := hid_ (Hb3.out.trans hb'); have hne : ¬ d4 = n0 := (by have := Ho4.out.sl.cap; omega); clear ho' hb')
    | (go_at_call 42; (with_reducible refine Calls.mono (sum_any _ _ _ (word (BitVec.ofNat 32 n1) ++ l1) w4 (framed_tail Ho4.out.sl Hlen0.out hne).holds (framed_tail Ho4.out.sl Hlen0.out hne).len (by omega)) ?_); rintro e w' ⟨rfl, rfl⟩)
    | (go_at_call 41; (with_reducible refine Calls.mono (putWord_any w.heap.size B4 (n0 + 4 + n1) d4 _ _ w4 Ho4.out Hb4.out.size (by omega)) ?_); rintro e w5 ⟨B5, d5, rfl, ho', hb'⟩; have Ho5 := hid_ ho'; have Hb5 := hid_ (Hb4.out.trans hb'); clear ho' hb'))
  go_ret2
  refine putPost_mk (Ho5.out.at_ rfl ?_) Hb5.out
  rw [framed, Hlen.out]
  simp only [List.append_assoc]
theorem put_nil (A1 : Option Addr) (n1 c1 : Nat) (l1 : List UInt8) (w : World) (h1 : Sl w A1 n1 c1 l1) (hn : n1 ≤ 8192) :
    Calls Tryz.prog 19 #[.slice none 0 0, .slice A1 n1 c1] w (PutPost w (n1 + 8) (framed l1)) := by
  have h := put_any none A1 0 0 n1 c1 [] l1 w (Sl.none _) h1 hn (by omega)
  rw [List.nil_append, show 0 + 4 + n1 + 4 = n1 + 8 by omega] at h
  exact h

end Go.Proofs.YtnpbokbfkdncmaaGreat.Fr
