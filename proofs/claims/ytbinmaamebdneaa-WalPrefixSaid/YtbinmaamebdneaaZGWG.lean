/-
  Numbers as eight bytes, the highest first; a file of a log as frames.
-/
import Derived.Test.YtbinmaamebdneaaZGWF
import Derived.Laws.MakeOwn
namespace Go.Proofs.Ytbinmaamebdneaa
set_option linter.unusedSimpArgs false
set_option linter.unusedVariables false
open Fm
namespace Wl
set_option linter.unusedSimpArgs false
set_option linter.unusedVariables false
/-- The k lowest bytes of n, the highest of them first. -/
def lowB : Nat → Nat → List UInt8
  | 0, _ => []
  | k + 1, n => lowB k (n / 256) ++ [UInt8.ofNat n]
def headB (n : Nat) : List UInt8 := lowB 8 n
theorem lowB_length : ∀ k n, (lowB k n).length = k
  | 0, _ => rfl
  | k + 1, n => by rw [lowB, List.length_append, lowB_length k]; rfl
theorem headB_length (n : Nat) : (headB n).length = 8 := lowB_length 8 n
theorem lowB_cons : ∀ k n, lowB (k + 1) n = UInt8.ofNat (n / 256 ^ k) :: lowB k n
  | 0, n => by simp [lowB]
  | k + 1, n => by
    have h := lowB_cons k (n / 256)
    rw [lowB, h, List.cons_append, Nat.div_div_eq_div_mul, show 256 * 256 ^ k = 256 ^ (k + 1) by rw [Nat.pow_succ, Nat.mul_comm]]
    rw [show lowB (k + 1) n = lowB k (n / 256) ++ [UInt8.ofNat n] from rfl]
def numOf (l : List UInt8) : Nat := l.foldl (fun a b => a * 256 + b.toNat) 0
theorem numOf_snoc (l : List UInt8) (b : UInt8) : numOf (l ++ [b]) = numOf l * 256 + b.toNat := by unfold numOf; rw [List.foldl_append]; rfl
theorem numOf_low : ∀ k n, numOf (lowB k n) = n % 256 ^ k
  | 0, n => by rw [Nat.pow_zero, Nat.mod_one]; rfl
  | k + 1, n => by
    rw [lowB, numOf_snoc, numOf_low k, show (UInt8.ofNat n).toNat = n % 256 by simp]
    have h1 : n % 256 ^ (k + 1) = n % 256 + 256 * (n / 256 % 256 ^ k) := by rw [Nat.pow_succ, Nat.mul_comm, Nat.mod_mul]
    rw [h1]
    omega
theorem numOf_head {n : Nat} (h : n < 18446744073709551616) : numOf (headB n) = n := by
  unfold headB
  rw [numOf_low]
  exact Nat.mod_eq_of_lt (by rw [show (256 : Nat) ^ 8 = 18446744073709551616 from rfl]; exact h)
theorem numOf_take (l : List UInt8) {k : Nat} (hk : k < l.length) : numOf (l.take (k + 1)) = numOf (l.take k) * 256 + l[k].toNat := by
  rw [List.take_succ_eq_append_getElem hk, numOf_snoc]
theorem numOf_lt (l : List UInt8) : ∀ k, k ≤ l.length → numOf (l.take k) < 256 ^ k
  | 0, _ => by rw [List.take_zero]; decide
  | k + 1, h => by
    rw [numOf_take l (by omega), Nat.pow_succ]
    have h1 := numOf_lt l k (by omega)
    have := (l[k]'(by omega)).toNat_lt
    omega
/-- A file's bytes: its head's frame, then its records'. -/
def encW (first : Nat) (recs : List (List UInt8)) : List UInt8 := frames (headB first :: recs)
theorem encW_snoc (first : Nat) (recs : List (List UInt8)) (r : List UInt8) : encW first (recs ++ [r]) = encW first recs ++ framed r := by
  unfold encW
  rw [show headB first :: (recs ++ [r]) = (headB first :: recs) ++ [r] from rfl, frames_snoc]
theorem encW_nil (first : Nat) : encW first [] = framed (headB first) := by
  unfold encW
  rw [frames_cons, frames_nil, List.append_nil]
theorem encW_one (first : Nat) (r : List UInt8) : encW first [r] = framed (headB first) ++ framed r := by
  have := encW_snoc first [] r
  rw [encW_nil] at this
  exact this
theorem encW_pos (first : Nat) (recs : List (List UInt8)) : 16 ≤ (encW first recs).length := by
  unfold encW
  rw [frames_cons, List.length_append, framed_length, headB_length]
  omega
/-- What a loader makes of bytes: the first record's number, the records, how many bytes are whole. -/
structure Parts where
  first : Nat
  recs : List (List UInt8)
  whole : Nat
def partsW (c : List UInt8) : Parts :=
  match (allOf c).1 with
  | [] => ⟨0, [], (allOf c).2.1⟩
  | h :: t => ⟨numOf h, t, (allOf c).2.1⟩
end Wl
end Go.Proofs.Ytbinmaamebdneaa

/-
  head and number: a number laid as eight bytes, and read.
-/
namespace Go.Proofs.Ytbinmaamebdneaa
set_option linter.unusedSimpArgs false
set_option linter.unusedVariables false
open Go.RowKit Fm
namespace Wl
set_option linter.unusedSimpArgs false
set_option linter.unusedVariables false
theorem made8 : (madeCells (Value.int IntKind.u8 0).cells (Int.toNat 8 * 1)).toList = bytes (List.replicate 8 0) := by
  simp [madeCells, Value.cells, bytes, byte, Array.range, List.replicate]
/-- make([]byte, 8) -/
theorem wpList_make8 {w : World} {ops : Array Oper} {rest : List Oper} {o : Oper} {a : Act} {Q : Exit → Act → World → Prop} (hg : o.guard = .none) (l c : Operand)
    (ho : o.op = Op.makeSlice 33 l c) (hl : a.eval l = .int .i64 8) (hc : a.eval c = .int .i64 8)
    (h : ∀ w', Own w.heap.size w' (some ⟨w.heap.size, 0, none⟩) 8 8 (List.replicate 8 0) → Below w.heap.size w w' → wpList Try.prog ops Q rest (a.put o.dst (.slice (some ⟨w.heap.size, 0, none⟩) 8 8)) w') :
    wpList Try.prog ops Q (o :: rest) a w := by
  obtain ⟨i0, hi0, hz0, hz1, hz2⟩ := info_parts info_u8
  refine wpList_plain hg fun K hK => ?_
  have hr := run_make (P := Try.prog) w 33 5 i0 _ Try.underlying33 hi0 hz0 .i64 .i64 8 8 (by decide) (by decide) (by rw [hz2]; decide) (by decide)
  unfold Oper.wp execOp
  simp only [ho, hl, hc, Sem.run_bind, Sem.run_pure, Result.andThen_ok, hr]
  refine hK _ _ (h _ ?_ ((Below.refl _ _).alloc (Nat.le_refl _) _))
  rw [hz1]
  exact own_lit w (List.replicate 8 0) (madeCells (Value.int IntKind.u8 0).cells (Int.toNat 8 * 1)) made8 8 rfl (by decide) _ (Nat.le_refl _)
theorem head_list (n : Nat) {i : Nat} (hi : i < 8) : (List.replicate (8 - i) (0 : UInt8) ++ lowB i n).set (7 - i) (UInt8.ofNat (n / 256 ^ i)) = List.replicate (8 - (i + 1)) 0 ++ lowB (i + 1) n := by
  rw [lowB_cons, show 8 - i = (7 - i) + 1 by omega, show 8 - (i + 1) = 7 - i by omega, List.replicate_succ', List.append_assoc, List.set_append_right _ _ (by rw [List.length_replicate]; exact Nat.le_refl _), List.length_replicate, Nat.sub_self]
  rfl
theorem head_len (n : Nat) {i : Nat} (hi : i ≤ 8) : (List.replicate (8 - i) (0 : UInt8) ++ lowB i n).length = 8 := by
  rw [List.length_append, List.length_replicate, lowB_length]
  omega
theorem pow_div (n i : Nat) : n / 256 ^ i / 256 = n / 256 ^ (i + 1) := by rw [Nat.div_div_eq_div_mul, Nat.pow_succ]
set_option maxHeartbeats 4000000 in
theorem head_any (n : Nat) (w : World) (hn : n < 18446744073709551616) : Calls Try.prog 34 #[.int .u64 (n : Nat)] w (SlPost w 8 (headB n)) := by
  have HN := hid_ hn
  clear hn
  go_enter Try.func34, Try.ntmps34
  go_wp2_with (first | (at_make; (with_reducible refine wpList_make8 rfl _ _ rfl rfl rfl ?_); intro w1 ho hb; have HO := hid_ ho; have HB := hid_ hb; clear ho hb) | fail)
  have hsz := HB.out.size
  go_loopw [0, 8] (fun vn vi wr => ∃ i : Nat, i ≤ 8 ∧ vi = .int .i64 (i : Nat) ∧ vn = .int .u64 ((n / 256 ^ i : Nat) : Int) ∧ Hid (Own w.heap.size wr (some ⟨w.heap.size, 0, none⟩) 8 8 (List.replicate (8 - i) 0 ++ lowB i n)) ∧ Hid (Below w.heap.size w wr)) (fun _ vi _ => 8 - (intOf vi).toNat)
  case atStart => exact ⟨0, by omega, rfl, by simp, HO, HB⟩
  case round =>
    obtain ⟨i, hi, rfl, rfl, HO, HB⟩ := hrel
    by_cases hlt : i < 8
    · have hl := head_len n hi
      have hst := Own.store HO.out (Nat.le_refl _) (7 - i) (by omega) (UInt8.ofNat (n / 256 ^ i))
      have HT := hid_ hst
      rw [head_list n hlt] at HT
      have c1 := hst.1
      have f1 := hst.2.1
      have e1 : (8 : Int) - 1 - (i : Int) = ((7 - i : Nat) : Int) := by omega
      have e1' : (7 : Int) - (i : Int) = ((7 - i : Nat) : Int) := by omega
      have x1 : (0 : Int) ≤ ((7 - i : Nat) : Int) := by omega
      have x2 : ((7 - i : Nat) : Int) < 8 := by omega
      have hnx := pow_div n i
      have hbt : (n / 256 ^ i) % 256 = (UInt8.ofNat (n / 256 ^ i)).toNat := by simp
      have HK := hid_ hlt
      have hnn : n / 256 ^ i < 18446744073709551616 := Nat.lt_of_le_of_lt (Nat.div_le_self _ _) HN.out
      generalize (List.replicate (8 - i) (0 : UInt8) ++ lowB i n)[7 - i]'(by omega) = old at *
      generalize n / 256 ^ i = m at *
      generalize UInt8.ofNat m = b at *
      have hbi : ((m : Int) % 256) = (b.toNat : Int) := by omega
      have hmi : ((m : Int) / 256) = ((n / 256 ^ (i + 1) : Nat) : Int) := by rw [← hnx]; simp
      clear hst hl
      go_wp2_with fail
      exact ⟨⟨i + 1, by have := HK.out; omega, by go_num, by first | rfl | simp | rw [hmi], hid_ HT.out.2.2.1, hid_ (HB.out.trans HT.out.2.2.2)⟩, by have := HK.out; simp [intOf]; omega⟩
    · obtain rfl : i = 8 := by omega
      go_wp2_with fail
      go_ret
      exact ⟨_, 8, rfl, HO.out, HB.out⟩
theorem shl_or {m : Nat} (b : UInt8) (h : m < 256 ^ 7) : bits BinOp.or IntKind.u64 (IntKind.u64.wrap ((m : Int) * 256)) (IntKind.u64.wrap (b.toNat : Int)) = ((m * 256 + b.toNat : Nat) : Int) := by
  have hb := b.toNat_lt
  have h7 : (256 : Nat) ^ 7 = 72057594037927936 := rfl
  have e1 : IntKind.u64.wrap ((m : Int) * 256) = ((m * 256 : Nat) : Int) := by simp [IntKind.wrap, IntKind.bits, IntKind.signed]; omega
  have e2 : IntKind.u64.wrap (b.toNat : Int) = ((b.toNat : Nat) : Int) := by simp [IntKind.wrap, IntKind.bits, IntKind.signed]; omega
  rw [e1, e2, u64_or_nat _ _ (by omega) (by omega), nat_join 8 _ _ (Nat.mul_mod_left _ _) (by omega)]
set_option maxHeartbeats 4000000 in
theorem number_any (A : Option Addr) (c : Nat) (l : List UInt8) (w : World) (hs : Sl w A 8 c l) (hv : numOf l < 9223372036854775808) : Calls Try.prog 58 #[.slice A 8 c] w (fun e w' => e = .returned (.tuple #[.int .u64 (numOf l : Nat), .int .i64 0]) ∧ w = w') := by
  have HL := hid_ hs.len
  have HS := hid_ hs
  have HV := hid_ hv
  have HT := hid_ (fun k hk => numOf_take l (k := k) hk)
  have HLT := hid_ (fun k hk => numOf_lt l k hk)
  have HE := hid_ (show numOf (l.take 8) = numOf l by rw [List.take_of_length_le (by rw [HL.out]; exact Nat.le_refl _)])
  clear hs hv
  go_enter Try.func58, Try.ntmps58
  go_wp2_with fail
  go_loop [4, 6, 12] (fun vn _ vi => ∃ k : Nat, k ≤ 8 ∧ vi = .int .i64 (k : Nat) ∧ vn = .int .u64 ((numOf (l.take k) : Nat) : Int)) (fun _ _ vi => 8 - (intOf vi).toNat)
  case atStart => exact ⟨0, by omega, rfl, rfl⟩
  case round =>
    obtain ⟨k, hk, rfl, rfl⟩ := hrel
    by_cases hlt : k < 8
    · have hkl : k < l.length := by rw [HL.out]; exact hlt
      obtain ⟨b, off, rfl, hc⟩ := HS.out.holds.at_ hkl
      have hT := HT.out k hkl
      have hLT := HLT.out k (by omega)
      have hpw : (256 : Nat) ^ k ≤ 256 ^ 7 := Nat.pow_le_pow_right (by decide) (by omega)
      have hor := shl_or (m := numOf (l.take k)) l[k] (Nat.lt_of_lt_of_le hLT hpw)
      rw [← hT] at hor
      have HK := hid_ hlt
      generalize l[k] = x at *
      generalize hm' : numOf (l.take (k + 1)) = m' at *
      have HM := hid_ hm'
      clear hm'
      generalize numOf (l.take k) = m at *
      clear hT hLT hpw hkl
      go_wp2_with fail
      go_round
      case rel => exact ⟨k + 1, by have := HK.out; omega, by go_num, by rw [HM.out]⟩
      case measure => have := HK.out; simp [intOf]; omega
    · obtain rfl : k = 8 := by omega
      rw [HE.out]
      have hv := HV.out
      clear HE HT HLT
      generalize hm : numOf l = m at *
      have HM := hid_ hm
      clear hm
      have e1 : decide ((9223372036854775807 : Int) < (m : Int)) = false := decide_eq_false (by omega)
      have e2 : decide ((m : Int) > 9223372036854775807) = false := decide_eq_false (by omega)
      have e3 : ¬ (m : Int) > 9223372036854775807 := by omega
      clear hv
      go_wp2_with fail
      go_ret2
      exact ⟨by rw [HM.out]; rfl, rfl⟩
end Wl
end Go.Proofs.Ytbinmaamebdneaa
