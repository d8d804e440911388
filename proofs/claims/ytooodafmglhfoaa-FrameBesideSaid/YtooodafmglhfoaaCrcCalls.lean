/-
  What the functions of package crc, and of its reference, answer.
-/
import Derived.Test.YtooodafmglhfoaaRows
import Derived.Test.YtooodafmglhfoaaCrcMath
import Derived.Test.YtooodafmglhfoaaBytes
import Derived.WalkKit
import Derived.WalkSpells
import Derived.WalkLawsBesides
import Derived.Lib.SlBytesConst
namespace Go.Proofs.Ytooodafmglhfoaa
open Go.RowKit Crc

theorem int_of {k : IntKind} {a b : Int} (h : a = b) : Value.int k a = Value.int k b := by rw [h]
theorem ret_of {k : IntKind} {a b : Int} (h : a = b) : Ending.returned (.int k a) = .returned (.int k b) := by rw [h]

theorem and1_yes {y : BitVec 32} (h : y.getLsbD 0 = true) : (bits .and .u32 (y.toNat : Int) 1 == 1) = true := by rw [bits_and1, if_pos h]; rfl
theorem and1_no {y : BitVec 32} (h : y.getLsbD 0 = false) : (bits .and .u32 (y.toNat : Int) 1 == 1) = false := by rw [bits_and1, if_neg (by rw [h]; decide)]; rfl

set_option maxHeartbeats 400000 in
theorem eight_any (x : BitVec 32) (w : World) :
    Calls Try.prog 29 #[.int .u32 x.toNat] w fun e w' => e = .returned (.int .u32 (steps 8 x).toNat) ∧ w = w' := by
  go_enter Try.func29, Try.ntmps29
  go_wp2
  go_loop [0,3,4] (fun a _ i => ∃ k : Nat, k ≤ 8 ∧ i = .int .i64 k ∧ a = .int .u32 (steps k x).toNat) (fun _ _ i => 8 - (intOf i).toNat)
  case atStart => exact ⟨0, by omega, rfl, rfl⟩
  case round =>
    obtain ⟨k, hk, rfl, rfl⟩ := hrel
    by_cases hlt : k < 8
    · cases hb : (steps k x).getLsbD 0
      · have h1 := and1_no hb
        have H : Hid (Crc.step (steps k x) = steps k x >>> 1) := step_none _ hb
        clear hb
        go_wp2
        go_round
        case rel => exact ⟨k + 1, by omega, by go_num, by rw [steps, H.out, half]⟩
        case measure => simp [intOf]; omega
      · have h1 := and1_yes hb
        have H : Hid (Crc.step (steps k x) = steps k x >>> 1 ^^^ poly) := step_one _ hb
        clear hb
        go_wp2
        go_round
        case rel => exact ⟨k + 1, by omega, by go_num, by rw [steps, H.out, half, xor_poly]⟩
        case measure => simp [intOf]; omega
    · obtain rfl : k = 8 := by omega
      go_wp2
      go_ret
      exact ⟨rfl, rfl⟩

theorem take_snoc {α : Type} (l : List α) {k : Nat} (h : k < l.length) : l.take (k + 1) = l.take k ++ [l[k]] := by
  rw [List.take_succ_eq_append_getElem h]
theorem regs_take (r : BitVec 32) (l : List UInt8) {k : Nat} (h : k < l.length) : regs r (l.take (k + 1)) = steps 8 (feed (regs r (l.take k)) l[k]) := by
  rw [take_snoc l h, regs_snoc]; rfl

set_option maxHeartbeats 400000 in
theorem more_any (s : BitVec 32) (A : Option Addr) (n c : Nat) (l : List UInt8) (w : World) (hA : Holds w A (bytes l)) (hn : l.length = n) (hc : n ≤ 9223372036854775807) :
    Calls Try.prog 26 #[.int .u32 s.toNat, .slice A n c] w fun e w' => e = .returned (.int .u32 (more s l).toNat) ∧ w = w' := by
  subst hn
  have hnot := not_u32 s
  go_enter Try.func26, Try.ntmps26
  go_wp2
  clear hnot
  go_loop [5, 7, 12] (fun r _ i => ∃ k : Nat, k ≤ l.length ∧ i = .int .i64 k ∧ r = .int .u32 (regs (inv s) (l.take k)).toNat) (fun _ _ i => l.length - (intOf i).toNat)
  case atStart => exact ⟨0, by omega, rfl, by simp [regs_nil]⟩
  case round =>
    obtain ⟨k, hk, rfl, rfl⟩ := hrel
    by_cases hlt : k < l.length
    · obtain ⟨b, off, rfl, hcell⟩ := hA.at_ hlt
      have hb := xor_byte' (regs (inv s) (l.take k)) l[k]
      have H := hid_ (regs_take (inv s) l hlt)
      go_wp2_with (go_at_call 29; refine (eight_any _ _).mono ?_; rintro e w' ⟨rfl, rfl⟩)
      go_round
      case rel => exact ⟨k + 1, by omega, by go_num, by rw [H.out]⟩
      case measure => simp [intOf]; omega
    · obtain rfl : k = l.length := by omega
      go_wp2
      go_ret
      refine ⟨ret_of ?_, rfl⟩
      rw [not_u32]; rfl

set_option maxHeartbeats 400000 in
theorem sum_any (A : Option Addr) (n c : Nat) (l : List UInt8) (w : World) (hA : Holds w A (bytes l)) (hn : l.length = n) (hc : n ≤ 9223372036854775807) :
    Calls Try.prog 20 #[.slice A n c] w fun e w' => e = .returned (.int .u32 (more 0#32 l).toNat) ∧ w = w' := by
  have h1 := hid_ (more_any 0 A n c l w hA hn hc)
  go_enter Try.func20, Try.ntmps20
  go_wp2_with (go_at_call 26; refine h1.out.mono ?_; rintro e w' ⟨rfl, rfl⟩)
  go_ret
  exact ⟨rfl, rfl⟩

end Go.Proofs.Ytooodafmglhfoaa
