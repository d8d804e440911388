/-
  What the reference of package crc answers.
-/
import Derived.Test.YtnpbokbfkdncmaaGreatZGB
namespace Go.Proofs.YtnpbokbfkdncmaaGreat
set_option linter.unusedSimpArgs false
set_option linter.unusedVariables false
open Go.RowKit Crc

set_option maxHeartbeats 400000 in
theorem refstep_any (x : BitVec 32) (w : World) :
    Calls Tryz.prog 85 #[.int .u32 x.toNat] w fun e w' => e = .returned (.int .u32 (Crc.step x).toNat) ∧ w = w' := by
  cases hb : x.getLsbD 0
  · have h1 := and1_no hb
    have H : Hid (Crc.step x = x >>> 1) := step_none _ hb
    clear hb
    go_enter Tryz.func85, Tryz.ntmps85
    go_wp2
    go_ret
    exact ⟨ret_of (by rw [H.out, half]), rfl⟩
  · have h1 := and1_yes hb
    have H : Hid (Crc.step x = x >>> 1 ^^^ poly) := step_one _ hb
    clear hb
    go_enter Tryz.func85, Tryz.ntmps85
    go_wp2
    go_ret
    exact ⟨ret_of (by rw [H.out, half, xor_poly]), rfl⟩

set_option maxHeartbeats 400000 in
theorem refmore_any (s : BitVec 32) (A : Option Addr) (n c : Nat) (l : List UInt8) (w : World) (hA : Holds w A (bytes l)) (hn : l.length = n) (hc : n ≤ 9223372036854775807) :
    Calls Tryz.prog 65 #[.int .u32 s.toNat, .slice A n c] w fun e w' => e = .returned (.int .u32 (more s l).toNat) ∧ w = w' := by
  subst hn
  have hnot := not_u32 s
  go_enter Tryz.func65, Tryz.ntmps65
  go_wp2
  clear hnot
  go_loop [5, 6, 7] (fun r i _ => ∃ k : Nat, k ≤ l.length ∧ i = .int .i64 k ∧ r = .int .u32 (regs (inv s) (l.take k)).toNat) (fun _ i _ => l.length - (intOf i).toNat)
  case atStart => exact ⟨0, by omega, rfl, by simp [regs_nil]⟩
  case round =>
    obtain ⟨k, hk, rfl, rfl⟩ := hrel
    by_cases hlt : k < l.length
    · obtain ⟨b, off, rfl, hcell⟩ := hA.at_ hlt
      have hb := xor_byte' (regs (inv s) (l.take k)) l[k]
      have H := hid_ (regs_take (inv s) l hlt)
      generalize hx : feed (regs (inv s) (l.take k)) l[k] = x at *
      have Hx := hid_ hx
      clear hx
      go_wp2
      go_loop [5, 7] (fun r i => ∃ j : Nat, j ≤ 8 ∧ i = .int .i64 j ∧ r = .int .u32 (steps j x).toNat) (fun _ i => 8 - (intOf i).toNat)
      case atStart => exact ⟨0, by omega, rfl, rfl⟩
      case round =>
        obtain ⟨j, hj, rfl, rfl⟩ := hrel
        by_cases hjt : j < 8
        · go_wp2_with (go_at_call 85; refine (refstep_any _ _).mono ?_; rintro e w' ⟨rfl, rfl⟩)
          go_round
          case rel => exact ⟨j + 1, by omega, by go_num, rfl⟩
          case measure => simp [intOf]; omega
        · obtain rfl : j = 8 := by omega
          go_wp2
          go_round
          case rel => exact ⟨k + 1, by omega, by go_num, by rw [H.out]⟩
          case measure => simp [intOf]; omega
    · obtain rfl : k = l.length := by omega
      go_wp2
      go_ret
      refine ⟨ret_of ?_, rfl⟩
      rw [not_u32]; rfl

set_option maxHeartbeats 400000 in
theorem refsum_any (A : Option Addr) (n c : Nat) (l : List UInt8) (w : World) (hA : Holds w A (bytes l)) (hn : l.length = n) (hc : n ≤ 9223372036854775807) :
    Calls Tryz.prog 34 #[.slice A n c] w fun e w' => e = .returned (.int .u32 (more 0#32 l).toNat) ∧ w = w' := by
  have h1 := hid_ (refmore_any 0 A n c l w hA hn hc)
  go_enter Tryz.func34, Tryz.ntmps34
  go_wp2_with (go_at_call 65; refine h1.out.mono ?_; rintro e w' ⟨rfl, rfl⟩)
  go_ret
  exact ⟨rfl, rfl⟩

end Go.Proofs.YtnpbokbfkdncmaaGreat
