/-
  The laws' comparison of two slices of bytes that read alike.
-/
import Derived.Test.YtfnjfjghajcdkaaSl
namespace Go.Proofs.Ytfnjfjghajcdkaa
open Go.RowKit

set_option maxHeartbeats 400000 in
theorem same_true (A A' : Option Addr) (n c c' : Nat) (l : List UInt8) (w : World) (h1 : Sl w A n c l) (h2 : Sl w A' n c' l) :
    Calls Try.prog 19 #[.slice A n c, .slice A' n c'] w fun e w' => e = .returned (.bool true) ∧ ∃ k, w' = w.drewN k := by
  have hle := h1.le
  have hb0 : ((n : Int) != (n : Int)) = false := by simp
  go_enter Try.func19, Try.ntmps19
  go_wp2
  go_loopw [5] (fun i wr => ∃ k q : Nat, k ≤ n ∧ i = .int .i64 k ∧ wr = w.drewN q) (fun i _ => n - (intOf i).toNat)
  case atStart => exact ⟨0, 0, by omega, rfl, rfl⟩
  case round =>
    obtain ⟨k, q, hk, rfl, rfl⟩ := hrel
    by_cases hlt : k < n
    · have hkl : k < l.length := by rw [h1.len]; exact hlt
      obtain ⟨b, off, rfl, hc1⟩ := h1.holds.at_ hkl
      obtain ⟨b', off', rfl, hc2⟩ := h2.holds.at_ hkl
      have hb : ((l[k].toNat : Int) != (l[k].toNat : Int)) = false := by simp
      go_wp2_with fail
      go_quiet (fail)
      go_wp2_with fail
      go_roundw
      case rel => exact ⟨k + 1, q + nq, by omega, by go_num, rfl⟩
      case measure => simp [intOf]; omega
    · obtain rfl : k = n := by omega
      go_wp2
      go_ret
      exact ⟨rfl, q, rfl⟩

/-- .. told by what is left as it was. -/
theorem same_below (A A' : Option Addr) (n c c' : Nat) (l : List UInt8) (w : World) (h1 : Sl w A n c l) (h2 : Sl w A' n c' l) :
    Calls Try.prog 19 #[.slice A n c, .slice A' n c'] w fun e w' => e = .returned (.bool true) ∧ Below w.heap.size w w' :=
  (same_true A A' n c c' l w h1 h2).mono fun e w' ⟨h, k, hw⟩ => ⟨h, by rw [hw]; exact below_drewN (Below.refl _ _) _⟩
end Go.Proofs.Ytfnjfjghajcdkaa
