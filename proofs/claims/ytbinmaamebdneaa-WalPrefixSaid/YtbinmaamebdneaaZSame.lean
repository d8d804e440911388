/-
  The laws' comparisons: of two slices of bytes, of two slices of slices of bytes, that read alike.
-/
import Derived.Test.YtbinmaamebdneaaZSls
namespace Go.Proofs.Ytbinmaamebdneaa
open Go.RowKit

set_option maxHeartbeats 400000 in
theorem same_true (A A' : Option Addr) (n c c' : Nat) (l : List UInt8) (w : World) (h1 : Sl w A n c l) (h2 : Sl w A' n c' l) :
    Calls Try.prog 28 #[.slice A n c, .slice A' n c'] w fun e w' => e = .returned (.bool true) ∧ ∃ k, w' = w.drewN k := by
  have hle := h1.le
  have hb0 : ((n : Int) != (n : Int)) = false := by simp
  go_enter Try.func28, Try.ntmps28
  go_wp2
  go_loopw [5] (fun i wr => ∃ k q : Nat, k ≤ n ∧ i = .int .i64 k ∧ wr = w.drewN q) (fun i _ => n - (intOf i).toNat)
  case atStart => exact ⟨0, 0, by omega, rfl, rfl⟩
  case round =>
    obtain ⟨k, q, hk, rfl, rfl⟩ := hrel
    by_cases hlt : k < n
    · have hkl : k < l.length := by rw [h1.len]; exact hlt
      obtain ⟨b, off, rfl, hc1⟩ := h1.holds.at_ hkl
      obtain ⟨b', off', rfl, hc2⟩ := h2.holds.at_ hkl
      have hb : ((l[k].toNat : Int) != (l[k].toNat : Int)) = false := by simp
      go_wp2_with fail
      go_quiet (fail)
      go_wp2_with fail
      go_roundw
      case rel => exact ⟨k + 1, q + nq, by omega, by go_num, rfl⟩
      case measure => simp [intOf]; omega
    · obtain rfl : k = n := by omega
      go_wp2
      go_ret
      exact ⟨rfl, q, rfl⟩

set_option maxHeartbeats 400000 in
theorem sames_true (A A' : Option Addr) (n c c' : Nat) (ls : List (List UInt8)) (w : World) (h1 : Sls w A n c ls) (h2 : Sls w A' n c' ls) :
    Calls Try.prog 15 #[.slice A n c, .slice A' n c'] w fun e w' => e = .returned (.bool true) ∧ ∃ k, w' = w.drewN k := by
  have hle := h1.le
  have hb0 : ((n : Int) != (n : Int)) = false := by simp
  go_enter Try.func15, Try.ntmps15
  go_wp2
  go_loopw [5] (fun i wr => ∃ k q : Nat, k ≤ n ∧ i = .int .i64 k ∧ wr = w.drewN q) (fun i _ => n - (intOf i).toNat)
  case atStart => exact ⟨0, 0, by omega, rfl, rfl⟩
  case round =>
    obtain ⟨k, q, hk, rfl, hq⟩ := hrel
    have g1 : Sls wr A n c ls := by rw [hq]; exact h1.below (below_drewN (Below.refl _ _) _)
    have g2 : Sls wr A' n c' ls := by rw [hq]; exact h2.below (below_drewN (Below.refl _ _) _)
    have Hq := hid_ hq
    clear hq
    by_cases hlt : k < n
    · have hkl : k < ls.length := by rw [h1.len]; exact hlt
      obtain ⟨b, off, A1, n1, c1, rfl, hc1, hs1, _⟩ := g1.at_ hkl
      obtain ⟨b', off', A2, n2, c2, rfl, hc2, hs2, _⟩ := g2.at_ hkl
      obtain rfl : n1 = n2 := by rw [← hs1.len, ← hs2.len]
      have Hc := hid_ (fun q => same_true A1 A2 n1 c1 c2 _ (wr.drewN q) (hs1.drew q) (hs2.drew q))
      clear hs1 hs2
      go_wp2_with fail
      go_quiet ((go_at_call 28; exact Calls.quiet_of (Hc.out _)))
      go_wp2_with fail
      go_roundw
      case rel => exact ⟨k + 1, q + nq, by omega, by go_num, by rw [Hq.out, World.drewN_drewN]⟩
      case measure => simp [intOf]; omega
    · obtain rfl : k = n := by omega
      go_wp2
      go_ret
      exact ⟨rfl, q, Hq.out⟩
/-- .. told by what is left as it was. -/
theorem same_below (A A' : Option Addr) (n c c' : Nat) (l : List UInt8) (w : World) (h1 : Sl w A n c l) (h2 : Sl w A' n c' l) :
    Calls Try.prog 28 #[.slice A n c, .slice A' n c'] w fun e w' => e = .returned (.bool true) ∧ Below w.heap.size w w' :=
  (same_true A A' n c c' l w h1 h2).mono fun e w' ⟨h, k, hw⟩ => ⟨h, by rw [hw]; exact below_drewN (Below.refl _ _) _⟩
theorem sames_below (A A' : Option Addr) (n c c' : Nat) (ls : List (List UInt8)) (w : World) (h1 : Sls w A n c ls) (h2 : Sls w A' n c' ls) :
    Calls Try.prog 15 #[.slice A n c, .slice A' n c'] w fun e w' => e = .returned (.bool true) ∧ Below w.heap.size w w' :=
  (sames_true A A' n c c' ls w h1 h2).mono fun e w' ⟨h, k, hw⟩ => ⟨h, by rw [hw]; exact below_drewN (Below.refl _ _) _⟩
end Go.Proofs.Ytbinmaamebdneaa
