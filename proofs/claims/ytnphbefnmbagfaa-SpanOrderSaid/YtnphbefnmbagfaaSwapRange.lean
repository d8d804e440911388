/-
  What the library's swapRange does with a row of spans.
-/
import Derived.Test.YtnphbefnmbagfaaSortSt
import Derived.BigRegion
namespace Go.Proofs.Ytnphbefnmbagfaa
open Go.RowKit Ru

def swapK (ss : List SpanD) (a b : Nat) : Nat → List SpanD
  | 0 => ss
  | k + 1 => swp (swapK ss a b k) (a + k) (b + k)
theorem swapK_length (ss : List SpanD) (a b k : Nat) : (swapK ss a b k).length = ss.length := by
  induction k with
  | zero => rfl
  | succ k ih => rw [swapK, swp_length, ih]

set_option maxRecDepth 100000 in
set_option maxHeartbeats 4000000 in
theorem swapRange_any (w0 : World) (g off : Nat) (ss : List SpanD) (c : Nat) (a b n : Nat) (fv : Value) (w : World) (hst : St w0 g off ss w) (ha : a + n ≤ ss.length) (hb : b + n ≤ ss.length) (hab : a + n ≤ b) (hbig : ss.length ≤ 1000000000) :
    Calls Try.prog 54 #[.slice (some ⟨g, off, none⟩) ss.length c, .int .i64 (a : Nat), .int .i64 (b : Nat), .int .i64 (n : Nat), fv] w fun e w' => e = .returned (.tuple #[]) ∧ St w0 g off (swapK ss a b n) w' := by
  have Hst := hid_ hst
  clear hst
  go_enter Try.func54, Try.ntmps54
  go_wp2_with fail
  go_loopw [10] (fun vi wr => ∃ k : Nat, k ≤ n ∧ vi = .int .i64 (k : Nat) ∧ St w0 g off (swapK ss a b k) wr) (fun vi _ => n - (intOf vi).toNat)
  case atStart => exact ⟨0, by omega, rfl, Hst.out⟩
  case round =>
    obtain ⟨k, hk, rfl, hs⟩ := hrel
    have Hs := hid_ hs
    clear hs
    by_cases hlt : k < n
    · have hl := swapK_length ss a b k
      have hi : a + k < (swapK ss a b k).length := by omega
      have hj : b + k < (swapK ss a b k).length := by omega
      have Hi := hid_ (Hs.out.at_ _ hi)
      have Hj := hid_ (Hs.out.at_ _ hj)
      have Hsw := hid_ (Hs.out.swap hi hj).drew
      have fr : ∀ o, wr.frozen? ⟨g, o, none⟩ = false := Hs.out.free
      obtain ⟨x0, x1, x2, x3, x4, x5, x6, x7⟩ := Hi.out
      obtain ⟨y0, y1, y2, y3, y4, y5, y6, y7⟩ := Hj.out
      have ia : (a : Int) + (k : Int) < (ss.length : Int) := by omega
      have ib : (b : Int) + (k : Int) < (ss.length : Int) := by omega
      have ia0 : (0 : Int) ≤ (a : Int) + (k : Int) := by omega
      have ib0 : (0 : Int) ≤ (b : Int) + (k : Int) := by omega
      generalize (swapK ss a b k)[a + k] = s at *
      generalize (swapK ss a b k)[b + k] = t at *
      clear hl hi hj
      go_wp2_with fail
      go_region
      clear x0 x1 x2 x3 x4 x5 x6 x7 y0 y1 y2 y3 y4 y5 y6 y7 fr
      go_wp2_with fail
      go_roundw
      case rel => exact ⟨k + 1, by omega, by go_num, Hsw.out⟩
      case measure => simp [intOf]; omega
    · obtain rfl : k = n := by omega
      go_wp2_with fail
      go_end0
      exact ⟨rfl, Hs.out⟩
end Go.Proofs.Ytnphbefnmbagfaa
