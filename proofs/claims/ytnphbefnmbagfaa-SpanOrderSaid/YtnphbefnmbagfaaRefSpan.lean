/-
  What the reference's Eight, Number and Right answer.
-/
import Derived.Test.YtnphbefnmbagfaaRefName
namespace Go.Proofs.Ytnphbefnmbagfaa
open Go.RowKit Ru

theorem eightK_succ (n k : Nat) : eightK n (k + 1) = eightK n k ++ [byteOf n (7 - k)] := rfl
theorem byte_shr (n : Nat) (hn : n < 18446744073709551616) (k : Nat) (b : Int) (hb : b = ((n / 2 ^ (8 * k) : Nat) : Int)) : bits .and .u64 b 255 % (256 : Int) = ((byteOf n k).toNat : Int) := by
  subst hb
  have h1 : n / 2 ^ (8 * k) < 18446744073709551616 := Nat.lt_of_le_of_lt (Nat.div_le_self _ _) hn
  have h2 := u64_and_nat (n / 2 ^ (8 * k)) 255 h1 (by omega)
  rw [show ((255 : Nat) : Int) = 255 from rfl] at h2
  rw [h2, nat_mask8, byteOf_toNat, show (256 : Nat) ^ k = 2 ^ (8 * k) by rw [Nat.pow_mul]]
  omega

set_option maxHeartbeats 1000000 in
theorem refeight_any (n : Nat) (w : World) (hn : n < 18446744073709551616) :
    Calls Try.prog 34 #[.int .u64 (n : Nat)] w fun e w' => ∃ A c, e = .returned (.slice A 8 c) ∧ Own w.heap.size w' A 8 c (eight n) ∧ Below w.heap.size w w' := by
  go_enter Try.func34, Try.ntmps34
  go_wp2
  go_loopw [3, 4] (fun v i wr => ∃ (k : Nat) (z : Int) (A : Option Addr) (c : Nat), k ≤ 8 ∧ z = 7 - (k : Int) ∧ i = .int .i64 z ∧ v = .slice A k c ∧ Own w.heap.size wr A k c (eightK n k) ∧ Below w.heap.size w wr) (fun _ i _ => (intOf i + 1).toNat)
  case atStart => exact ⟨0, 7, none, 0, by omega, by omega, rfl, rfl, Own.none _ _, Below.refl _ _⟩
  case round =>
    obtain ⟨k, z, A, c, hk, hz, rfl, rfl, ho, hb⟩ := hrel
    have Ho := hid_ ho
    have Hb := hid_ hb
    clear ho hb
    by_cases hlt : k < 8
    · have hz0 : 0 ≤ z := by omega
      have hz7 : z ≤ 7 := by omega
      have Hz := hid_ hz
      have e1 : decide ((0 : Int) ≤ z) = true := decide_eq_true hz0
      obtain ⟨j, hj⟩ := Int.eq_ofNat_of_zero_le hz0
      have hbs := byte_shr n hn j ((n : Int) / (2 : Int) ^ (8 * j)) (by rw [Int.natCast_ediv, Int.natCast_pow]; rfl)
      have Hj := hid_ (show 7 - k = j by omega)
      have Hes := hid_ (eightK_succ n k)
      subst hj
      clear hz
      go_wp2_with (at_builtin; refine wpList_bytes rfl (.tmp 9) (.tmp 17) rfl w.heap.size A k c _ rfl (Ho.out.alloc _) (some ⟨wr.heap.size, 0, none⟩) 1 1 [byteOf n j] rfl (own_lit wr [byteOf n j] _ rfl 1 rfl (by omega) wr.heap.size (Nat.le_refl _)).sl (k + 1) (eightK n (k + 1)) rfl (by rw [Hes.out, Hj.out]) (by omega) (by have := Hb.out.size; simp; omega) ?_; intro A2 c2 w2 ho' hb'; have Ho2 := hid_ ho'; have Hb2 := hid_ ((Hb.out.alloc Hb.out.size _).trans hb'); clear ho' hb')
      go_roundw
      case rel => exact ⟨k + 1, (j : Int) - 1, A2, c2, by omega, by have := Hz.out; omega, rfl, rfl, Ho2.out, Hb2.out⟩
      case measure => simp [intOf]
    · have hk8 : k = 8 := by omega
      subst hk8
      have e1 : decide ((0 : Int) ≤ z) = false := decide_eq_false (by omega)
      go_wp2_with fail
      go_ret
      exact ⟨A, c, rfl, Ho.out, Hb.out⟩
theorem wrap_u64 (n : Int) : IntKind.u64.wrap n = n % 18446744073709551616 := by simp [IntKind.wrap, IntKind.bits, IntKind.signed]
theorem numB_step (l : List UInt8) {k : Nat} (hk : k < 8) (hl : k < l.length) : IntKind.u64.wrap (IntKind.u64.wrap ((numB l k : Nat) * 256) + IntKind.u64.wrap (l[k].toNat : Int)) = (numB l (k + 1) : Nat) := by
  have h2 := numB_lt l (k + 1)
  have h3 : (256 : Nat) ^ (k + 1) ≤ 256 ^ 8 := Nat.pow_le_pow_right (by omega) (by omega)
  rw [show (256 : Nat) ^ 8 = 18446744073709551616 from rfl] at h3
  have e : (l.getD k 0) = l[k] := by rw [List.getD_eq_getElem?_getD, List.getElem?_eq_getElem hl]; rfl
  have h4 : numB l (k + 1) = numB l k * 256 + l[k].toNat := by rw [numB, e]
  rw [wrap_u64, wrap_u64, wrap_u64, h4]
  omega

set_option maxHeartbeats 1000000 in
theorem refnumber_any (A : Option Addr) (n c : Nat) (l : List UInt8) (w : World) (hs : Sl w A n c l) (h8 : 8 ≤ n) :
    Calls Try.prog 38 #[.slice A n c] w fun e w' => e = .returned (.int .u64 (numB l 8 : Nat)) ∧ w = w' := by
  have hle := hs.le
  have Hs := hid_ hs
  have Hlen := hid_ hs.len
  clear hs
  go_enter Try.func38, Try.ntmps38
  go_wp2
  go_loop [3, 4] (fun v i => ∃ (k : Nat) (z : Nat), k ≤ 8 ∧ i = .int .i64 k ∧ v = .int .u64 z ∧ Hid (numB l k = z)) (fun _ i => 8 - (intOf i).toNat)
  case atStart => exact ⟨0, 0, by omega, rfl, rfl, hid_ rfl⟩
  case round =>
    obtain ⟨k, z, hk, rfl, rfl, HZ⟩ := hrel
    by_cases hlt : k < 8
    · have hkl : k < l.length := by rw [Hlen.out]; omega
      have hkn : k < n := by omega
      obtain ⟨b, off, rfl, hc⟩ := Hs.out.holds.at_ hkl
      have hst := numB_step l hlt hkl
      rw [HZ.out] at hst
      have Hst := hid_ hst
      clear hst
      go_wp2_with fail
      go_round
      case rel => exact ⟨k + 1, numB l (k + 1), by omega, by go_num, int_at Hst.out, hid_ rfl⟩
      case measure => simp [intOf]; omega
    · have hk8 : k = 8 := by omega
      subst hk8
      go_wp2_with fail
      go_ret
      exact ⟨by rw [HZ.out]; rfl, rfl⟩
end Go.Proofs.Ytnphbefnmbagfaa
