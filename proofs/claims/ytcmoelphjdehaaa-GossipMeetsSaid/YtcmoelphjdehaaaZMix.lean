/-
  What Mix answers; that no two numbers have one mix.
-/
import Derived.Test.YtcmoelphjdehaaaZGA
import Derived.Laws.BitsAllLaws
import Derived.Laws.BitsLemmas
import Derived.Laws.Shifts
namespace Go.Proofs.Ytcmoelphjdehaaa
set_option linter.unusedSimpArgs false
set_option linter.unusedVariables false
open Go.RowKit
namespace Rg
set_option linter.unusedSimpArgs false
set_option linter.unusedVariables false

def mixI (n : Int) : Int :=
  bits .xor .u64 (IntKind.u64.wrap (bits .xor .u64 (IntKind.u64.wrap (bits .xor .u64 (IntKind.u64.wrap (n + 11400714819323198485)) (IntKind.u64.wrap (n + 11400714819323198485) / 1073741824) * 13787848793156543929)) (IntKind.u64.wrap (bits .xor .u64 (IntKind.u64.wrap (n + 11400714819323198485)) (IntKind.u64.wrap (n + 11400714819323198485) / 1073741824) * 13787848793156543929) / 134217728) * 10723151780598845931))
    (IntKind.u64.wrap (bits .xor .u64 (IntKind.u64.wrap (bits .xor .u64 (IntKind.u64.wrap (n + 11400714819323198485)) (IntKind.u64.wrap (n + 11400714819323198485) / 1073741824) * 13787848793156543929)) (IntKind.u64.wrap (bits .xor .u64 (IntKind.u64.wrap (n + 11400714819323198485)) (IntKind.u64.wrap (n + 11400714819323198485) / 1073741824) * 13787848793156543929) / 134217728) * 10723151780598845931) / 2147483648)
/-- A number's bits, so many places to the right, by exclusive or. -/
def fold (k x : Nat) : Nat := x ^^^ x / 2 ^ k
def mixN (n : Nat) : Nat := fold 31 (fold 27 (fold 30 ((n + 11400714819323198485) % 18446744073709551616) * 13787848793156543929 % 18446744073709551616) * 10723151780598845931 % 18446744073709551616)
theorem xor_u64 (a b : Nat) (ha : a < 18446744073709551616) (hb : b < 18446744073709551616) : bits .xor .u64 (a : Int) (b : Int) = ((a ^^^ b : Nat) : Int) := u64_xor_nat a b ha hb
theorem fold_lt (k x : Nat) (h : x < 18446744073709551616) : fold k x < 18446744073709551616 := by
  unfold fold
  exact Nat.xor_lt_two_pow (n := 64) h (Nat.lt_of_le_of_lt (Nat.div_le_self _ _) h)
theorem fold_int (k : Nat) (x : Nat) (h : x < 18446744073709551616) (z : Int) (hz : z = ((2 ^ k : Nat) : Int)) : bits .xor .u64 (x : Int) ((x : Int) / z) = ((fold k x : Nat) : Int) := by
  subst hz
  rw [← Int.natCast_ediv, xor_u64 x _ h (Nat.lt_of_le_of_lt (Nat.div_le_self _ _) h)]
  rfl
theorem wrap_nat (x : Nat) : IntKind.u64.wrap (x : Int) = ((x % 18446744073709551616 : Nat) : Int) := by
  rw [IntKind.wrap_u64]; omega
theorem mod_lt_ (x : Nat) : x % 18446744073709551616 < 18446744073709551616 := by omega
theorem mul_step (x : Nat) (k : Nat) : IntKind.u64.wrap ((x : Int) * (k : Int)) = ((x * k % 18446744073709551616 : Nat) : Int) := by
  rw [← Int.natCast_mul, wrap_nat]
theorem add_step (x : Nat) (k : Nat) : IntKind.u64.wrap ((x : Int) + (k : Int)) = (((x + k) % 18446744073709551616 : Nat) : Int) := by
  rw [← Int.natCast_add, wrap_nat]
/-- The same over any numbers. -/
def mixG (K1 K2 K3 z1 z2 z3 n : Int) : Int :=
  let a := IntKind.u64.wrap (n + K1)
  let b := IntKind.u64.wrap (bits .xor .u64 a (a / z1) * K2)
  let c := IntKind.u64.wrap (bits .xor .u64 b (b / z2) * K3)
  bits .xor .u64 c (c / z3)
theorem mixG_eq (k1 k2 k3 n : Nat) (z1 z2 z3 : Int) (h1 : z1 = ((2 ^ 30 : Nat) : Int)) (h2 : z2 = ((2 ^ 27 : Nat) : Int)) (h3 : z3 = ((2 ^ 31 : Nat) : Int)) : mixG (k1 : Int) (k2 : Int) (k3 : Int) z1 z2 z3 (n : Int) = ((fold 31 (fold 27 (fold 30 ((n + k1) % 18446744073709551616) * k2 % 18446744073709551616) * k3 % 18446744073709551616) : Nat) : Int) := by
  unfold mixG
  simp only
  rw [add_step, fold_int 30 _ (mod_lt_ _) z1 h1, mul_step, fold_int 27 _ (mod_lt_ _) z2 h2, mul_step, fold_int 31 _ (mod_lt_ _) z3 h3]
theorem mixI_eq (n : Nat) : mixI (n : Int) = ((mixN n : Nat) : Int) := mixG_eq 11400714819323198485 13787848793156543929 10723151780598845931 n 1073741824 134217728 2147483648 (by decide +kernel) (by decide +kernel) (by decide +kernel)
theorem mix_lt (n : Nat) : mixN n < 18446744073709551616 := by
  unfold mixN
  exact fold_lt _ _ (mod_lt_ _)

/-- What stands so far to the right comes back. -/
theorem fold_inj (k : Nat) (hk : 0 < k) : ∀ x y : Nat, fold k x = fold k y → x = y := by
  have key : ∀ (m x y : Nat), x < 2 ^ m → y < 2 ^ m → fold k x = fold k y → x = y := by
    intro m
    induction m using Nat.strongRecOn with
    | ind m ih =>
      intro x y hx hy h
      unfold fold at h
      by_cases hm : m ≤ k
      · have e : ∀ z, z < 2 ^ m → z / 2 ^ k = 0 := fun z hz => Nat.div_eq_of_lt (Nat.lt_of_lt_of_le hz (Nat.pow_le_pow_right (by omega) hm))
        rw [e x hx, e y hy, Nat.xor_zero, Nat.xor_zero] at h
        exact h
      · have hq : x / 2 ^ k = y / 2 ^ k := by
          refine ih (m - k) (by omega) _ _ ?_ ?_ ?_
          · rw [Nat.div_lt_iff_lt_mul (Nat.two_pow_pos _), ← Nat.pow_add]; rwa [Nat.sub_add_cancel (by omega)]
          · rw [Nat.div_lt_iff_lt_mul (Nat.two_pow_pos _), ← Nat.pow_add]; rwa [Nat.sub_add_cancel (by omega)]
          · unfold fold
            have h2 := congrArg (· / 2 ^ k) h
            simpa [Nat.xor_div_two_pow] using h2
        rw [hq] at h
        have h3 := congrArg (· ^^^ (y / 2 ^ k)) h
        simpa [Nat.xor_assoc] using h3
  intro x y h
  exact key (x + y) x y (Nat.lt_of_le_of_lt (Nat.le_add_right x y) Nat.lt_two_pow_self) (Nat.lt_of_le_of_lt (Nat.le_add_left y x) Nat.lt_two_pow_self) h
/-- An odd factor comes back. -/
theorem mul_inj (c d : Nat) (hcd : c * d % 18446744073709551616 = 1) {x y : Nat} (hx : x < 18446744073709551616) (hy : y < 18446744073709551616) (h : x * c % 18446744073709551616 = y * c % 18446744073709551616) : x = y := by
  have e : ∀ z, z < 18446744073709551616 → (z * c % 18446744073709551616) * d % 18446744073709551616 = z := fun z hz => by
    rw [Nat.mod_mul_mod, Nat.mul_assoc, Nat.mul_mod, hcd, Nat.mul_one, Nat.mod_mod, Nat.mod_eq_of_lt hz]
  rw [← e x hx, h, e y hy]
theorem mix_inj {a b : Nat} (ha : a < 18446744073709551616) (hb : b < 18446744073709551616) (h : mixN a = mixN b) : a = b := by
  unfold mixN at h
  have h1 := fold_inj 31 (by decide) _ _ h
  have h2 := mul_inj 10723151780598845931 3573116690164977347 (by decide +kernel) (fold_lt _ _ (mod_lt_ _)) (fold_lt _ _ (mod_lt_ _)) h1
  have h3 := fold_inj 27 (by decide) _ _ h2
  have h4 := mul_inj 13787848793156543929 10871156337175269513 (by decide +kernel) (fold_lt _ _ (mod_lt_ _)) (fold_lt _ _ (mod_lt_ _)) h3
  have h5 := fold_inj 30 (by decide) _ _ h4
  clear h h1 h2 h3 h4
  omega

set_option maxHeartbeats 1000000 in
theorem mix_in (n : Nat) (w : World) :
    Calls Try.prog 79 #[.int .u64 (n : Nat)] w fun e w' => e = .returned (.int .u64 (mixI (n : Int))) ∧ w = w' := by
  go_enter Try.func79, Try.ntmps79
  go_wp2_with fail
  go_ret
  exact ⟨rfl, rfl⟩
theorem mix_any (n : Nat) (w : World) :
    Calls Try.prog 79 #[.int .u64 (n : Nat)] w fun e w' => e = .returned (.int .u64 (mixN n : Nat)) ∧ w = w' := by
  rw [← mixI_eq]
  exact mix_in n w
set_option maxHeartbeats 1000000 in
theorem refmix_in (n : Nat) (w : World) :
    Calls Try.prog 37 #[.int .u64 (n : Nat)] w fun e w' => e = .returned (.int .u64 (mixI (n : Int))) ∧ w = w' := by
  go_enter Try.func37, Try.ntmps37
  go_wp2_with fail
  go_ret
  exact ⟨rfl, rfl⟩
theorem refmix_any (n : Nat) (w : World) :
    Calls Try.prog 37 #[.int .u64 (n : Nat)] w fun e w' => e = .returned (.int .u64 (mixN n : Nat)) ∧ w = w' := by
  rw [← mixI_eq]
  exact refmix_in n w
/-- Where a member's point stands. -/
def atN (id i : Nat) : Nat := mixN ((mixN id + i) % 18446744073709551616)
theorem at_lt (id i : Nat) : atN id i < 18446744073709551616 := mix_lt _
theorem sum_u64 (a b : Nat) : IntKind.u64.wrap ((a : Int) + (b : Int)) = (((a + b) % 18446744073709551616 : Nat) : Int) := add_step a b
set_option maxHeartbeats 1000000 in
theorem at_any (id i : Nat) (hi : i < 9223372036854775808) (w : World) :
    Calls Try.prog 74 #[.int .u64 (id : Nat), .int .i64 (i : Nat)] w fun e w' => e = .returned (.int .u64 (atN id i : Nat)) ∧ w = w' := by
  have hw : IntKind.u64.wrap (i : Int) = (i : Int) := by rw [wrap_nat, Nat.mod_eq_of_lt (by omega)]
  have hx := sum_u64 (mixN id) i
  have Hr := hid_ (show atN id i = mixN ((mixN id + i) % 18446744073709551616) from rfl)
  have Hm := hid_ (fun (n : Nat) (W : World) => mix_any n W)
  have hm1 : Calls Try.prog 79 #[.int .u64 (id : Nat)] w fun e w' => e = .returned (.int .u64 (mixN id : Nat)) ∧ w = w' := mix_any id w
  have H1 := hid_ hm1
  generalize atN id i = r at *
  have hm2 := mix_any ((mixN id + i) % 18446744073709551616) w
  rw [← Hr.out] at hm2
  generalize (mixN id + i) % 18446744073709551616 = m at *
  generalize mixN id = x at *
  have H2 := hid_ hm2
  clear hi Hm Hr hm1 hm2
  go_enter Try.func74, Try.ntmps74
  go_wp2_with fail
  refine Calls.mono H1.out ?_
  rintro e w' ⟨rfl, rfl⟩
  go_wp2_with fail
  refine Calls.mono H2.out ?_
  rintro e w' ⟨rfl, rfl⟩
  go_wp2_with fail
  go_ret
  exact ⟨rfl, rfl⟩
end Rg
end Go.Proofs.Ytcmoelphjdehaaa
