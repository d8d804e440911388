/-
  What Mix answers; that no two numbers have one mix.
-/
import Derived.Test.YtgmeggilojcoeaaZGRA
import Derived.Laws.BitsAllLaws
import Derived.Laws.BitsLemmas
import Derived.Laws.Shifts
import Derived.Deep.RegionHeld3
import Derived.Lib.OwnBridge
import Derived.Shelf.SlSortCmp.Insertion
namespace Go.Proofs.Ytgmeggilojcoeaa
set_option linter.unusedSimpArgs false
set_option linter.unusedVariables false
open Go.RowKit
namespace Rg
set_option linter.unusedSimpArgs false
set_option linter.unusedVariables false

def mixI (n : Int) : Int :=
  bits .xor .u64 (IntKind.u64.wrap (bits .xor .u64 (IntKind.u64.wrap (bits .xor .u64 (IntKind.u64.wrap (n + 11400714819323198485)) (IntKind.u64.wrap (n + 11400714819323198485) / 1073741824) * 13787848793156543929)) (IntKind.u64.wrap (bits .xor .u64 (IntKind.u64.wrap (n + 11400714819323198485)) (IntKind.u64.wrap (n + 11400714819323198485) / 1073741824) * 13787848793156543929) / 134217728) * 10723151780598845931))
    (IntKind.u64.wrap (bits .xor .u64 (IntKind.u64.wrap (bits .xor .u64 (IntKind.u64.wrap (n + 11400714819323198485)) (IntKind.u64.wrap (n + 11400714819323198485) / 1073741824) * 13787848793156543929)) (IntKind.u64.wrap (bits .xor .u64 (IntKind.u64.wrap (n + 11400714819323198485)) (IntKind.u64.wrap (n + 11400714819323198485) / 1073741824) * 13787848793156543929) / 134217728) * 10723151780598845931) / 2147483648)
/-- A number's bits, so many places to the right, by exclusive or. -/
def fold (k x : Nat) : Nat := x ^^^ x / 2 ^ k
def mixN (n : Nat) : Nat := fold 31 (fold 27 (fold 30 ((n + 11400714819323198485) % 18446744073709551616) * 13787848793156543929 % 18446744073709551616) * 10723151780598845931 % 18446744073709551616)
theorem xor_u64 (a b : Nat) (ha : a < 18446744073709551616) (hb : b < 18446744073709551616) : bits .xor .u64 (a : Int) (b : Int) = ((a ^^^ b : Nat) : Int) := u64_xor_nat a b ha hb
theorem fold_lt (k x : Nat) (h : x < 18446744073709551616) : fold k x < 18446744073709551616 := by
  unfold fold
  exact Nat.xor_lt_two_pow (n := 64) h (Nat.lt_of_le_of_lt (Nat.div_le_self _ _) h)
theorem fold_int (k : Nat) (x : Nat) (h : x < 18446744073709551616) (z : Int) (hz : z = ((2 ^ k : Nat) : Int)) : bits .xor .u64 (x : Int) ((x : Int) / z) = ((fold k x : Nat) : Int) := by
  subst hz
  rw [← Int.natCast_ediv, xor_u64 x _ h (Nat.lt_of_le_of_lt (Nat.div_le_self _ _) h)]
  rfl
theorem wrap_nat (x : Nat) : IntKind.u64.wrap (x : Int) = ((x % 18446744073709551616 : Nat) : Int) := by
  rw [IntKind.wrap_u64]; omega
theorem mod_lt_ (x : Nat) : x % 18446744073709551616 < 18446744073709551616 := by omega
theorem mul_step (x : Nat) (k : Nat) : IntKind.u64.wrap ((x : Int) * (k : Int)) = ((x * k % 18446744073709551616 : Nat) : Int) := by
  rw [← Int.natCast_mul, wrap_nat]
theorem add_step (x : Nat) (k : Nat) : IntKind.u64.wrap ((x : Int) + (k : Int)) = (((x + k) % 18446744073709551616 : Nat) : Int) := by
  rw [← Int.natCast_add, wrap_nat]
/-- The same over any numbers. -/
def mixG (K1 K2 K3 z1 z2 z3 n : Int) : Int :=
  let a := IntKind.u64.wrap (n + K1)
  let b := IntKind.u64.wrap (bits .xor .u64 a (a / z1) * K2)
  let c := IntKind.u64.wrap (bits .xor .u64 b (b / z2) * K3)
  bits .xor .u64 c (c / z3)
theorem mixG_eq (k1 k2 k3 n : Nat) (z1 z2 z3 : Int) (h1 : z1 = ((2 ^ 30 : Nat) : Int)) (h2 : z2 = ((2 ^ 27 : Nat) : Int)) (h3 : z3 = ((2 ^ 31 : Nat) : Int)) : mixG (k1 : Int) (k2 : Int) (k3 : Int) z1 z2 z3 (n : Int) = ((fold 31 (fold 27 (fold 30 ((n + k1) % 18446744073709551616) * k2 % 18446744073709551616) * k3 % 18446744073709551616) : Nat) : Int) := by
  unfold mixG
  simp only
  rw [add_step, fold_int 30 _ (mod_lt_ _) z1 h1, mul_step, fold_int 27 _ (mod_lt_ _) z2 h2, mul_step, fold_int 31 _ (mod_lt_ _) z3 h3]
theorem mixI_eq (n : Nat) : mixI (n : Int) = ((mixN n : Nat) : Int) := mixG_eq 11400714819323198485 13787848793156543929 10723151780598845931 n 1073741824 134217728 2147483648 (by decide +kernel) (by decide +kernel) (by decide +kernel)
theorem mix_lt (n : Nat) : mixN n < 18446744073709551616 := by
  unfold mixN
  exact fold_lt _ _ (mod_lt_ _)

/-- What stands so far to the right comes back. -/
theorem fold_inj (k : Nat) (hk : 0 < k) : ∀ x y : Nat, fold k x = fold k y → x = y := by
  have key : ∀ (m x y : Nat), x < 2 ^ m → y < 2 ^ m → fold k x = fold k y → x = y := by
    intro m
    induction m using Nat.strongRecOn with
    | ind m ih =>
      intro x y hx hy h
      unfold fold at h
      by_cases hm : m ≤ k
      · have e : ∀ z, z < 2 ^ m → z / 2 ^ k = 0 := fun z hz => Nat.div_eq_of_lt (Nat.lt_of_lt_of_le hz (Nat.pow_le_pow_right (by omega) hm))
        rw [e x hx, e y hy, Nat.xor_zero, Nat.xor_zero] at h
        exact h
      · have hq : x / 2 ^ k = y / 2 ^ k := by
          refine ih (m - k) (by omega) _ _ ?_ ?_ ?_
          · rw [Nat.div_lt_iff_lt_mul (Nat.two_pow_pos _), ← Nat.pow_add]; rwa [Nat.sub_add_cancel (by omega)]
          · rw [Nat.div_lt_iff_lt_mul (Nat.two_pow_pos _), ← Nat.pow_add]; rwa [Nat.sub_add_cancel (by omega)]
          · unfold fold
            have h2 := congrArg (· / 2 ^ k) h
            simpa [Nat.xor_div_two_pow] using h2
        rw [hq] at h
        have h3 := congrArg (· ^^^ (y / 2 ^ k)) h
        simpa [Nat.xor_assoc] using h3
  intro x y h
  exact key (x + y) x y (Nat.lt_of_le_of_lt (Nat.le_add_right x y) Nat.lt_two_pow_self) (Nat.lt_of_le_of_lt (Nat.le_add_left y x) Nat.lt_two_pow_self) h
/-- An odd factor comes back. -/
theorem mul_inj (c d : Nat) (hcd : c * d % 18446744073709551616 = 1) {x y : Nat} (hx : x < 18446744073709551616) (hy : y < 18446744073709551616) (h : x * c % 18446744073709551616 = y * c % 18446744073709551616) : x = y := by
  have e : ∀ z, z < 18446744073709551616 → (z * c % 18446744073709551616) * d % 18446744073709551616 = z := fun z hz => by
    rw [Nat.mod_mul_mod, Nat.mul_assoc, Nat.mul_mod, hcd, Nat.mul_one, Nat.mod_mod, Nat.mod_eq_of_lt hz]
  rw [← e x hx, h, e y hy]
theorem mix_inj {a b : Nat} (ha : a < 18446744073709551616) (hb : b < 18446744073709551616) (h : mixN a = mixN b) : a = b := by
  unfold mixN at h
  have h1 := fold_inj 31 (by decide) _ _ h
  have h2 := mul_inj 10723151780598845931 3573116690164977347 (by decide +kernel) (fold_lt _ _ (mod_lt_ _)) (fold_lt _ _ (mod_lt_ _)) h1
  have h3 := fold_inj 27 (by decide) _ _ h2
  have h4 := mul_inj 13787848793156543929 10871156337175269513 (by decide +kernel) (fold_lt _ _ (mod_lt_ _)) (fold_lt _ _ (mod_lt_ _)) h3
  have h5 := fold_inj 30 (by decide) _ _ h4
  clear h h1 h2 h3 h4
  omega

set_option maxHeartbeats 1000000 in
theorem mix_in (n : Nat) (w : World) :
    Calls Try.prog 82 #[.int .u64 (n : Nat)] w fun e w' => e = .returned (.int .u64 (mixI (n : Int))) ∧ w = w' := by
  go_enter Try.func82, Try.ntmps82
  go_wp2_with fail
  go_ret
  exact ⟨rfl, rfl⟩
theorem mix_any (n : Nat) (w : World) :
    Calls Try.prog 82 #[.int .u64 (n : Nat)] w fun e w' => e = .returned (.int .u64 (mixN n : Nat)) ∧ w = w' := by
  rw [← mixI_eq]
  exact mix_in n w
/-- Where a member's point stands. -/
def atN (id i : Nat) : Nat := mixN ((mixN id + i) % 18446744073709551616)
theorem at_lt (id i : Nat) : atN id i < 18446744073709551616 := mix_lt _
theorem sum_u64 (a b : Nat) : IntKind.u64.wrap ((a : Int) + (b : Int)) = (((a + b) % 18446744073709551616 : Nat) : Int) := add_step a b
set_option maxHeartbeats 1000000 in
theorem at_any (id i : Nat) (hi : i < 9223372036854775808) (w : World) :
    Calls Try.prog 77 #[.int .u64 (id : Nat), .int .i64 (i : Nat)] w fun e w' => e = .returned (.int .u64 (atN id i : Nat)) ∧ w = w' := by
  have hw : IntKind.u64.wrap (i : Int) = (i : Int) := by rw [wrap_nat, Nat.mod_eq_of_lt (by omega)]
  have hx := sum_u64 (mixN id) i
  have Hr := hid_ (show atN id i = mixN ((mixN id + i) % 18446744073709551616) from rfl)
  have Hm := hid_ (fun (n : Nat) (W : World) => mix_any n W)
  have hm1 : Calls Try.prog 82 #[.int .u64 (id : Nat)] w fun e w' => e = .returned (.int .u64 (mixN id : Nat)) ∧ w = w' := mix_any id w
  have H1 := hid_ hm1
  generalize atN id i = r at *
  have hm2 := mix_any ((mixN id + i) % 18446744073709551616) w
  rw [← Hr.out] at hm2
  generalize (mixN id + i) % 18446744073709551616 = m at *
  generalize mixN id = x at *
  have H2 := hid_ hm2
  clear hi Hm Hr hm1 hm2
  go_enter Try.func77, Try.ntmps77
  go_wp2_with fail
  refine Calls.mono H1.out ?_
  rintro e w' ⟨rfl, rfl⟩
  go_wp2_with fail
  refine Calls.mono H2.out ?_
  rintro e w' ⟨rfl, rfl⟩
  go_wp2_with fail
  go_ret
  exact ⟨rfl, rfl⟩
end Rg
end Go.Proofs.Ytgmeggilojcoeaa

/-
  Points of members on a ring, in their order; who owns a number.
-/
namespace Go.Proofs.Ytgmeggilojcoeaa
set_option linter.unusedSimpArgs false
set_option linter.unusedVariables false
namespace Rg
set_option linter.unusedSimpArgs false
set_option linter.unusedVariables false

structure PtD where
  pos : Nat
  id : Nat
instance : Inhabited PtD := ⟨⟨0, 0⟩⟩
def PtD.Le (a b : PtD) : Prop := a.pos < b.pos ∨ (a.pos = b.pos ∧ a.id ≤ b.id)
instance (a b : PtD) : Decidable (a.Le b) := inferInstanceAs (Decidable (a.pos < b.pos ∨ (a.pos = b.pos ∧ a.id ≤ b.id)))
theorem PtD.Le.anti {a b : PtD} (h1 : a.Le b) (h2 : b.Le a) : a = b := by
  obtain ⟨x, y⟩ := a
  obtain ⟨u, v⟩ := b
  unfold PtD.Le at h1 h2
  simp only at h1 h2
  have h3 : x = u := by omega
  have h4 : y = v := by omega
  rw [h3, h4]
theorem PtD.Le.trans {a b c : PtD} (h1 : a.Le b) (h2 : b.Le c) : a.Le c := by
  unfold PtD.Le at *
  omega
theorem PtD.Le.total (a b : PtD) : a.Le b ∨ b.Le a := by
  unfold PtD.Le
  omega
theorem PtD.Le.refl (a : PtD) : a.Le a := by
  unfold PtD.Le
  omega
/-- In their order. -/
def Sorted (r : List PtD) : Prop := r.Pairwise PtD.Le
/-- Who owns the number: the first point there or behind it; behind all, the first one. -/
def ownF (r : List PtD) (h : Nat) : Nat :=
  match r.find? fun p => decide (h ≤ p.pos) with
  | some p => p.id
  | none => match r with
    | [] => 0
    | p :: _ => p.id
/-- p is the point by which the number h is owned. -/
def IsOwn (r : List PtD) (h : Nat) (p : PtD) : Prop :=
  p ∈ r ∧ ((h ≤ p.pos ∧ ∀ q ∈ r, h ≤ q.pos → p.Le q) ∨ ((∀ q ∈ r, q.pos < h) ∧ ∀ q ∈ r, p.Le q))
theorem own_some {r : List PtD} (hs : Sorted r) (hne : r ≠ []) (h : Nat) : ∃ p, IsOwn r h p ∧ ownF r h = p.id := by
  rcases hf : r.find? (fun p => decide (h ≤ p.pos)) with _ | p
  · obtain ⟨p, t, rfl⟩ := List.exists_cons_of_ne_nil hne
    refine ⟨p, ⟨by simp, .inr ⟨fun q hq => ?_, fun q hq => ?_⟩⟩, by unfold ownF; rw [hf]⟩
    all_goals rw [List.find?_eq_none] at hf
    · have := hf q hq
      simpa using this
    · rcases List.mem_cons.1 hq with rfl | hq
      · exact PtD.Le.refl _
      · exact List.rel_of_pairwise_cons hs hq
  · obtain ⟨h1, l1, l2, rfl, h2⟩ := List.find?_eq_some_iff_append.1 hf
    refine ⟨p, ⟨by simp, .inl ⟨by simpa using h1, fun q hq hle => ?_⟩⟩, by unfold ownF; rw [hf]⟩
    rcases List.mem_append.1 hq with hq | hq
    · have := h2 q hq
      simp at this
      omega
    · rcases List.mem_cons.1 hq with rfl | hq
      · exact PtD.Le.refl _
      · have h3 := (List.pairwise_append.1 hs).2.1
        exact List.rel_of_pairwise_cons h3 hq
theorem own_of {r : List PtD} (hs : Sorted r) {h : Nat} {p : PtD} (hp : IsOwn r h p) : ownF r h = p.id := by
  obtain ⟨hm, ho⟩ := hp
  obtain ⟨q, ⟨qm, qo⟩, he⟩ := own_some hs (by rintro rfl; simp at hm) h
  rw [he]
  have : p = q := by
    rcases ho with ⟨a, b⟩ | ⟨a, b⟩ <;> rcases qo with ⟨c, d⟩ | ⟨c, d⟩
    · exact PtD.Le.anti (b q qm c) (d p hm a)
    · have := c p hm; omega
    · have := a q qm; omega
    · exact PtD.Le.anti (b q qm) (d p hm)
  rw [this]
theorem own_nil (h : Nat) : ownF [] h = 0 := rfl
/-- The owner among all is the owner among those with whom its point stands. -/
theorem own_among {r a : List PtD} (hr : Sorted r) (ha : Sorted a) (hsub : ∀ p ∈ a, p ∈ r) {h : Nat} {p : PtD} (hp : IsOwn r h p) (hpa : p ∈ a) : ownF a h = ownF r h := by
  rw [own_of hr hp]
  refine own_of ha ⟨hpa, ?_⟩
  rcases hp.2 with ⟨b, c⟩ | ⟨b, c⟩
  · exact .inl ⟨b, fun q hq => c q (hsub q hq)⟩
  · exact .inr ⟨fun q hq => b q (hsub q hq), fun q hq => c q (hsub q hq)⟩
theorem own_id {r : List PtD} (hs : Sorted r) (hne : r ≠ []) (h : Nat) : ∃ p ∈ r, ownF r h = p.id := by
  obtain ⟨p, hp, he⟩ := own_some hs hne h
  exact ⟨p, hp.1, he⟩

/-- The members' points, by members. -/
def ptsOf (atF : Nat → Nat → Nat) (ids : List Nat) (points : Nat) : List PtD := ids.flatMap fun id => (List.range points).map fun i => ⟨atF id i, id⟩
theorem pts_length (atF : Nat → Nat → Nat) (ids : List Nat) (points : Nat) : (ptsOf atF ids points).length = ids.length * points := by
  induction ids with
  | nil => simp [ptsOf]
  | cons i ids ih =>
    rw [ptsOf, List.flatMap_cons, List.length_append, show (ids.flatMap _).length = ids.length * points from ih, List.length_cons, Nat.add_mul]
    simp
    omega
theorem pts_append (atF : Nat → Nat → Nat) (a b : List Nat) (points : Nat) : ptsOf atF (a ++ b) points = ptsOf atF a points ++ ptsOf atF b points := by simp [ptsOf]
theorem pts_id {atF : Nat → Nat → Nat} {ids : List Nat} {points : Nat} {p : PtD} (h : p ∈ ptsOf atF ids points) : p.id ∈ ids := by
  obtain ⟨i, hi, h⟩ := List.mem_flatMap.1 h
  obtain ⟨k, _, rfl⟩ := List.mem_map.1 h
  exact hi
theorem pts_ne {atF : Nat → Nat → Nat} {ids : List Nat} {points : Nat} (h : ids ≠ []) (hp : 0 < points) : ptsOf atF ids points ≠ [] := by
  intro e
  have h1 := pts_length atF ids points
  rw [e, List.length_nil] at h1
  have := Nat.mul_pos (List.length_pos_iff.2 h) hp
  omega
/-- On the ring of all, whose a number is: who owns it among some of them, or among the others. -/
theorem own_two {atF : Nat → Nat → Nat} {a b : List Nat} {points : Nat} {ra rb r : List PtD} (ha : Sorted ra) (hb : Sorted rb) (hr : Sorted r)
    (pa : ra.Perm (ptsOf atF a points)) (pb : rb.Perm (ptsOf atF b points)) (pr : r.Perm (ptsOf atF (a ++ b) points)) (h : Nat) : ownF r h = ownF ra h ∨ ownF r h = ownF rb h := by
  by_cases hne : r = []
  · subst hne
    rw [pts_append] at pr
    have h1 := List.append_eq_nil_iff.1 (List.nil_perm.1 pr)
    rw [h1.1] at pa
    have := List.perm_nil.1 pa
    subst this
    exact .inl rfl
  · obtain ⟨p, hp, he⟩ := own_some hr hne h
    have hm : p ∈ ptsOf atF (a ++ b) points := pr.mem_iff.1 hp.1
    rw [pts_append] at hm
    rcases List.mem_append.1 hm with hm | hm
    · left
      refine (own_among hr ha (fun q hq => pr.mem_iff.2 ?_) hp (pa.mem_iff.2 hm)).symm
      rw [pts_append]
      exact List.mem_append.2 (.inl (pa.mem_iff.1 hq))
    · right
      refine (own_among hr hb (fun q hq => pr.mem_iff.2 ?_) hp (pb.mem_iff.2 hm)).symm
      rw [pts_append]
      exact List.mem_append.2 (.inr (pb.mem_iff.1 hq))
/-- Ids that rise, from 1 on. -/
def riseF : Nat → List Nat → Bool
  | _, [] => true
  | l, i :: is => decide (l < i) && riseF i is
theorem rise_pos {l : Nat} {ids : List Nat} (h : riseF l ids = true) : ∀ i ∈ ids, l < i := by
  induction ids generalizing l with
  | nil => intro i hi; cases hi
  | cons j ids ih =>
    simp only [riseF, Bool.and_eq_true, decide_eq_true_eq] at h
    intro i hi
    rcases List.mem_cons.1 hi with rfl | hi
    · exact h.1
    · exact Nat.lt_trans h.1 (ih h.2 i hi)
theorem rise_sub {l : Nat} {ids : List Nat} (h : riseF l ids = true) {l' : Nat} {js : List Nat} (hs : js.Sublist ids) (hl : l' ≤ l) : riseF l' js = true := by
  induction hs generalizing l l' with
  | slnil => rfl
  | cons i _ ih =>
    simp only [riseF, Bool.and_eq_true, decide_eq_true_eq] at h
    exact ih h.2 (by omega)
  | cons_cons i _ ih =>
    simp only [riseF, Bool.and_eq_true, decide_eq_true_eq] at h ⊢
    exact ⟨by omega, ih h.2 (Nat.le_refl _)⟩
/-- The owner on the ring of some members is one of them. -/
theorem own_member {atF : Nat → Nat → Nat} {ids : List Nat} {points : Nat} {r : List PtD} (hr : Sorted r) (pr : r.Perm (ptsOf atF ids points)) (hne : ids ≠ []) (hp : 0 < points) (h : Nat) : ownF r h ∈ ids := by
  have h1 : r ≠ [] := by
    rintro rfl
    exact pts_ne (atF := atF) hne hp (List.nil_perm.1 pr)
  obtain ⟨p, hm, he⟩ := own_id hr h1 h
  rw [he]
  exact pts_id (pr.mem_iff.1 hm)
theorem sorted_uniq {a b : List PtD} (ha : Sorted a) (hb : Sorted b) (hp : a.Perm b) : a = b := List.Perm.eq_of_pairwise (fun _ _ _ _ h1 h2 => PtD.Le.anti h1 h2) ha hb hp
end Rg
end Go.Proofs.Ytgmeggilojcoeaa

/-
  Points in memory; comparing them, by place and then by Id.
-/
namespace Go.Proofs.Ytgmeggilojcoeaa
set_option linter.unusedSimpArgs false
set_option linter.unusedVariables false
open Go.RowKit
namespace Rg
set_option linter.unusedSimpArgs false
set_option linter.unusedVariables false
def cfP (p : PtD) : List Value := [.int .u64 (p.pos : Nat), .int .u64 (p.id : Nat)]
/-- A point's two cells. -/
def ptE : Enc PtD := ⟨cfP, 2, fun _ => rfl, by decide, fun p u hu => by
  simp [cfP] at hu
  rcases hu with rfl | rfl <;> rfl⟩
/-- A number in a cell. -/
def numE : Enc Nat := ⟨fun n => [.int .u64 (n : Nat)], 1, fun _ => rfl, by decide, fun p u hu => by
  simp at hu
  subst hu
  rfl⟩
/-- A whole number in a cell. -/
def intE : Enc Int := ⟨fun n => [.int .i64 n], 1, fun _ => rfl, by decide, fun p u hu => by
  simp at hu
  subst hu
  rfl⟩
def cmpN (a b : Nat) : Int := if a < b then -1 else if b < a then 1 else 0
def CmpPost (w : World) (k : Int) (e : Ending) (w' : World) : Prop := e = .returned (.int .i64 k) ∧ w = w'
theorem cmpPost_mk {w : World} {k k' : Int} (h : k = k') : CmpPost w k (.returned (.int .i64 k')) w := ⟨by rw [h], rfl⟩
set_option maxHeartbeats 1000000 in
theorem isnan_any (a : Nat) (w : World) : Calls Try.prog 103 #[.int .u64 (a : Nat)] w fun e w' => e = .returned (.bool false) ∧ w = w' := by
  go_enter Try.func103, Try.ntmps103
  go_wp2_with fail
  go_ret
  exact ⟨by simp, rfl⟩
set_option maxHeartbeats 2000000 in
theorem compare_any (a b : Nat) (w : World) : Calls Try.prog 81 #[.int .u64 (a : Nat), .int .u64 (b : Nat)] w (CmpPost w (cmpN a b)) := by
  have Hn := hid_ (fun (x : Nat) W => isnan_any x W)
  rcases Nat.lt_trichotomy a b with h | h | h
  · have Hk := hid_ (show cmpN a b = -1 by unfold cmpN; rw [if_pos h])
    have e1 : decide (a < b) = true := decide_eq_true h
    clear h
    go_enter Try.func81, Try.ntmps81
    go_wp2_with (go_at_call 103; (with_reducible refine Calls.mono (Hn.out _ _) ?_); rintro e w' ⟨rfl, rfl⟩)
    go_ret
    exact cmpPost_mk Hk.out
  · subst h
    have Hk := hid_ (show cmpN a a = 0 by unfold cmpN; rw [if_neg (by omega), if_neg (by omega)])
    have e1 : decide (a < a) = false := decide_eq_false (by omega)
    go_enter Try.func81, Try.ntmps81
    go_wp2_with (go_at_call 103; (with_reducible refine Calls.mono (Hn.out _ _) ?_); rintro e w' ⟨rfl, rfl⟩)
    go_ret
    exact cmpPost_mk Hk.out
  · have Hk := hid_ (show cmpN a b = 1 by unfold cmpN; rw [if_neg (by omega), if_pos h])
    have e1 : decide (a < b) = false := decide_eq_false (by omega)
    have e2 : decide (b < a) = true := decide_eq_true h
    clear h
    go_enter Try.func81, Try.ntmps81
    go_wp2_with (go_at_call 103; (with_reducible refine Calls.mono (Hn.out _ _) ?_); rintro e w' ⟨rfl, rfl⟩)
    go_ret
    exact cmpPost_mk Hk.out


/-- Go's Or over two numbers. -/
def orI (a b : Int) : Int := if a = 0 then b else a
set_option maxHeartbeats 2000000 in
theorem or_any (b : Nat) (x y : Int) (w : World) (h0 : w.cell? ⟨b, 0, none⟩ = some (.int .i64 x)) (h1 : w.cell? ⟨b, 1, none⟩ = some (.int .i64 y)) :
    Calls Try.prog 80 #[.slice (some ⟨b, 0, none⟩) 2 2] w (CmpPost w (orI x y)) := by
  have Hk := hid_ (show orI x y = if x = 0 then y else x from rfl)
  generalize orI x y = r at *
  have e0 : ((0 : Int) != 0) = false := by decide
  by_cases hx : x = 0
  · subst hx
    by_cases hy : y = 0
    · subst hy
      have Hr := hid_ (show r = 0 by rw [Hk.out]; rfl)
      clear Hk
      go_enter Try.func80, Try.ntmps80
      go_wp2
      go_loop [8] (fun i => ∃ k : Nat, k ≤ 2 ∧ i = .int .i64 k) (fun i => 2 - (intOf i).toNat)
      case atStart => exact ⟨0, by omega, rfl⟩
      case round =>
        obtain ⟨k, hk, rfl⟩ := hrel
        rcases (show k = 0 ∨ k = 1 ∨ k = 2 by omega) with rfl | rfl | rfl
        · go_wp2
          go_round
          case rel => exact ⟨1, by omega, rfl⟩
          case measure => simp [intOf]
        · go_wp2
          go_round
          case rel => exact ⟨2, by omega, rfl⟩
          case measure => simp [intOf]
        · go_wp2
          go_ret
          exact cmpPost_mk Hr.out
    · have e1 : (y != 0) = true := by simpa using hy
      have Hr := hid_ (show r = y by rw [Hk.out, if_pos rfl])
      clear Hk hy
      go_enter Try.func80, Try.ntmps80
      go_wp2
      go_loop [8] (fun i => ∃ k : Nat, k ≤ 1 ∧ i = .int .i64 k) (fun i => 2 - (intOf i).toNat)
      case atStart => exact ⟨0, by omega, rfl⟩
      case round =>
        obtain ⟨k, hk, rfl⟩ := hrel
        rcases (show k = 0 ∨ k = 1 by omega) with rfl | rfl
        · go_wp2
          go_round
          case rel => exact ⟨1, by omega, rfl⟩
          case measure => simp [intOf]
        · go_wp2
          go_ret
          exact cmpPost_mk Hr.out
  · have e1 : (x != 0) = true := by simpa using hx
    have Hr := hid_ (show r = x by rw [Hk.out, if_neg hx])
    clear Hk hx
    go_enter Try.func80, Try.ntmps80
    go_wp2
    go_loop [8] (fun i => ∃ k : Nat, k ≤ 0 ∧ i = .int .i64 k) (fun i => 2 - (intOf i).toNat)
    case atStart => exact ⟨0, by omega, rfl⟩
    case round =>
      obtain ⟨k, hk, rfl⟩ := hrel
      obtain rfl : k = 0 := by omega
      go_wp2
      go_ret
      exact cmpPost_mk Hr.out
/-- The order of points, as Go's comparing tells it. -/
def cfPt (a b : PtD) : Int := orI (cmpN a.pos b.pos) (cmpN a.id b.id)
theorem ltPt (a b : PtD) : ltOf cfPt a b = decide (¬ b.Le a) := by
  unfold ltOf cfPt orI cmpN PtD.Le
  by_cases h1 : a.pos < b.pos
  · simp [h1]; try omega
  · by_cases h2 : b.pos < a.pos
    · simp [h1, h2]; try omega
    · by_cases h3 : a.id < b.id
      · simp [h1, h2, h3]; try omega
      · by_cases h4 : b.id < a.id
        · simp [h1, h2, h3, h4]; try omega
        · simp [h1, h2, h3, h4]; try omega
theorem swoPt : Go.Sort.SWO (ltOf cfPt) where
  irrefl x := by rw [ltPt]; simp [PtD.Le.refl]
  trans x y z h1 h2 := by rw [ltPt] at *; simp at *; unfold PtD.Le at *; omega
  ntrans x y z h1 h2 := by rw [ltPt] at *; simp at *; unfold PtD.Le at *; omega
abbrev ptVal (p : PtD) : Value := .agg #[.int .u64 (p.pos : Nat), .int .u64 (p.id : Nat)]
theorem new_at (w : World) (cs : Array Value) (T : TypeId) (n : Nat) (hn : w.heap.size = n) (k : Nat) (u : Value) (hu : cs[k]? = some u) : (w.alloc (.cells cs T)).drew.cell? ⟨n, k, none⟩ = some u := by
  subst hn
  show (w.alloc (.cells cs T)).cell? ⟨w.heap.size, k, none⟩ = some u
  rw [World.cell?_alloc_mark, hu]
def LessPost (k : Int) (W : World) (e : Ending) (w' : World) : Prop := e = .returned (.int .i64 k) ∧ ∃ q os', w' = Go.Sort.grow (W.drewN q) os'
theorem lessPost_mk {k k' : Int} {W w' : World} (h : k = k') (hw : ∃ q os', w' = Go.Sort.grow (W.drewN q) os') : LessPost k W (.returned (.int .i64 k')) w' := ⟨by rw [h], hw⟩
set_option maxHeartbeats 4000000 in
theorem less_any (a b : PtD) (W : World) : Calls Try.prog 79 #[ptVal a, ptVal b] W (LessPost (cfPt a b) W) := by
  have Hk := hid_ (show cfPt a b = orI (cmpN a.pos b.pos) (cmpN a.id b.id) from rfl)
  have Hc := hid_ (fun (x y : Nat) (W' : World) => compare_any x y W')
  have Ho := hid_ (fun (g : Nat) (x y : Int) (W' : World) h0 h1 => or_any g x y W' h0 h1)
  unfold CmpPost at Hc Ho
  generalize cfPt a b = k at *
  go_enter Try.func79, Try.ntmps79
  go_wp2_with fail
  go_region_held3 (fun w' => w'.cell? ⟨W.heap.size, 0, none⟩ = some (.int .u64 (a.pos : Nat)) ∧ w'.cell? ⟨W.heap.size, 1, none⟩ = some (.int .u64 (a.id : Nat)) ∧ w'.cell? ⟨W.heap.size + 1, 0, none⟩ = some (.int .u64 (b.pos : Nat)) ∧ w'.cell? ⟨W.heap.size + 1, 1, none⟩ = some (.int .u64 (b.id : Nat))) (go_keep)
    (first | (go_at_call 81; (with_reducible refine Calls.mono (Hc.out _ _ _) ?_); rintro e w' ⟨rfl, rfl⟩) | (go_at_call 80; (with_reducible refine Calls.mono (Ho.out _ (cmpN a.pos b.pos) (cmpN a.id b.id) _ (new_at _ _ _ _ (by simp) 0 _ rfl) (new_at _ _ _ _ (by simp) 1 _ rfl)) ?_); rintro e w' ⟨rfl, rfl⟩) | fail)
  go_wp2_with fail
  go_ret
  exact lessPost_mk Hk.out ⟨1, _, by rw [Go.Sort.alloc_eq_grow, Go.Sort.alloc_eq_grow, Go.Sort.alloc_eq_grow, Go.Sort.grow_grow, Go.Sort.grow_grow]; rfl⟩
end Rg
end Go.Proofs.Ytgmeggilojcoeaa
