/-
  The document's ring, made by insertion.
-/
import Derived.Test.YtgmeggilojcoeaaZGRD
import Derived.Test.YtgmeggilojcoeaaZGRE
import Derived.Lib.QuietBelow
namespace Go.Proofs.Ytgmeggilojcoeaa
set_option linter.unusedSimpArgs false
set_option linter.unusedVariables false
open Go.RowKit
attribute [local go_sem ↓] Go.wp_at_zero Go.wp_at_succ
namespace Rg
set_option linter.unusedSimpArgs false
set_option linter.unusedVariables false
theorem ins_sorted {a b : List PtD} {x : PtD} (h : Sorted (a ++ b)) (h1 : ∀ y ∈ a, y.Le x) (h2 : ∀ y ∈ b, x.Le y) : Sorted (a ++ [x] ++ b) := by
  obtain ⟨ha, hb, hab⟩ := List.pairwise_append.1 h
  rw [List.append_assoc]
  refine List.pairwise_append.2 ⟨ha, ?_, ?_⟩
  · rw [List.singleton_append]
    exact List.pairwise_cons.2 ⟨h2, hb⟩
  · intro y hy z hz
    rw [List.singleton_append] at hz
    rcases List.mem_cons.1 hz with rfl | hz
    · exact h1 y hy
    · exact hab y hy z hz
theorem sorted_le_last {l : List PtD} (hs : Sorted l) {k : Nat} (hk : k < l.length) : ∀ y ∈ l.take (k + 1), y.Le l[k] := by
  intro y hy
  obtain ⟨i, hi, rfl⟩ := List.getElem_of_mem hy
  rw [List.length_take] at hi
  rw [List.getElem_take]
  rcases Nat.lt_or_ge i k with h | h
  · exact List.pairwise_iff_getElem.1 hs i k (by omega) hk h
  · have : i = k := by omega
    subst this
    exact PtD.Le.refl _
theorem ins_perm {s L : List PtD} (K : Nat) (x : PtD) (h : s.Perm L) : (s.take K ++ [x] ++ s.drop K).Perm (L ++ [x]) := by
  have h1 : (s.take K ++ [x] ++ s.drop K).Perm (s.take K ++ s.drop K ++ [x]) := by
    rw [List.append_assoc, List.append_assoc]
    exact List.Perm.append_left _ List.perm_append_comm
  rw [List.take_append_drop] at h1
  exact h1.trans (h.append_right _)
theorem info_rpt : (Try.prog.info? 101).map (fun i => (i.zero, i.size, i.bytes)) = some (some (.agg #[.int .u64 0, .int .u64 0]), ptE.K, 16) := by kernel_rfl
abbrev OwnRp := ptE.Own 101
def RMakePost (w : World) (ids : List Nat) (p : Nat) (e : Ending) (w' : World) : Prop :=
  ∃ A' N c' r, e = .returned (.tuple #[.slice A' N c', .int .i64 0]) ∧ ptE.Row w' A' N c' r ∧ Sorted r ∧ r.Perm (ptsOf atN ids p) ∧ Below w.heap.size w w'
end Rg
end Go.Proofs.Ytgmeggilojcoeaa

/-
  Make, the program's and the document's, of whatever members and points.
-/
namespace Go.Proofs.Ytgmeggilojcoeaa
set_option linter.unusedSimpArgs false
set_option linter.unusedVariables false
open Go.RowKit
namespace Rg
set_option linter.unusedSimpArgs false
set_option linter.unusedVariables false
/-- What Make answers: its list and its kind. -/
def MakeIs (ids : List Nat) (p : Int) (r : List PtD) (k : Int) : Prop :=
  ((riseF 0 ids = false ∨ p < 1 ∨ 64 < p) ∧ r = [] ∧ k = 1) ∨ (riseF 0 ids = true ∧ 1 ≤ p ∧ p ≤ 64 ∧ 16 < ids.length ∧ r = [] ∧ k = 4) ∨
    (riseF 0 ids = true ∧ 1 ≤ p ∧ p ≤ 64 ∧ ids.length ≤ 16 ∧ k = 0 ∧ Sorted r ∧ r.Perm (ptsOf atN ids p.toNat))
theorem makeIs_one {ids : List Nat} {p : Int} {r r' : List PtD} {k k' : Int} (h : MakeIs ids p r k) (h' : MakeIs ids p r' k') : r = r' ∧ k = k' := by
  rcases h with ⟨a, b, c⟩ | ⟨a, a1, a2, a3, b, c⟩ | ⟨a, a1, a2, a3, c, b, d⟩ <;> rcases h' with ⟨a', b', c'⟩ | ⟨a', a1', a2', a3', b', c'⟩ | ⟨a', a1', a2', a3', c', b', d'⟩
  · exact ⟨by rw [b, b'], by rw [c, c']⟩
  · rcases a with a | a | a
    · rw [a] at a'; cases a'
    · omega
    · omega
  · rcases a with a | a | a
    · rw [a] at a'; cases a'
    · omega
    · omega
  · rcases a' with a' | a' | a'
    · rw [a] at a'; cases a'
    · omega
    · omega
  · exact ⟨by rw [b, b'], by rw [c, c']⟩
  · omega
  · rcases a' with a' | a' | a'
    · rw [a] at a'; cases a'
    · omega
    · omega
  · omega
  · exact ⟨sorted_uniq b b' (d.trans d'.symm), by rw [c, c']⟩
def MakeAny (w : World) (ids : List Nat) (p : Int) (e : Ending) (w' : World) : Prop :=
  ∃ A N c r k, e = .returned (.tuple #[.slice A N c, .int .i64 k]) ∧ ptE.Row w' A N c r ∧ MakeIs ids p r k ∧ Below w.heap.size w w'
theorem make_all (A : Option Addr) (n c : Nat) (ids : List Nat) (p : Int) (w : World) (h : numE.Row w A n c ids) :
    Calls Try.prog 59 #[.slice A n c, .int .i64 p] w (MakeAny w ids p) := by
  by_cases hb : riseF 0 ids = false ∨ p < 1 ∨ 64 < p
  · refine Calls.mono (make_bad A n c ids p w h hb) ?_
    rintro e w' ⟨rfl, rfl⟩
    exact ⟨_, _, _, [], _, rfl, Enc.Row.none _, .inl ⟨hb, rfl, rfl⟩, Below.refl _ _⟩
  · have h0 : riseF 0 ids = true := by
      cases hx : riseF 0 ids
      · exact absurd (.inl hx) hb
      · rfl
    have h1 : 1 ≤ p := by omega
    have h2 : p ≤ 64 := by omega
    by_cases hn : 16 < n
    · refine Calls.mono (make_large A n c ids p w h h0 h1 h2 hn) ?_
      rintro e w' ⟨rfl, rfl⟩
      exact ⟨_, _, _, [], _, rfl, Enc.Row.none _, .inr (.inl ⟨h0, h1, h2, by rw [h.len]; exact hn, rfl, rfl⟩), Below.refl _ _⟩
    · obtain ⟨q, rfl⟩ : ∃ q : Nat, p = (q : Int) := ⟨p.toNat, by omega⟩
      refine Calls.mono (make_any A n c ids q w h h0 (by omega) (by omega) (by omega)) ?_
      rintro e w' ⟨A', N, c', r, rfl, hr, hs, hp, hb'⟩
      exact ⟨_, _, _, r, _, rfl, hr, .inr (.inr ⟨h0, h1, h2, by rw [h.len]; omega, rfl, hs, hp⟩), hb'⟩
end Rg
end Go.Proofs.Ytgmeggilojcoeaa

/-
  What RingMakes wants beside MakeAll: a drawn region whose callees leave what was there.
-/
namespace Go.Proofs.Ytgmeggilojcoeaa
set_option linter.unusedSimpArgs false
set_option linter.unusedVariables false
open Go.RowKit Go.Sort
theorem quiet_below_of_draws {P : Program} {f : FuncId} {args : Array Value} {w : World} {d : Nat} {os : Array Obj} {v : Value}
    (h : Calls P f args (grow (redrawn w d) os) fun e w' => e = .returned v ∧ ∃ q, w' = (grow (redrawn w d) os).drewN q) :
    Calls P f args (grow (redrawn w d) os) fun e w'' => e = .returned v ∧ ∃ p : Regrown, w'' = grow (redrawn w p.d) p.os :=
  Calls.regrown_of (h.mono fun _ _ ⟨he, q, hq⟩ => ⟨he, hq ▸ below_drewN (Below.refl _ _) _⟩)
end Go.Proofs.Ytgmeggilojcoeaa
