/-
  Views: Same, of the program and of the document; two lists of numbers alike.
-/
import Derived.Test.YtcmoelphjdehaaaZGV1
import Derived.Test.YtcmoelphjdehaaaZPoints
namespace Go.Proofs.Ytcmoelphjdehaaa
set_option linter.unusedSimpArgs false
set_option linter.unusedVariables false
open Go.RowKit Ru Rg
namespace Vw
set_option linter.unusedSimpArgs false
set_option linter.unusedVariables false
theorem sameM_iff (a b : MemberD) : sameM a b = true ↔ a = b := by
  unfold sameM
  simp only [Bool.and_eq_true, decide_eq_true_eq]
  exact ⟨fun ⟨h1, h2, h3⟩ => mem_ext h1 h2 h3, fun h => by subst h; exact ⟨rfl, rfl, rfl⟩⟩
theorem eqM_iff : ∀ l m : List MemberD, eqF sameM l m = true ↔ l = m
  | [], [] => by simp [eqF]
  | [], _ :: _ => by simp [eqF]
  | _ :: _, [] => by simp [eqF]
  | a :: l, b :: m => by
    rw [eqF, Bool.and_eq_true, sameM_iff, eqM_iff l m]
    exact ⟨fun ⟨h1, h2⟩ => by rw [h1, h2], fun h => by injection h with h1 h2; exact ⟨h1, h2⟩⟩
theorem eqM_self (l : List MemberD) : eqF sameM l l = true := (eqM_iff l l).2 rfl
theorem eqU_iff : ∀ l m : List Nat, eqF eqN l m = true ↔ l = m
  | [], [] => by simp [eqF]
  | [], _ :: _ => by simp [eqF]
  | _ :: _, [] => by simp [eqF]
  | a :: l, b :: m => by
    rw [eqF, Bool.and_eq_true, eqU_iff l m]
    unfold eqN
    rw [beq_iff_eq]
    exact ⟨fun ⟨h1, h2⟩ => by rw [h2, show a = b by omega], fun h => by injection h with h1 h2; exact ⟨by rw [h1], h2⟩⟩
set_option maxRecDepth 20000 in
set_option maxHeartbeats 4000000 in
theorem rsame_any (A A' : Option Addr) (n n' c c' : Nat) (ss ts : List MemberD) (w : World) (h1 : MemRow w A n c ss) (h2 : MemRow w A' n' c' ts) :
    Calls Try.prog 50 #[.slice A n c, .slice A' n' c'] w (BoolIs w (eqF sameM ss ts)) := by
  obtain rfl := h1.len
  obtain rfl := h2.len
  have hle := Nat.le_trans h1.cap h1.max
  have hle2 := Nat.le_trans h2.cap h2.max
  have H1 := hid_ h1
  have H2 := hid_ h2
  clear h1 h2
  by_cases hl : ss.length = ts.length
  rotate_left
  · have Hf := hid_ (eqF_len sameM ss ts hl)
    have e1 : ((ss.length : Int) != (ts.length : Int)) = true := by rw [bne_iff_ne]; omega
    clear hl
    go_enter Try.func50, Try.ntmps50
    go_wp2_with fail
    go_ret
    exact boolIs_mk Hf.out (Below.refl _ _)
  have e1 : ((ss.length : Int) != (ts.length : Int)) = false := by rw [bne_eq_false_iff_eq]; omega
  have Hl := hid_ hl
  have kn := fun (a b : MemberD) (w : World) => mem_neq a b w
  have hl1 : ss.length ≤ ts.length := by omega
  have hl2 : ts.length ≤ ss.length := by omega
  clear hl
  go_enter Try.func50, Try.ntmps50
  go_wp2_with fail
  go_loopw [5] (fun vi wr => ∃ k : Nat, k ≤ ss.length ∧ vi = .int .i64 (k : Nat) ∧ Hid (∀ j (hj : j < ss.length) (hj2 : j < ts.length), j < k → sameM ss[j] ts[j] = true) ∧ Hid (Below w.heap.size w wr)) (fun vi _ => ss.length - (intOf vi).toNat)
  case atStart => exact ⟨0, Nat.zero_le _, rfl, hid_ (fun j _ _ h => absurd h (by omega)), hid_ (Below.refl _ _)⟩
  case round =>
    obtain ⟨k, hk, rfl, Hg, Hw⟩ := hrel
    by_cases hlt : k < ss.length
    · have hlt2 : k < ts.length := by omega
      obtain ⟨b, off, rfl, s1⟩ := (H1.out.below Hw.out).at_ hlt
      obtain ⟨b', off', rfl, s2⟩ := (H2.out.below Hw.out).at_ hlt2
      obtain ⟨a0, a1, a2⟩ := s1
      obtain ⟨d0, d1, d2⟩ := s2
      have x1 : (k : Int) < (ss.length : Int) := by omega
      have x3 : (k : Int) < (ts.length : Int) := by omega
      have x2 : (0 : Int) ≤ (k : Int) := by omega
      have Hn := hid_ (fun (h : sameM ss[k] ts[k] = true) => show ∀ j (hj : j < ss.length) (hj2 : j < ts.length), j < k + 1 → sameM ss[j] ts[j] = true from fun j hj hj2 h2 => by
        by_cases e : j = k
        · subst e; exact h
        · exact Hg.out j hj hj2 (by omega))
      have Hb := hid_ (fun (h : sameM ss[k] ts[k] = false) => eqF_bad sameM ss ts k hlt hlt2 h)
      generalize ss[k] = s at *
      generalize ts[k] = t at *
      cases hq : sameM s t
      · have Hf := hid_ (Hb.out hq)
        go_wp2_with fail
        go_quiet (fail)
        clear a0 a1 a2 d0 d1 d2
        go_wp2_with fail
        go_ret
        exact boolIs_mk Hf.out (below_drewN Hw.out _)
      · have Hn2 := hid_ (Hn.out hq)
        go_wp2_with fail
        go_quiet (fail)
        clear a0 a1 a2 d0 d1 d2
        go_wp2_with fail
        go_roundw
        case rel => exact ⟨k + 1, by omega, by go_num, Hn2, hid_ (below_drewN Hw.out _)⟩
        case measure => simp [intOf] <;> omega
    · obtain rfl : k = ss.length := by omega
      have Hf := hid_ (eqF_good sameM ss ts Hl.out fun j hj hj2 => Hg.out j hj hj2 hj)
      go_wp2_with fail
      go_ret
      exact boolIs_mk Hf.out Hw.out
end Vw
end Go.Proofs.Ytcmoelphjdehaaa
