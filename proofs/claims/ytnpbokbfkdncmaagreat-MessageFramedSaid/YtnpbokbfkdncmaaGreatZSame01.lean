/-
  The laws' comparison of two slices of bytes, any; packets that the reference calls the same are one.
-/
import Derived.Test.YtnpbokbfkdncmaaGreatZGA
import Derived.Test.YtnpbokbfkdncmaaGreatZGJ
import Derived.Deep.QuietTactic
import Derived.BigQuiet
namespace Go.Proofs.YtnpbokbfkdncmaaGreat
set_option linter.unusedSimpArgs false
set_option linter.unusedVariables false
open Go.RowKit Ru

set_option maxHeartbeats 1000000 in
theorem same01_any (A A' : Option Addr) (n n' c c' : Nat) (l m : List UInt8) (w : World) (h1 : Sl w A n c l) (h2 : Sl w A' n' c' m) :
    Calls Tryz.prog 10 #[.slice A n c, .slice A' n' c'] w (BoolIs w (decide (l = m))) := by
  obtain rfl := h1.len
  obtain rfl := h2.len
  have hle := h1.le
  have hle2 := h2.le
  have H1 := hid_ h1
  have H2 := hid_ h2
  clear h1 h2
  by_cases hl : l.length = m.length
  rotate_left
  · have Hf := hid_ (show decide (l = m) = false from decide_eq_false (fun e => hl (by rw [e])))
    have e1 : ((l.length : Int) != (m.length : Int)) = true := by rw [bne_iff_ne]; omega
    clear hl
    go_enter Tryz.func10, Tryz.ntmps10
    go_wp2_with fail
    go_ret
    exact boolIs_mk Hf.out (Below.refl _ _)
  have e1 : ((l.length : Int) != (m.length : Int)) = false := by rw [bne_eq_false_iff_eq]; omega
  have Hl := hid_ hl
  have hl1 : l.length ≤ m.length := by omega
  clear hl
  go_enter Tryz.func10, Tryz.ntmps10
  go_wp2_with fail
  go_loopw [5] (fun vi wr => ∃ k : Nat, k ≤ l.length ∧ vi = .int .i64 (k : Nat) ∧ Hid (∀ j (hj : j < l.length) (hj2 : j < m.length), j < k → l[j] = m[j]) ∧ Hid (Below w.heap.size w wr)) (fun vi _ => l.length - (intOf vi).toNat)
  case atStart => exact ⟨0, Nat.zero_le _, rfl, hid_ (fun j _ _ h => absurd h (by omega)), hid_ (Below.refl _ _)⟩
  case round =>
    obtain ⟨k, hk, rfl, Hg, Hw⟩ := hrel
    by_cases hlt : k < l.length
    · have hlt2 : k < m.length := by omega
      obtain ⟨b, off, rfl, a0⟩ := (H1.out.below Hw.out).holds.at_ hlt
      obtain ⟨b', off', rfl, d0⟩ := (H2.out.below Hw.out).holds.at_ hlt2
      have x1 : (k : Int) < (l.length : Int) := by omega
      have x3 : (k : Int) < (m.length : Int) := by omega
      have x2 : (0 : Int) ≤ (k : Int) := by omega
      have Hn := hid_ (fun (h : l[k] = m[k]) => show ∀ j (hj : j < l.length) (hj2 : j < m.length), j < k + 1 → l[j] = m[j] from fun j hj hj2 h2 => by
        by_cases e : j = k
        · subst e; exact h
        · exact Hg.out j hj hj2 (by omega))
      have Hb := hid_ (fun (h : l[k] ≠ m[k]) => show decide (l = m) = false from decide_eq_false (fun e => h (by subst e; rfl)))
      generalize l[k] = x at *
      generalize m[k] = y at *
      by_cases hxy : x = y
      · have Hn2 := hid_ (Hn.out hxy)
        have ex : ((x.toNat : Int) != (y.toNat : Int)) = false := by rw [hxy]; simp
        clear hxy
        go_wp2_with fail
        go_quiet (fail)
        clear a0 d0
        go_wp2_with fail
        go_roundw
        case rel => exact ⟨k + 1, by omega, by go_num, Hn2, hid_ (below_drewN Hw.out _)⟩
        case measure => simp [intOf] <;> omega
      · have Hf := hid_ (Hb.out hxy)
        have ex : ((x.toNat : Int) != (y.toNat : Int)) = true := by
          rw [bne_iff_ne]
          intro e
          exact hxy (UInt8.toNat_inj.1 (by omega))
        clear hxy
        go_wp2_with fail
        go_quiet (fail)
        clear a0 d0
        go_wp2_with fail
        go_ret
        exact boolIs_mk Hf.out (below_drewN Hw.out _)
    · obtain rfl : k = l.length := by omega
      have Hf := hid_ (show decide (l = m) = true from decide_eq_true (List.ext_getElem Hl.out fun j hj hj2 => Hg.out j hj hj2 hj))
      go_wp2_with fail
      go_ret
      exact boolIs_mk Hf.out Hw.out
theorem eqF_eq {α : Type} {f : α → α → Bool} (h : ∀ a b, f a b = true → a = b) : ∀ (l m : List α), eqF f l m = true → l = m
  | [], [], _ => rfl
  | [], _ :: _, e => by cases e
  | _ :: _, [], e => by cases e
  | a :: l, b :: m, e => by
    rw [eqF, Bool.and_eq_true] at e
    rw [h a b e.1, eqF_eq h l m e.2]
theorem sameP_eq {p q : PackD} (h : sameP p q = true) : p = q := by
  unfold sameP scalF at h
  simp only [Bool.and_eq_true] at h
  obtain ⟨h1, h2, h3, h4, h5, h6, h7, h8, h9⟩ := h
  have e1 := eqF_eq (fun a b => sameF_iff.1) _ _ h1
  have e2 := eqF_eq (f := sameM) (fun a b e => by
    obtain ⟨a1, a2, a3⟩ := a
    obtain ⟨b1, b2, b3⟩ := b
    simp [sameM] at e
    obtain ⟨rfl, rfl, rfl⟩ := e
    rfl) _ _ h2
  have e3 := eqF_eq (f := eqN) (fun a b e => by simp [eqN] at e; omega) _ _ h3
  obtain ⟨k, tr, bn, bd, sn, sd, v, ok, l1, l2, l3⟩ := p
  obtain ⟨k', tr', bn', bd', sn', sd', v', ok', l1', l2', l3'⟩ := q
  simp [eqB] at h4 h5 h6 h7 h8 h9 e1 e2 e3
  obtain ⟨rfl, rfl⟩ := h6
  obtain ⟨rfl, rfl⟩ := h7
  have h5' : tr = tr' := by omega
  subst h4 h5' h8 h9 e1 e2 e3
  rfl
theorem sameP_self (p : PackD) : sameP p p = true := by
  unfold sameP scalF
  rw [eqF_self sameF_self, eqF_self sameM_self, eqF_self eqN_self]
  simp [eqB]
theorem sameP_ne {p q : PackD} (h : p ≠ q) : sameP p q = false := by
  cases hs : sameP p q
  · rfl
  · exact absurd (sameP_eq hs) h
end Go.Proofs.YtnpbokbfkdncmaaGreat
