/-
  What cmp.Compare, cmp.Or, the program's order and Less answer.
-/
import Derived.Test.YtnphbefnmbagfaaBoxed
namespace Go.Proofs.Ytnphbefnmbagfaa
open Go.RowKit Ru
attribute [local go_sem ↓] Go.wp_at_zero Go.wp_at_succ

theorem ret_i64 {a b : Int} (h : a = b) : Ending.returned (.int .i64 a) = .returned (.int .i64 b) := by rw [h]
def cmpF (x y : Nat) : Int := if x < y then -1 else if y < x then 1 else 0
theorem cmpF_lt {x y : Nat} (h : x < y) : cmpF x y = -1 := by unfold cmpF; rw [if_pos h]
theorem cmpF_gt {x y : Nat} (h : y < x) : cmpF x y = 1 := by unfold cmpF; rw [if_neg (by omega), if_pos h]
theorem cmpF_eq {x y : Nat} (h : x = y) : cmpF x y = 0 := by unfold cmpF; rw [if_neg (by omega), if_neg (by omega)]

set_option maxHeartbeats 1000000 in
theorem compare_any (x y : Nat) (w : World) :
    Calls Try.prog 48 #[.int .u64 (x : Nat), .int .u64 (y : Nat)] w fun e w' => e = .returned (.int .i64 (cmpF x y)) ∧ w = w' := by
  have ex : ((x : Int) != (x : Int)) = false := by simp
  have ey : ((y : Int) != (y : Int)) = false := by simp
  by_cases h1 : x < y
  · have H := hid_ (cmpF_lt h1)
    have e1 : decide (x < y) = true := decide_eq_true h1
    go_enter Try.func48, Try.ntmps48
    go_wp2
    go_ret
    exact ⟨ret_i64 H.out.symm, rfl⟩
  · have e1 : decide (x < y) = false := decide_eq_false h1
    by_cases h2 : y < x
    · have H := hid_ (cmpF_gt h2)
      have e2 : decide (y < x) = true := decide_eq_true h2
      clear h1
      go_enter Try.func48, Try.ntmps48
      go_wp2
      go_ret
      exact ⟨ret_i64 H.out.symm, rfl⟩
    · have H := hid_ (cmpF_eq (show x = y by omega))
      have e2 : decide (y < x) = false := decide_eq_false h2
      clear h1 h2
      go_enter Try.func48, Try.ntmps48
      go_wp2
      go_ret
      exact ⟨ret_i64 H.out.symm, rfl⟩

def orF (a b : Int) : Int := if a ≠ 0 then a else b
def ordF (a b : SpanD) : Int := orF (cmpF a.start b.start) (cmpF a.id b.id)
set_option maxHeartbeats 1000000 in
theorem or_any (g : Nat) (a b : Int) (w : World) (h0 : w.cell? ⟨g, 0, none⟩ = some (.int .i64 a)) (h1 : w.cell? ⟨g, 1, none⟩ = some (.int .i64 b)) :
    Calls Try.prog 47 #[.slice (some ⟨g, 0, none⟩) 2 2] w fun e w' => e = .returned (.int .i64 (orF a b)) ∧ w = w' := by
  have R : ∀ v : Int, (a ≠ 0 ∧ v = a) ∨ (a = 0 ∧ v = b) → Hid (orF a b = v) := by
    rintro v (⟨h, rfl⟩ | ⟨h, rfl⟩)
    · exact hid_ (by unfold orF; rw [if_pos h])
    · exact hid_ (by unfold orF; rw [if_neg (by simp [h])])
  have HR := hid_ R
  clear R
  go_enter Try.func47, Try.ntmps47
  go_wp2
  go_loop [8] (fun vi => ∃ k : Nat, k ≤ 2 ∧ vi = .int .i64 (k : Nat) ∧ Hid (1 ≤ k → a = 0) ∧ Hid (2 ≤ k → b = 0)) (fun vi => 2 - (intOf vi).toNat)
  case atStart => exact ⟨0, by omega, rfl, hid_ (by omega), hid_ (by omega)⟩
  case round =>
    obtain ⟨k, hk, rfl, H1, H2⟩ := hrel
    rcases (show k = 0 ∨ k = 1 ∨ k = 2 by omega) with rfl | rfl | rfl
    · by_cases ha : a = 0
      · have e0 : (a != 0) = false := by simp [ha]
        have Ha := hid_ ha
        clear ha
        go_wp2_with fail
        go_round
        case rel => exact ⟨1, by omega, rfl, hid_ (fun _ => Ha.out), hid_ (by omega)⟩
        case measure => simp [intOf]
      · have e0 : (a != 0) = true := by rw [bne_iff_ne]; exact ha
        have Hv := HR.out a (.inl ⟨ha, rfl⟩)
        have Ha := hid_ ha
        clear ha
        go_wp2_with fail
        go_ret
        exact ⟨ret_i64 Hv.out.symm, rfl⟩
    · have Ha := hid_ (H1.out (by omega))
      have Hv := HR.out b (.inr ⟨Ha.out, rfl⟩)
      by_cases hb : b = 0
      · have e0 : (b != 0) = false := by simp [hb]
        have Hb := hid_ hb
        clear hb
        go_wp2_with fail
        go_round
        case rel => exact ⟨2, by omega, rfl, hid_ (fun _ => Ha.out), hid_ (fun _ => Hb.out)⟩
        case measure => simp [intOf]
      · have e0 : (b != 0) = true := by rw [bne_iff_ne]; exact hb
        have Hb := hid_ hb
        clear hb
        go_wp2_with fail
        go_ret
        exact ⟨ret_i64 Hv.out.symm, rfl⟩
    · have Hv := HR.out b (.inr ⟨H1.out (by omega), rfl⟩)
      have Hb := hid_ (H2.out (by omega))
      go_wp2_with fail
      go_ret
      exact ⟨ret_i64 (Hb.out.symm.trans Hv.out.symm), rfl⟩

set_option maxHeartbeats 2000000 in
theorem order_any (a b : SpanD) (w : World) :
    Calls Try.prog 40 #[spanVal a, spanVal b] w fun e w' => e = .returned (.int .i64 (ordF a b)) ∧ ∃ q o, w' = (((w.alloc (.cells (spanCells a) 28)).alloc (.cells (spanCells b) 28)).alloc o).drewN q := by
  have hS : ((w.alloc (.cells (spanCells a) 28)).alloc (.cells (spanCells b) 28)).cell? ⟨w.heap.size, 3, none⟩ = some (.int .u64 (a.start : Nat)) ∧
      ((w.alloc (.cells (spanCells a) 28)).alloc (.cells (spanCells b) 28)).cell? ⟨w.heap.size, 1, none⟩ = some (.int .u64 (a.id : Nat)) ∧
      ((w.alloc (.cells (spanCells a) 28)).alloc (.cells (spanCells b) 28)).cell? ⟨w.heap.size + 1, 3, none⟩ = some (.int .u64 (b.start : Nat)) ∧
      ((w.alloc (.cells (spanCells a) 28)).alloc (.cells (spanCells b) 28)).cell? ⟨w.heap.size + 1, 1, none⟩ = some (.int .u64 (b.id : Nat)) ∧
      w.heap.size + 1 < ((w.alloc (.cells (spanCells a) 28)).alloc (.cells (spanCells b) 28)).heap.size := by
    have b1 := (box_new w a 28).below (((Below.refl (w.heap.size + 1) _).alloc (by simp) (.cells (spanCells b) 28))) (by omega)
    have b2 := box_new (w.alloc (.cells (spanCells a) 28)) b 28
    rw [show (w.alloc (.cells (spanCells a) 28)).heap.size = w.heap.size + 1 by simp] at b2
    exact ⟨b1.c3, b1.c1, b2.c3, b2.c1, by simp⟩
  go_enter Try.func40, Try.ntmps40
  go_wp2_with fail
  go_region_held3 (fun w' => w'.cell? ⟨w.heap.size, 3, none⟩ = some (.int .u64 (a.start : Nat)) ∧ w'.cell? ⟨w.heap.size, 1, none⟩ = some (.int .u64 (a.id : Nat)) ∧ w'.cell? ⟨w.heap.size + 1, 3, none⟩ = some (.int .u64 (b.start : Nat)) ∧ w'.cell? ⟨w.heap.size + 1, 1, none⟩ = some (.int .u64 (b.id : Nat)) ∧ w.heap.size + 1 < w'.heap.size)
    (first | assumption | go_keep)
    (first
      | (go_at_call 48; (with_reducible refine Calls.mono (compare_any _ _ _) ?_); rintro e w' ⟨rfl, rfl⟩)
      | (go_at_call 47; (with_reducible refine Calls.mono (or_any (w.heap.size + 1 + 1) (cmpF a.start b.start) (cmpF a.id b.id) _ ?ha ?hb) ?hc); (case ha => simp [go_sem]); (case hb => simp [go_sem]); rintro e w' ⟨rfl, rfl⟩))
  all_goals
    go_wp2_with fail
    go_ret
    exact ⟨rfl, 1, _, rfl⟩

theorem ordF_less (a b : SpanD) : decide (ordF a b < 0) = lessF a b := by
  unfold ordF orF
  rcases Nat.lt_trichotomy a.start b.start with h | h | h
  · rw [cmpF_lt h, less_lt h]; rfl
  · rw [cmpF_eq h, less_eq h]
    rcases Nat.lt_trichotomy a.id b.id with h2 | h2 | h2
    · rw [cmpF_lt h2, show decide (a.id < b.id) = true from decide_eq_true h2]; rfl
    · rw [cmpF_eq h2, show decide (a.id < b.id) = false from decide_eq_false (by omega)]; rfl
    · rw [cmpF_gt h2, show decide (a.id < b.id) = false from decide_eq_false (by omega)]; rfl
  · rw [cmpF_gt h, less_gt h]; rfl
theorem order_below (a b : SpanD) (w : World) :
    Calls Try.prog 40 #[spanVal a, spanVal b] w fun e w' => e = .returned (.int .i64 (ordF a b)) ∧ Below w.heap.size w w' :=
  (order_any a b w).mono fun e w' ⟨h, q, o, hw⟩ => ⟨h, by
    rw [hw]
    exact below_drewN ((((Below.refl _ _).alloc (Nat.le_refl _) _).alloc (by simp) _).alloc (by simp; omega) _) _⟩

set_option maxHeartbeats 1000000 in
theorem less_any (a b : SpanD) (w : World) :
    Calls Try.prog 22 #[spanVal a, spanVal b] w (BoolIs w (lessF a b)) := by
  have Hl := hid_ (ordF_less a b)
  have Ho := hid_ (fun W => order_below a b W)
  generalize ordF a b = k at *
  cases hk : decide (k < 0)
  all_goals
    have Hk := hid_ (Hl.out.symm.trans hk)
    go_enter Try.func22, Try.ntmps22
    go_wp2_with fail
    refine Calls.mono (Ho.out _) ?_
    rintro e w1 ⟨rfl, hb⟩
    go_wp2_with fail
    go_ret
    exact boolIs_mk Hk.out ((((Below.refl _ _).alloc (Nat.le_refl _) _).alloc (by simp) _).trans (hb.mono (by simp; omega)))
end Go.Proofs.Ytnphbefnmbagfaa
