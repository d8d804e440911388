/-
  The chapter's example.
-/
import Derived.Test.YteoeghljoaiiiaaZRMerge
namespace Go.Proofs.Yteoeghljoaiiiaa
set_option linter.unusedSimpArgs false
set_option linter.unusedVariables false
open Go.RowKit Ru
attribute [local go_sem ↓] Go.wp_at_zero Go.wp_at_succ
namespace Vw
set_option linter.unusedSimpArgs false
set_option linter.unusedVariables false
theorem mem_eql (a b : MemberD) (w : World) : (binOp .eql 79 (memVal a) (memVal b)).run Try.prog w = .ok (.bool (sameM a b)) w := by
  rw [run_eql_struct, mem_equalIn]
  rfl
theorem mergeIs_example {r : List MemberD} {k : Int} (h : MergeIs [⟨1, 1, 2⟩] [⟨1, 2, 0⟩] r k) : r = [⟨1, 2, 0⟩] ∧ k = 0 := by
  have hr1 : rightV [⟨1, 1, 2⟩] = true := by decide
  have hr2 : rightV [⟨1, 2, 0⟩] = true := by decide
  have hm := put_all (right_rising hr1) (right_rising hr2)
  have e : ([⟨1, 2, 0⟩] : List MemberD).foldl putM [⟨1, 1, 2⟩] = [⟨1, 2, 0⟩] := by
    simp [putM, joinM, newerB]
  rw [e] at hm
  have h2 : MergeIs [⟨1, 1, 2⟩] [⟨1, 2, 0⟩] [⟨1, 2, 0⟩] 0 := .inr ⟨hr1, hr2, _, hm, .inr ⟨by decide, rfl, rfl⟩⟩
  exact mergeIs_one h h2
theorem wf_one (x y : Nat) (z : Int) (h1 : x < 18446744073709551616) (h2 : y < 18446744073709551616) (h3 : -9223372036854775808 ≤ z) (h4 : z ≤ 9223372036854775807) : ∀ m ∈ ([⟨x, y, z⟩] : List MemberD), m.Wf := by
  intro m hm
  rw [List.mem_singleton] at hm
  subst hm
  exact ⟨h1, h2, h3, h4⟩
/-- Two members and a third stand. -/
abbrev MemThree (w1 : World) (g1 g2 g3 o3 : Nat) (W : World) : Prop :=
  Below w1.heap.size w1 W ∧ W.cell? ⟨g1, 0, none⟩ = some (.int .u64 1) ∧ W.cell? ⟨g1, 1, none⟩ = some (.int .u64 1) ∧ W.cell? ⟨g1, 2, none⟩ = some (.int .i64 2) ∧
    W.cell? ⟨g2, 0, none⟩ = some (.int .u64 1) ∧ W.cell? ⟨g2, 1, none⟩ = some (.int .u64 2) ∧ W.cell? ⟨g2, 2, none⟩ = some (.int .i64 0) ∧
    W.cell? ⟨g3, o3, none⟩ = some (.int .u64 1) ∧ W.cell? ⟨g3, o3 + 1, none⟩ = some (.int .u64 2) ∧ W.cell? ⟨g3, o3 + 2, none⟩ = some (.int .i64 0)
theorem memThree_keep {w1 W W' : World} {g1 g2 g3 o3 : Nat} (h : MemThree w1 g1 g2 g3 o3 W) (hb : Below W.heap.size W W') : MemThree w1 g1 g2 g3 o3 W' := by
  obtain ⟨h0, a, b, c, d, e, f, g, h, i⟩ := h
  exact ⟨h0.trans (hb.mono h0.size), by rw [hb.cell (lt_of_cell a)]; exact a, by rw [hb.cell (lt_of_cell b)]; exact b, by rw [hb.cell (lt_of_cell c)]; exact c, by rw [hb.cell (lt_of_cell d)]; exact d, by rw [hb.cell (lt_of_cell e)]; exact e, by rw [hb.cell (lt_of_cell f)]; exact f, by rw [hb.cell (lt_of_cell g)]; exact g, by rw [hb.cell (lt_of_cell h)]; exact h, by rw [hb.cell (lt_of_cell i)]; exact i⟩
abbrev aliveW (w : World) : World := (((w.alloc (.cells #[.int .u64 1, .int .u64 1, .int .i64 2] 79)).alloc (.cells #[.int .u64 1, .int .u64 2, .int .i64 0] 79)).alloc (.cells #[.int .u64 1, .int .u64 1, .int .i64 2] 79)).alloc (.cells #[.int .u64 1, .int .u64 2, .int .i64 0] 79)
set_option maxHeartbeats 8000000 in
theorem valive_any (w : World) : Calls Try.prog 45 #[] w (BoolIs w true) := by
  have Hb0 := hid_ (show Below w.heap.size w (aliveW w) from ((((Below.refl w.heap.size w).alloc (Nat.le_refl _) _).alloc (by simp) _).alloc (by simp; omega) _).alloc (by simp; omega) _)
  have Hr1 := hid_ (show MemRow (aliveW w) (some ⟨w.heap.size + 2, 0, none⟩) 1 1 [⟨1, 1, 2⟩] from (memRow_of_enc (mem_lit_at _ (w.heap.size + 2) 1 1 2 79 (by simp))).below ((Below.refl _ _).alloc (Nat.le_refl _) _))
  have Hr2 := hid_ (show MemRow (aliveW w) (some ⟨w.heap.size + 3, 0, none⟩) 1 1 [⟨1, 2, 0⟩] from memRow_of_enc (mem_lit_at _ (w.heap.size + 3) 1 2 0 79 (by simp)))
  have Hm := hid_ (merge_any (some ⟨w.heap.size + 2, 0, none⟩) (some ⟨w.heap.size + 3, 0, none⟩) 1 1 1 1 [⟨1, 1, 2⟩] [⟨1, 2, 0⟩] (aliveW w) Hr1.out Hr2.out (wf_one 1 1 2 (by omega) (by omega) (by omega) (by omega)) (wf_one 1 2 0 (by omega) (by omega) (by omega) (by omega)))
  have HA := hid_ (show Whole (aliveW w) w.heap.size 79 #[.int .u64 1, .int .u64 1, .int .i64 2] from (((whole_new w _ _).alloc _).alloc _).alloc _)
  have HBx := hid_ (show Whole (aliveW w) (w.heap.size + 1) 79 #[.int .u64 1, .int .u64 2, .int .i64 0] from ((whole_at _ _ _ _ (by simp)).alloc _).alloc _)
  have kn := fun (a b : MemberD) (w : World) => mem_eql a b w
  go_enter Try.func45, Try.ntmps45
  go_wp2_with fail
  refine Calls.mono Hm.out ?_
  rintro e w1 ⟨A, n, c, r, k, rfl, hrow, hi, hb⟩
  obtain ⟨rfl, rfl⟩ := mergeIs_example hi
  obtain rfl : n = 1 := by rw [← hrow.len]; rfl
  obtain ⟨g3, o3, rfl, hat⟩ := hrow.at_ (k := 0) (by decide)
  have HRow := hid_ hrow
  have HB1 := hid_ (Hb0.out.trans (hb.mono Hb0.out.size))
  have HA1 := hid_ (HA.out.below hb HA.out.lt)
  have HB2 := hid_ (HBx.out.below hb HBx.out.lt)
  have m0 : w1.cell? ⟨g3, o3, none⟩ = some (.int .u64 1) := hat.c0
  have m1 : w1.cell? ⟨g3, o3 + 1, none⟩ = some (.int .u64 2) := hat.c1
  have m2 : w1.cell? ⟨g3, o3 + 2, none⟩ = some (.int .i64 0) := hat.c2
  have hcap := hrow.cap
  have S0 : MemThree w1 w.heap.size (w.heap.size + 1) g3 o3 w1 := ⟨Below.refl _ _, HA1.out.cell 0 _ rfl, HA1.out.cell 1 _ rfl, HA1.out.cell 2 _ rfl, HB2.out.cell 0 _ rfl, HB2.out.cell 1 _ rfl, HB2.out.cell 2 _ rfl, m0, m1, m2⟩
  have HNew := hid_ (fun W => show Calls Try.prog 50 #[.agg #[.int .u64 1, .int .u64 2, .int .i64 0], .agg #[.int .u64 1, .int .u64 1, .int .i64 2]] W (RetB W.heap.size W (.bool true)) from vnewer_any ⟨1, 2, 0⟩ ⟨1, 1, 2⟩ W)
  have HSame := hid_ (fun (W : World) (B2 : Option Addr) (h1 : Below w1.heap.size w1 W) (h2 : MemRow W B2 1 1 [⟨1, 2, 0⟩]) => show Calls Try.prog 52 #[.slice (some ⟨g3, o3, none⟩) 1 c, .slice B2 1 1] W (BoolIs W true) from vsame_any (some ⟨g3, o3, none⟩) B2 1 1 c 1 [⟨1, 2, 0⟩] [⟨1, 2, 0⟩] W (HRow.out.below h1) h2)
  have x1 : (0 : Int) < (1 : Int) := by omega
  have x2 : 0 < 1 := by omega
  clear hrow hat hb hi m0 m1 m2
  go_wp2_with fail
  go_region_held3 (MemThree w1 w.heap.size (w.heap.size + 1) g3 o3) (first | assumption | (refine memThree_keep (by assumption) (by assumption)) | (refine memThree_keep (by assumption) (Below.drew (Below.refl _ _))) | (refine memThree_keep (by assumption) (Below.alloc (Below.refl _ _) (Nat.le_refl _) _)))
    (first
      | (go_at_call 50; (with_reducible refine Calls.mono (HNew.out _) ?_); rintro e w' ⟨rfl, hb'⟩)
      | (go_at_call 52; (with_reducible refine Calls.mono (HSame.out _ _ ?_ ?_) ?_); (exact And.left (by assumption)); (exact memRow_of_enc (mem_lit_at _ _ 1 2 0 _ (by simp))); rintro e w' ⟨rfl, hb'⟩)
      | fail)
  go_wp2_with fail
  go_ret
  exact boolIs_mk rfl (HB1.out.trans (Below.mono (And.left (by assumption)) HB1.out.size))
end Vw
end Go.Proofs.Yteoeghljoaiiiaa
