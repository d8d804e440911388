/-
  What the reference's cutText and Cut answer.
-/
import Derived.Test.YtnpbokbfkdncmaaGreatZGC
import Derived.Test.YtnpbokbfkdncmaaGreatZGE
import Derived.Deep.RegionHeld3
import Derived.Deep.DrawnRows
import Derived.Deep.DeepCutAuto
namespace Go.Proofs.YtnpbokbfkdncmaaGreat
set_option linter.unusedSimpArgs false
set_option linter.unusedVariables false
open Go.RowKit Ru
attribute [local go_sem ↓] Go.wp_at_zero Go.wp_at_succ

set_option maxHeartbeats 1000000 in
theorem refcutText_in (B : Nat) (w0 : World) (A : Option Addr) (n c : Nat) (l : List UInt8) (w : World) (hall : ∀ W, Below B w0 W → Sl W A n c l) (hw0 : Below B w0 w) :
    Calls Tryz.prog 63 #[.slice A n c] w (TextIn B w0 w l) := by
  have hs := hall w hw0
  have Hall := hid_ hall
  have Hw0 := hid_ hw0
  clear hall hw0
  have hle := hs.le
  have hnc := hs.cap
  have hcm := hs.max
  have Hs := hid_ hs
  have Hlen := hid_ hs.len
  by_cases h0 : n = 0
  · have hl : l = [] := List.eq_nil_of_length_eq_zero (by rw [hs.len]; exact h0)
    subst hl
    have e0 : ((n : Int) == 0) = true := by rw [beq_iff_eq]; omega
    have H0 := hid_ h0
    clear h0 hs
    go_enter Tryz.func63, Tryz.ntmps63
    go_wp2
    go_ret3
    exact textIn_none cutText_none (Below.refl _ _)
  have hne : l ≠ [] := by rintro rfl; exact h0 hs.len.symm
  have Hne := hid_ hne
  have e0 : ((n : Int) == 0) = false := by rw [beq_eq_false_iff_ne]; omega
  have hpos : 0 < n := by omega
  obtain ⟨b, off, rfl, hc0⟩ := hs.holds.at_ (k := 0) (by rw [hs.len]; exact hpos)
  have hx : l[0]'(by rw [hs.len]; exact hpos) = l.getD 0 0 := by rw [List.getD_eq_getElem?_getD, List.getElem?_eq_getElem]; rfl
  rw [hx, Nat.add_zero] at hc0
  have Hf := hid_ (cutText_form (l := l) hne)
  have Hsh := hid_ (cutText_short (l := l) hne)
  have Hok := hid_ (cutText_ok (l := l) hne)
  generalize l.getD 0 0 = x at *
  have bx := UInt8.toNat_lt x
  clear hs hne hx h0
  by_cases h1 : x.toNat < 1
  · have Hr := hid_ (Hf.out (.inl h1))
    go_enter Tryz.func63, Tryz.ntmps63
    go_wp2
    go_ret3
    exact textIn_none Hr.out (Below.refl _ _)
  by_cases h2 : 32 < x.toNat
  · have Hr := hid_ (Hf.out (.inr h2))
    go_enter Tryz.func63, Tryz.ntmps63
    go_wp2
    go_ret3
    exact textIn_none Hr.out (Below.refl _ _)
  by_cases h3 : n - 1 < x.toNat
  · have Hr := hid_ (Hsh.out (by omega) (by rw [Hlen.out]; exact h3))
    go_enter Tryz.func63, Tryz.ntmps63
    go_wp2
    go_ret3
    exact textIn_none Hr.out (Below.refl _ _)
  have Hr := hid_ (Hok.out (by omega) (by rw [Hlen.out]; exact h3))
  generalize hm : x.toNat = m at *
  have Hm := hid_ hm
  clear hm
  have hc1 : ¬ c = 1 := by omega
  have Hd := (Hs.out.upto (m + 1) (by omega)).from_ 1 (by omega)
  rw [cutAt_add (by omega), Option.map_some, add_plain, show m + 1 - 1 = m by omega] at Hd
  have Hcv := fun q => sl_string (Hd.drew q)
  have Hrest := hid_ (fun W hW => (Hall.out W hW).from_ (m + 1) (by omega))
  clear Hd
  generalize strOf ((l.take (m + 1)).drop 1) = t at *
  go_enter Tryz.func63, Tryz.ntmps63
  go_wp2_with fail
  go_quiet (fail)
  go_wp2_with fail
  all_goals
    go_ret3
    refine textIn_ok Hr.out (fun W hW => (Hrest.out W hW).at_ ?_ (by omega) (by omega) rfl) (below_drewN (Below.refl _ _) _)
    first | exact cutAt_same (by omega) | (rw [cutAt_add (by omega), Option.map_some, add_plain])

theorem refnumber_from (b off : Nat) (n c : Nat) (l : List UInt8) (m : Nat) (w : World) (hs : Sl w (some ⟨b, off, none⟩) n c l) (h : m + 8 ≤ n) (hm : m < c) :
    ∀ W, Below w.heap.size w W → Calls Tryz.prog 62 #[.slice (some ⟨b, off + m, none⟩) (n - m) (c - m)] W fun e w' => e = .returned (.int .u64 (numB (l.drop m) 8 : Nat)) ∧ W = w' := by
  intro W hW
  have h1 := (hs.from_ m (by omega)).below hW
  rw [cutAt_add (by omega), Option.map_some, add_plain] at h1
  exact refnumber_any _ _ _ _ W h1 (by omega)
theorem cutText_size (m : List UInt8) : (cutTextF m).2.1.size ≤ 32 := by
  by_cases h0 : m = []
  · subst h0; decide
  by_cases h1 : (m.getD 0 0).toNat < 1 ∨ 32 < (m.getD 0 0).toNat
  · rw [cutText_form h0 h1]; decide
  by_cases h2 : m.length - 1 < (m.getD 0 0).toNat
  · rw [cutText_short h0 h1 h2]; decide
  rw [cutText_ok h0 h1 h2]
  simp only [strOf_size, List.length_drop, List.length_take]
  omega
theorem cutSpan_form {l : List UInt8} (h : ¬ l.length < 41) (h1 : 1 < (l.getD 40 0).toNat) : cutSpanF l = (6, SpanD.zero, []) := by unfold cutSpanF; rw [if_neg h, if_pos h1]
theorem cutSpan_one {l : List UInt8} (h : ¬ l.length < 41) (h1 : ¬ 1 < (l.getD 40 0).toNat) (h2 : (cutTextF (l.drop 41)).1 ≠ 0) : cutSpanF l = ((cutTextF (l.drop 41)).1, SpanD.zero, []) := by unfold cutSpanF; rw [if_neg h, if_neg h1, if_pos h2]
theorem cutSpan_two {l : List UInt8} (h : ¬ l.length < 41) (h1 : ¬ 1 < (l.getD 40 0).toNat) (h2 : (cutTextF (l.drop 41)).1 = 0) (h3 : (cutTextF (cutTextF (l.drop 41)).2.2).1 ≠ 0) :
    cutSpanF l = ((cutTextF (cutTextF (l.drop 41)).2.2).1, SpanD.zero, []) := by unfold cutSpanF; rw [if_neg h, if_neg h1, if_neg (by rw [h2]; simp), if_pos h3]
theorem cutSpan_wrong {l : List UInt8} (h : ¬ l.length < 41) (h1 : ¬ 1 < (l.getD 40 0).toNat) (h2 : (cutTextF (l.drop 41)).1 = 0) (h3 : (cutTextF (cutTextF (l.drop 41)).2.2).1 = 0)
    (h4 : rightF (numsOf l (cutTextF (l.drop 41)).2.1 (cutTextF (cutTextF (l.drop 41)).2.2).2.1) ≠ 0) :
    cutSpanF l = (rightF (numsOf l (cutTextF (l.drop 41)).2.1 (cutTextF (cutTextF (l.drop 41)).2.2).2.1), SpanD.zero, []) := by unfold cutSpanF; rw [if_neg h, if_neg h1, if_neg (by rw [h2]; simp), if_neg (by rw [h3]; simp), if_pos h4]
theorem cutSpan_fine {l : List UInt8} (h : ¬ l.length < 41) (h1 : ¬ 1 < (l.getD 40 0).toNat) (h2 : (cutTextF (l.drop 41)).1 = 0) (h3 : (cutTextF (cutTextF (l.drop 41)).2.2).1 = 0)
    (h4 : rightF (numsOf l (cutTextF (l.drop 41)).2.1 (cutTextF (cutTextF (l.drop 41)).2.2).2.1) = 0) :
    cutSpanF l = (0, numsOf l (cutTextF (l.drop 41)).2.1 (cutTextF (cutTextF (l.drop 41)).2.2).2.1, (cutTextF (cutTextF (l.drop 41)).2.2).2.2) := by unfold cutSpanF; rw [if_neg h, if_neg h1, if_neg (by rw [h2]; simp), if_neg (by rw [h3]; simp), if_neg (by rw [h4]; simp)]

set_option maxRecDepth 100000 in
set_option maxHeartbeats 8000000 in
theorem refcut_many (b off : Nat) (n c : Nat) (l : List UInt8) (w : World) (hs : Sl w (some ⟨b, off, none⟩) n c l) (h : 41 ≤ n) :
    Calls Tryz.prog 31 #[.slice (some ⟨b, off, none⟩) n c] w (SpanCutPost w l) := by
  have hle := hs.le
  have hnc := hs.cap
  have hcm := hs.max
  have Hs := hid_ hs
  have Hlen := hid_ hs.len
  have HN0 := hid_ (fun W (hW : Below w.heap.size w W) => refnumber_any _ _ _ _ W (hs.below hW) (by omega))
  have HN1 := hid_ (refnumber_from b off n c l 8 w hs (by omega) (by omega))
  have HN2 := hid_ (refnumber_from b off n c l 16 w hs (by omega) (by omega))
  have HN3 := hid_ (refnumber_from b off n c l 24 w hs (by omega) (by omega))
  have HN4 := hid_ (refnumber_from b off n c l 32 w hs (by omega) (by omega))
  generalize hn0 : numB l 8 = N0 at HN0
  have Hn0 := hid_ hn0
  clear hn0
  generalize hn1 : numB (l.drop 8) 8 = N1 at HN1
  have Hn1 := hid_ hn1
  clear hn1
  generalize hn2 : numB (l.drop 16) 8 = N2 at HN2
  have Hn2 := hid_ hn2
  clear hn2
  generalize hn3 : numB (l.drop 24) 8 = N3 at HN3
  have Hn3 := hid_ hn3
  clear hn3
  generalize hn4 : numB (l.drop 32) 8 = N4 at HN4
  have Hn4 := hid_ hn4
  clear hn4
  have h40l : 40 < l.length := by rw [hs.len]; omega
  obtain ⟨_, _, e40, h40⟩ := hs.holds.at_ h40l
  cases e40
  have hbw : b < w.heap.size := lt_of_cell h40
  have hb1 : w.heap.size ≠ b := by omega
  have hb2 : w.heap.size + 1 ≠ b := by omega
  have hx40 : l[40] = l.getD 40 0 := by rw [List.getD_eq_getElem?_getD, List.getElem?_eq_getElem h40l]; rfl
  rw [hx40] at h40
  have bx := UInt8.toNat_lt (l.getD 40 0)
  generalize hxx : l.getD 40 0 = x at *
  have Hxx := hid_ hxx
  clear hs hx40 hxx
  have n40 : ((n : Int) < 41) = False := by simp; omega
  have i8 : (8 : Int) ≤ (n : Int) := by omega
  have i16 : (16 : Int) ≤ (n : Int) := by omega
  have i24 : (24 : Int) ≤ (n : Int) := by omega
  have i32 : (32 : Int) ≤ (n : Int) := by omega
  have i40 : (40 : Int) < (n : Int) := by omega
  have inc : (n : Int) ≤ (c : Int) := by omega
  have c8 : ¬ c = 8 := by omega
  have c16 : ¬ c = 16 := by omega
  have c24 : ¬ c = 24 := by omega
  have c32 : ¬ c = 32 := by omega
  have H40 := hid_ h40
  have hnew := World.new_ne w ⟨b, off + 40, none⟩ h40
  generalize hf : ((x.toNat : Int) == 1) = fl
  have Hf := hid_ hf
  go_enter Tryz.func31, Tryz.ntmps31
  go_upto_region 3 with fail
  go_cut [5] (fun s5 wq => ∃ wx : World, wx = wq ∧ s5 = .pointer (some ⟨w.heap.size + 1, 0, none⟩) ∧ Whole wx w.heap.size 44 #[.int .u64 0, .int .u64 0, .int .u64 0, .int .u64 0, .int .u64 0, .string ⟨#[]⟩, .string ⟨#[]⟩, .bool false] ∧ Whole wx (w.heap.size + 1) 44 #[.int .u64 (N0 : Nat), .int .u64 (N1 : Nat), .int .u64 (N2 : Nat), .int .u64 (N3 : Nat), .int .u64 (N4 : Nat), .string ⟨#[]⟩, .string ⟨#[]⟩, .bool fl] ∧ Below w.heap.size w wx)
  case first =>
    go_region_held3 (fun w' => w'.cell? ⟨b, off + 40, none⟩ = some (.int .u8 (x.toNat : Nat))) (first | assumption | go_keep)
      (first
        | (go_at_call 62; (with_reducible refine Calls.mono (HN0.out _ ?_) ?_); (repeat (first | exact Below.refl _ _ | apply Below.drew | refine Below.alloc ?_ (by simp) _)); rintro e w' ⟨rfl, rfl⟩)
        | (go_at_call 62; (with_reducible refine Calls.mono (HN1.out _ ?_) ?_); (repeat (first | exact Below.refl _ _ | apply Below.drew | refine Below.alloc ?_ (by simp) _)); rintro e w' ⟨rfl, rfl⟩)
        | (go_at_call 62; (with_reducible refine Calls.mono (HN2.out _ ?_) ?_); (repeat (first | exact Below.refl _ _ | apply Below.drew | refine Below.alloc ?_ (by simp) _)); rintro e w' ⟨rfl, rfl⟩)
        | (go_at_call 62; (with_reducible refine Calls.mono (HN3.out _ ?_) ?_); (repeat (first | exact Below.refl _ _ | apply Below.drew | refine Below.alloc ?_ (by simp) _)); rintro e w' ⟨rfl, rfl⟩)
        | (go_at_call 62; (with_reducible refine Calls.mono (HN4.out _ ?_) ?_); (repeat (first | exact Below.refl _ _ | apply Below.drew | refine Below.alloc ?_ (by simp) _)); rintro e w' ⟨rfl, rfl⟩))
    all_goals
      go_wp2_with fail
      go_meet
      exact ⟨_, rfl, rfl, (whole_at w _ 44 _ rfl).alloc _, whole_at (w.alloc _) _ 44 _ (by simp), (by repeat (first | exact Below.refl _ _ | apply Below.drew | refine Below.alloc ?_ (by simp) _))⟩
  case rest =>
    obtain ⟨wx, rfl, rfl, hw0, hw1, hb⟩ := hcut
    have Hw0 := hid_ hw0
    have Hw1 := hid_ hw1
    have Hb := hid_ hb
    have hl0 := hw0.lt
    have hl1 := hw1.lt
    have hx40 : wx.cell? ⟨b, off + 40, none⟩ = some (.int .u8 (x.toNat : Nat)) := by rw [hb.cell (p := ⟨b, off + 40, none⟩) hbw]; exact H40.out
    clear hw0 hw1 hb h40
    have nl41 : Hid (¬ l.length < 41) := hid_ (by rw [Hlen.out]; omega)
    by_cases hx1 : 1 < x.toNat
    · have Hcut := hid_ (cutSpan_form nl41.out (by rw [Hxx.out]; exact hx1))
      obtain ⟨z0, z1, z2, z3, z4, z5, z6, z7⟩ := Whole.box (s := SpanD.zero) Hw0.out
      have f0 : ∀ o, wx.frozen? ⟨w.heap.size, o, none⟩ = false := fun o => Hw0.out.free o
      go_wp2_with fail
      have Hy := Whole.span Hw0.out rfl SpanD.zero
      have Hby := below_span Hb.out (Nat.le_refl w.heap.size) SpanD.zero
      have Hy2 : Whole ((((((((wx.setCell ⟨w.heap.size, 0, none⟩ (.int .u64 0)).setCell ⟨w.heap.size, 1, none⟩ (.int .u64 0)).setCell ⟨w.heap.size, 2, none⟩ (.int .u64 0)).setCell ⟨w.heap.size, 3, none⟩ (.int .u64 0)).setCell ⟨w.heap.size, 4, none⟩ (.int .u64 0)).setCell ⟨w.heap.size, 5, none⟩ (.string ⟨#[]⟩)).setCell ⟨w.heap.size, 6, none⟩ (.string ⟨#[]⟩)).setCell ⟨w.heap.size, 7, none⟩ (.bool false)) w.heap.size 44 (spanCells SpanD.zero) ∧ Below w.heap.size w ((((((((wx.setCell ⟨w.heap.size, 0, none⟩ (.int .u64 0)).setCell ⟨w.heap.size, 1, none⟩ (.int .u64 0)).setCell ⟨w.heap.size, 2, none⟩ (.int .u64 0)).setCell ⟨w.heap.size, 3, none⟩ (.int .u64 0)).setCell ⟨w.heap.size, 4, none⟩ (.int .u64 0)).setCell ⟨w.heap.size, 5, none⟩ (.string ⟨#[]⟩)).setCell ⟨w.heap.size, 6, none⟩ (.string ⟨#[]⟩)).setCell ⟨w.heap.size, 7, none⟩ (.bool false)) := ⟨Hy, Hby⟩
      clear Hy Hby z0 z1 z2 z3 z4 z5 z6 z7 f0
      generalize ((((((((wx.setCell ⟨w.heap.size, 0, none⟩ (.int .u64 0)).setCell ⟨w.heap.size, 1, none⟩ (.int .u64 0)).setCell ⟨w.heap.size, 2, none⟩ (.int .u64 0)).setCell ⟨w.heap.size, 3, none⟩ (.int .u64 0)).setCell ⟨w.heap.size, 4, none⟩ (.int .u64 0)).setCell ⟨w.heap.size, 5, none⟩ (.string ⟨#[]⟩)).setCell ⟨w.heap.size, 6, none⟩ (.string ⟨#[]⟩)).setCell ⟨w.heap.size, 7, none⟩ (.bool false)) = W at Hy2 ⊢
      obtain ⟨Hy, Hby⟩ := Hy2
      obtain ⟨y0, y1, y2, y3, y4, y5, y6, y7⟩ := Hy.box
      refine bodyPost_ret (v := .tuple #[spanVal SpanD.zero, .slice none 0 0, .int .i64 6]) (by simp [results, Tryz.results31, go_sem, y0, y1, y2, y3, y4, y5, y6, y7, SpanD.zero]) rfl ?_
      exact spanCut_none Hcut.out Hby
    have Hnx := hid_ hx1
    have Hd := hid_ (fun W (hW : Below w.heap.size w W) => (Hs.out.below hW).from_ 41 h)
    go_wp2_with fail
    all_goals
      clear hx40
      refine Calls.mono (refcutText_in w.heap.size w _ _ _ (l.drop 41) wx (fun W hW => (Hd.out W hW).at_ ?_ ?_ ?_ rfl) Hb.out) ?_
      · first | exact cutAt_same (by omega) | (rw [cutAt_add (by omega), Option.map_some, add_plain])
      · omega
      · omega
      rintro e w2 ⟨A4, n4, c4, rfl, hs4, hb4⟩
      have Hs4 := hid_ hs4
      have Hb4 := hid_ (Hb.out.trans (hb4.mono Hb.out.size))
      have Hv0 := hid_ (Hw0.out.below hb4 hl0)
      have Hv1 := hid_ (Hw1.out.below hb4 hl1)
      have hm0 := Hv0.out.lt
      have hm1 := Hv1.out.lt
      clear hs4 hb4
      by_cases hK : (cutTextF (l.drop 41)).1 = 0
      rotate_left
      · have Hcut := hid_ (cutSpan_one nl41.out (by rw [Hxx.out]; exact Hnx.out) hK)
        generalize (cutTextF (l.drop 41)).1 = K at *
        have hKb : (K != 0) = true := by rw [bne_iff_ne]; exact hK
        have HK := hid_ hK
        clear hK
        obtain ⟨z0, z1, z2, z3, z4, z5, z6, z7⟩ := Whole.box (s := SpanD.zero) Hv0.out
        have f0 : ∀ o, w2.frozen? ⟨w.heap.size, o, none⟩ = false := fun o => Hv0.out.free o
        go_wp2_with fail
        have Hy := Whole.span Hv0.out rfl SpanD.zero
        have Hby := below_span Hb4.out (Nat.le_refl w.heap.size) SpanD.zero
        have Hy2 : Whole ((((((((w2.setCell ⟨w.heap.size, 0, none⟩ (.int .u64 0)).setCell ⟨w.heap.size, 1, none⟩ (.int .u64 0)).setCell ⟨w.heap.size, 2, none⟩ (.int .u64 0)).setCell ⟨w.heap.size, 3, none⟩ (.int .u64 0)).setCell ⟨w.heap.size, 4, none⟩ (.int .u64 0)).setCell ⟨w.heap.size, 5, none⟩ (.string ⟨#[]⟩)).setCell ⟨w.heap.size, 6, none⟩ (.string ⟨#[]⟩)).setCell ⟨w.heap.size, 7, none⟩ (.bool false)) w.heap.size 44 (spanCells SpanD.zero) ∧ Below w.heap.size w ((((((((w2.setCell ⟨w.heap.size, 0, none⟩ (.int .u64 0)).setCell ⟨w.heap.size, 1, none⟩ (.int .u64 0)).setCell ⟨w.heap.size, 2, none⟩ (.int .u64 0)).setCell ⟨w.heap.size, 3, none⟩ (.int .u64 0)).setCell ⟨w.heap.size, 4, none⟩ (.int .u64 0)).setCell ⟨w.heap.size, 5, none⟩ (.string ⟨#[]⟩)).setCell ⟨w.heap.size, 6, none⟩ (.string ⟨#[]⟩)).setCell ⟨w.heap.size, 7, none⟩ (.bool false)) := ⟨Hy, Hby⟩
        clear Hy Hby z0 z1 z2 z3 z4 z5 z6 z7 f0
        generalize ((((((((w2.setCell ⟨w.heap.size, 0, none⟩ (.int .u64 0)).setCell ⟨w.heap.size, 1, none⟩ (.int .u64 0)).setCell ⟨w.heap.size, 2, none⟩ (.int .u64 0)).setCell ⟨w.heap.size, 3, none⟩ (.int .u64 0)).setCell ⟨w.heap.size, 4, none⟩ (.int .u64 0)).setCell ⟨w.heap.size, 5, none⟩ (.string ⟨#[]⟩)).setCell ⟨w.heap.size, 6, none⟩ (.string ⟨#[]⟩)).setCell ⟨w.heap.size, 7, none⟩ (.bool false)) = W at Hy2 ⊢
        obtain ⟨Hy, Hby⟩ := Hy2
        obtain ⟨y0, y1, y2, y3, y4, y5, y6, y7⟩ := Hy.box
        refine bodyPost_ret (v := .tuple #[spanVal SpanD.zero, .slice none 0 0, .int .i64 K]) (by simp [results, Tryz.results31, go_sem, y0, y1, y2, y3, y4, y5, y6, y7, SpanD.zero]) rfl ?_
        exact spanCut_none Hcut.out Hby
      have HK := hid_ hK
      rw [hK]
      clear hK
      go_wp2_with fail
      refine Calls.mono (refcutText_in w.heap.size w A4 n4 c4 _ w2 Hs4.out Hb4.out) ?_
      rintro e w3 ⟨A5, n5, c5, rfl, hs5, hb5⟩
      have Hs5 := hid_ hs5
      have Hb5 := hid_ (Hb4.out.trans (hb5.mono Hb4.out.size))
      have Hu0 := hid_ (Hv0.out.below hb5 hm0)
      have Hu1 := hid_ (Hv1.out.below hb5 hm1)
      have hk0 := Hu0.out.lt
      have hk1 := Hu1.out.lt
      clear hs5 hb5
      by_cases hK2 : (cutTextF (cutTextF (l.drop 41)).2.2).1 = 0
      rotate_left
      · have Hcut := hid_ (cutSpan_two nl41.out (by rw [Hxx.out]; exact Hnx.out) HK.out hK2)
        generalize (cutTextF (cutTextF (l.drop 41)).2.2).1 = K at *
        have hKb : (K != 0) = true := by rw [bne_iff_ne]; exact hK2
        have HK2 := hid_ hK2
        clear hK2
        obtain ⟨z0, z1, z2, z3, z4, z5, z6, z7⟩ := Whole.box (s := SpanD.zero) Hu0.out
        have f0 : ∀ o, w3.frozen? ⟨w.heap.size, o, none⟩ = false := fun o => Hu0.out.free o
        go_wp2_with fail
        have Hy := Whole.span Hu0.out rfl SpanD.zero
        have Hby := below_span Hb5.out (Nat.le_refl w.heap.size) SpanD.zero
        have Hy2 : Whole ((((((((w3.setCell ⟨w.heap.size, 0, none⟩ (.int .u64 0)).setCell ⟨w.heap.size, 1, none⟩ (.int .u64 0)).setCell ⟨w.heap.size, 2, none⟩ (.int .u64 0)).setCell ⟨w.heap.size, 3, none⟩ (.int .u64 0)).setCell ⟨w.heap.size, 4, none⟩ (.int .u64 0)).setCell ⟨w.heap.size, 5, none⟩ (.string ⟨#[]⟩)).setCell ⟨w.heap.size, 6, none⟩ (.string ⟨#[]⟩)).setCell ⟨w.heap.size, 7, none⟩ (.bool false)) w.heap.size 44 (spanCells SpanD.zero) ∧ Below w.heap.size w ((((((((w3.setCell ⟨w.heap.size, 0, none⟩ (.int .u64 0)).setCell ⟨w.heap.size, 1, none⟩ (.int .u64 0)).setCell ⟨w.heap.size, 2, none⟩ (.int .u64 0)).setCell ⟨w.heap.size, 3, none⟩ (.int .u64 0)).setCell ⟨w.heap.size, 4, none⟩ (.int .u64 0)).setCell ⟨w.heap.size, 5, none⟩ (.string ⟨#[]⟩)).setCell ⟨w.heap.size, 6, none⟩ (.string ⟨#[]⟩)).setCell ⟨w.heap.size, 7, none⟩ (.bool false)) := ⟨Hy, Hby⟩
        clear Hy Hby z0 z1 z2 z3 z4 z5 z6 z7 f0
        generalize ((((((((w3.setCell ⟨w.heap.size, 0, none⟩ (.int .u64 0)).setCell ⟨w.heap.size, 1, none⟩ (.int .u64 0)).setCell ⟨w.heap.size, 2, none⟩ (.int .u64 0)).setCell ⟨w.heap.size, 3, none⟩ (.int .u64 0)).setCell ⟨w.heap.size, 4, none⟩ (.int .u64 0)).setCell ⟨w.heap.size, 5, none⟩ (.string ⟨#[]⟩)).setCell ⟨w.heap.size, 6, none⟩ (.string ⟨#[]⟩)).setCell ⟨w.heap.size, 7, none⟩ (.bool false)) = W at Hy2 ⊢
        obtain ⟨Hy, Hby⟩ := Hy2
        obtain ⟨y0, y1, y2, y3, y4, y5, y6, y7⟩ := Hy.box
        refine bodyPost_ret (v := .tuple #[spanVal SpanD.zero, .slice none 0 0, .int .i64 K]) (by simp [results, Tryz.results31, go_sem, y0, y1, y2, y3, y4, y5, y6, y7, SpanD.zero]) rfl ?_
        exact spanCut_none Hcut.out Hby
      have HK2 := hid_ hK2
      rw [hK2]
      clear hK2
      have Hwrong := hid_ (cutSpan_wrong nl41.out (by rw [Hxx.out]; exact Hnx.out) HK.out HK2.out)
      have Hfine := hid_ (cutSpan_fine nl41.out (by rw [Hxx.out]; exact Hnx.out) HK.out HK2.out)
      have Hwf := hid_ (numsOf_wf l (cutTextF (l.drop 41)).2.1 (cutTextF (cutTextF (l.drop 41)).2.2).2.1 (by have := cutText_size (l.drop 41); omega) (by have := cutText_size (cutTextF (l.drop 41)).2.2; omega))
      generalize (cutTextF (cutTextF (l.drop 41)).2.2).2.1 = t2 at *
      generalize (cutTextF (cutTextF (l.drop 41)).2.2).2.2 = r2 at *
      generalize (cutTextF (l.drop 41)).2.1 = t1 at *
      have Hnum := hid_ (show numsOf l t1 t2 = ⟨N0, N1, N2, N3, N4, t1, t2, fl⟩ by
        unfold numsOf
        rw [Hn0.out, Hn1.out, Hn2.out, Hn3.out, Hn4.out, Hxx.out, ← Hf.out]
        congr 1
        rw [Bool.eq_iff_iff]
        simp
        omega)
      rw [Hnum.out] at Hwrong Hfine Hwf
      have Hr := hid_ (fun W => refright_any ⟨N0, N1, N2, N3, N4, t1, t2, fl⟩ W Hwf.out)
      obtain ⟨m0, m1, m2, m3, m4, m5, m6, m7⟩ := Whole.box (s := ⟨N0, N1, N2, N3, N4, ⟨#[]⟩, ⟨#[]⟩, fl⟩) Hu1.out
      have f1 : ∀ o, w3.frozen? ⟨w.heap.size + 1, o, none⟩ = false := fun o => Hu1.out.free o
      go_wp2_with fail
      have Hc1 := hid_ (Hb5.out.setCell (p := ⟨w.heap.size + 1, 5, none⟩) (by simp) (.string t1))
      have Hc2 := hid_ (Hc1.out.setCell (p := ⟨w.heap.size + 1, 6, none⟩) (by simp) (.string t2))
      have Hg1 := (Hu1.out.store 5 (.string t1)).store 6 (.string t2)
      rw [show (#[.int .u64 (N0 : Nat), .int .u64 (N1 : Nat), .int .u64 (N2 : Nat), .int .u64 (N3 : Nat), .int .u64 (N4 : Nat), .string ⟨#[]⟩, .string ⟨#[]⟩, .bool fl].setIfInBounds 5 (.string t1)).setIfInBounds 6 (.string t2) = spanCells ⟨N0, N1, N2, N3, N4, t1, t2, fl⟩ by simp [spanCells]] at Hg1
      have Hg0 := (Hu0.out.far (p := ⟨w.heap.size + 1, 5, none⟩) (by simp only []; omega) (.string t1)).far (p := ⟨w.heap.size + 1, 6, none⟩) (by simp only []; omega) (.string t2)
      have Hh0 := hid_ Hg0
      have Hh1 := hid_ Hg1
      have g0 := Hg0.lt
      have g1 := Hg1.lt
      refine Calls.mono (Hr.out _) ?_
      rintro e w4 ⟨rfl, hb6⟩
      have Hb6 := hid_ (Hc2.out.trans (hb6.mono Hc2.out.size))
      have Hq0 := hid_ (Hh0.out.below hb6 g0)
      have Hq1 := hid_ (Hh1.out.below hb6 g1)
      clear hb6 m0 m1 m2 m3 m4 m5 m6 m7 f1 Hg0 Hg1
      obtain ⟨z0, z1, z2, z3, z4, z5, z6, z7⟩ := Whole.box (s := SpanD.zero) Hq0.out
      have f0 : ∀ o, w4.frozen? ⟨w.heap.size, o, none⟩ = false := fun o => Hq0.out.free o
      by_cases hR : rightF ⟨N0, N1, N2, N3, N4, t1, t2, fl⟩ = 0
      rotate_left
      · have Hcut := hid_ (Hwrong.out hR)
        have hRb : (rightF ⟨N0, N1, N2, N3, N4, t1, t2, fl⟩ != 0) = true := by rw [bne_iff_ne]; exact hR
        generalize rightF ⟨N0, N1, N2, N3, N4, t1, t2, fl⟩ = K at *
        have HR := hid_ hR
        clear hR
        go_wp2_with fail
        have Hy := Whole.span Hq0.out rfl SpanD.zero
        have Hby := below_span Hb6.out (Nat.le_refl w.heap.size) SpanD.zero
        have Hy2 : Whole ((((((((w4.setCell ⟨w.heap.size, 0, none⟩ (.int .u64 0)).setCell ⟨w.heap.size, 1, none⟩ (.int .u64 0)).setCell ⟨w.heap.size, 2, none⟩ (.int .u64 0)).setCell ⟨w.heap.size, 3, none⟩ (.int .u64 0)).setCell ⟨w.heap.size, 4, none⟩ (.int .u64 0)).setCell ⟨w.heap.size, 5, none⟩ (.string ⟨#[]⟩)).setCell ⟨w.heap.size, 6, none⟩ (.string ⟨#[]⟩)).setCell ⟨w.heap.size, 7, none⟩ (.bool false)) w.heap.size 44 (spanCells SpanD.zero) ∧ Below w.heap.size w ((((((((w4.setCell ⟨w.heap.size, 0, none⟩ (.int .u64 0)).setCell ⟨w.heap.size, 1, none⟩ (.int .u64 0)).setCell ⟨w.heap.size, 2, none⟩ (.int .u64 0)).setCell ⟨w.heap.size, 3, none⟩ (.int .u64 0)).setCell ⟨w.heap.size, 4, none⟩ (.int .u64 0)).setCell ⟨w.heap.size, 5, none⟩ (.string ⟨#[]⟩)).setCell ⟨w.heap.size, 6, none⟩ (.string ⟨#[]⟩)).setCell ⟨w.heap.size, 7, none⟩ (.bool false)) := ⟨Hy, Hby⟩
        clear Hy Hby z0 z1 z2 z3 z4 z5 z6 z7 f0
        generalize ((((((((w4.setCell ⟨w.heap.size, 0, none⟩ (.int .u64 0)).setCell ⟨w.heap.size, 1, none⟩ (.int .u64 0)).setCell ⟨w.heap.size, 2, none⟩ (.int .u64 0)).setCell ⟨w.heap.size, 3, none⟩ (.int .u64 0)).setCell ⟨w.heap.size, 4, none⟩ (.int .u64 0)).setCell ⟨w.heap.size, 5, none⟩ (.string ⟨#[]⟩)).setCell ⟨w.heap.size, 6, none⟩ (.string ⟨#[]⟩)).setCell ⟨w.heap.size, 7, none⟩ (.bool false)) = W at Hy2 ⊢
        obtain ⟨Hy, Hby⟩ := Hy2
        obtain ⟨y0, y1, y2, y3, y4, y5, y6, y7⟩ := Hy.box
        refine bodyPost_ret (v := .tuple #[spanVal SpanD.zero, .slice none 0 0, .int .i64 K]) (by simp [results, Tryz.results31, go_sem, y0, y1, y2, y3, y4, y5, y6, y7, SpanD.zero]) rfl ?_
        exact spanCut_none Hcut.out Hby
      have Hcut := hid_ (Hfine.out hR)
      rw [hR]
      clear hR
      obtain ⟨m0, m1, m2, m3, m4, m5, m6, m7⟩ := Hq1.out.box
      go_wp2_with fail
      have Hy := Whole.span Hq0.out rfl ⟨N0, N1, N2, N3, N4, t1, t2, fl⟩
      have Hby := below_span Hb6.out (Nat.le_refl w.heap.size) ⟨N0, N1, N2, N3, N4, t1, t2, fl⟩
      have hr4 := Hs5.out _ Hby
      have Hy2 : Whole ((((((((w4.setCell ⟨w.heap.size, 0, none⟩ (.int .u64 (N0 : Nat))).setCell ⟨w.heap.size, 1, none⟩ (.int .u64 (N1 : Nat))).setCell ⟨w.heap.size, 2, none⟩ (.int .u64 (N2 : Nat))).setCell ⟨w.heap.size, 3, none⟩ (.int .u64 (N3 : Nat))).setCell ⟨w.heap.size, 4, none⟩ (.int .u64 (N4 : Nat))).setCell ⟨w.heap.size, 5, none⟩ (.string t1)).setCell ⟨w.heap.size, 6, none⟩ (.string t2)).setCell ⟨w.heap.size, 7, none⟩ (.bool fl)) w.heap.size 44 (spanCells ⟨N0, N1, N2, N3, N4, t1, t2, fl⟩) ∧ Below w.heap.size w ((((((((w4.setCell ⟨w.heap.size, 0, none⟩ (.int .u64 (N0 : Nat))).setCell ⟨w.heap.size, 1, none⟩ (.int .u64 (N1 : Nat))).setCell ⟨w.heap.size, 2, none⟩ (.int .u64 (N2 : Nat))).setCell ⟨w.heap.size, 3, none⟩ (.int .u64 (N3 : Nat))).setCell ⟨w.heap.size, 4, none⟩ (.int .u64 (N4 : Nat))).setCell ⟨w.heap.size, 5, none⟩ (.string t1)).setCell ⟨w.heap.size, 6, none⟩ (.string t2)).setCell ⟨w.heap.size, 7, none⟩ (.bool fl)) ∧ Sl ((((((((w4.setCell ⟨w.heap.size, 0, none⟩ (.int .u64 (N0 : Nat))).setCell ⟨w.heap.size, 1, none⟩ (.int .u64 (N1 : Nat))).setCell ⟨w.heap.size, 2, none⟩ (.int .u64 (N2 : Nat))).setCell ⟨w.heap.size, 3, none⟩ (.int .u64 (N3 : Nat))).setCell ⟨w.heap.size, 4, none⟩ (.int .u64 (N4 : Nat))).setCell ⟨w.heap.size, 5, none⟩ (.string t1)).setCell ⟨w.heap.size, 6, none⟩ (.string t2)).setCell ⟨w.heap.size, 7, none⟩ (.bool fl)) A5 n5 c5 r2 := ⟨Hy, Hby, hr4⟩
      clear Hy Hby hr4 z0 z1 z2 z3 z4 z5 z6 z7 f0 m0 m1 m2 m3 m4 m5 m6 m7
      generalize ((((((((w4.setCell ⟨w.heap.size, 0, none⟩ (.int .u64 (N0 : Nat))).setCell ⟨w.heap.size, 1, none⟩ (.int .u64 (N1 : Nat))).setCell ⟨w.heap.size, 2, none⟩ (.int .u64 (N2 : Nat))).setCell ⟨w.heap.size, 3, none⟩ (.int .u64 (N3 : Nat))).setCell ⟨w.heap.size, 4, none⟩ (.int .u64 (N4 : Nat))).setCell ⟨w.heap.size, 5, none⟩ (.string t1)).setCell ⟨w.heap.size, 6, none⟩ (.string t2)).setCell ⟨w.heap.size, 7, none⟩ (.bool fl)) = W at Hy2 ⊢
      obtain ⟨Hy, Hby, hr4⟩ := Hy2
      obtain ⟨y0, y1, y2, y3, y4, y5, y6, y7⟩ := Hy.box
      refine bodyPost_ret (v := .tuple #[spanVal ⟨N0, N1, N2, N3, N4, t1, t2, fl⟩, .slice A5 n5 c5, .int .i64 0]) (by simp [results, Tryz.results31, go_sem, y0, y1, y2, y3, y4, y5, y6, y7]) rfl ?_
      exact spanCut_ok Hcut.out hr4 Hby
theorem refcut_any (A : Option Addr) (n c : Nat) (l : List UInt8) (w : World) (hs : Sl w A n c l) :
    Calls Tryz.prog 31 #[.slice A n c] w (SpanCutPost w l) := by
  by_cases h : n < 41
  · exact refcut_short A n c l w hs h
  · obtain ⟨b, off, rfl, _⟩ := hs.holds.at_ (k := 0) (by rw [hs.len]; omega)
    exact refcut_many b off n c l w hs (by omega)
end Go.Proofs.YtnpbokbfkdncmaaGreat
