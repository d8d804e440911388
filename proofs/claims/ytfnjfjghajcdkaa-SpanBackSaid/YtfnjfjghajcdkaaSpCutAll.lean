/-
  What the program's Cut answers.
-/
import Derived.Test.YtfnjfjghajcdkaaSpCut
import Derived.Test.YtfnjfjghajcdkaaSpRight
namespace Go.Proofs.Ytfnjfjghajcdkaa
open Go.RowKit Ru

theorem Own.far {B : Nat} {w : World} {A : Option Addr} {n c : Nat} {l : List UInt8} (h : Own B w A n c l) {p : Addr} (hp : p.block < B) (v : Value) : Own B (w.setCell p v) A n c l := by
  obtain ⟨hx, h | ⟨g, cap, cur, e, hg, hh, r⟩⟩ := h
  · exact ⟨hx, .inl h⟩
  · exact ⟨hx, .inr ⟨g, cap, cur, e, hg, (Below.heap_setCell w p v g (by omega)).trans hh, r⟩⟩
/-- A span stored into a block. -/
abbrev setSpan (w : World) (g : Nat) (s : SpanD) : World :=
  (((((((w.setCell ⟨g, 0, none⟩ (.int .u64 (s.trace : Nat))).setCell ⟨g, 1, none⟩ (.int .u64 (s.id : Nat))).setCell ⟨g, 2, none⟩ (.int .u64 (s.parent : Nat))).setCell ⟨g, 3, none⟩ (.int .u64 (s.start : Nat))).setCell ⟨g, 4, none⟩ (.int .u64 (s.len : Nat))).setCell ⟨g, 5, none⟩ (.string s.service)).setCell ⟨g, 6, none⟩ (.string s.name)).setCell ⟨g, 7, none⟩ (.bool s.fail)
theorem eight_of {cs : Array Value} (h : cs.size = 8) : ∃ a b c d e f g i, cs = #[a, b, c, d, e, f, g, i] := by
  obtain ⟨l⟩ := cs
  match l, h with
  | [a, b, c, d, e, f, g, i], _ => exact ⟨a, b, c, d, e, f, g, i, rfl⟩
theorem Whole.span {w : World} {g : Nat} {t : TypeId} {cs : Array Value} (h : Whole w g t cs) (hc : cs.size = 8) (s : SpanD) : Whole (setSpan w g s) g t (spanCells s) := by
  obtain ⟨a, b, c, d, e, f, k, i, rfl⟩ := eight_of hc
  have h8 := (((((((h.store 0 (.int .u64 (s.trace : Nat))).store 1 (.int .u64 (s.id : Nat))).store 2 (.int .u64 (s.parent : Nat))).store 3 (.int .u64 (s.start : Nat))).store 4 (.int .u64 (s.len : Nat))).store 5 (.string s.service)).store 6 (.string s.name)).store 7 (.bool s.fail)
  have e : ((((((((#[a, b, c, d, e, f, k, i].setIfInBounds 0 (.int .u64 (s.trace : Nat))).setIfInBounds 1 (.int .u64 (s.id : Nat))).setIfInBounds 2 (.int .u64 (s.parent : Nat))).setIfInBounds 3 (.int .u64 (s.start : Nat))).setIfInBounds 4 (.int .u64 (s.len : Nat))).setIfInBounds 5 (.string s.service)).setIfInBounds 6 (.string s.name)).setIfInBounds 7 (.bool s.fail) : Array Value) = spanCells s := by simp [spanCells]
  rw [e] at h8
  exact h8
theorem Whole.box {w : World} {g : Nat} {t : TypeId} {s : SpanD} (h : Whole w g t (spanCells s)) : Box w g s :=
  ⟨h.cell 0 _ rfl, h.cell 1 _ rfl, h.cell 2 _ rfl, h.cell 3 _ rfl, h.cell 4 _ rfl, h.cell 5 _ rfl, h.cell 6 _ rfl, h.cell 7 _ rfl⟩
theorem below_span {B : Nat} {a w : World} (h : Below B a w) {g : Nat} (hg : B ≤ g) (s : SpanD) : Below B a (setSpan w g s) :=
  ((((((((h.setCell (p := ⟨g, 0, none⟩) hg _).setCell (p := ⟨g, 1, none⟩) hg _).setCell (p := ⟨g, 2, none⟩) hg _).setCell (p := ⟨g, 3, none⟩) hg _).setCell (p := ⟨g, 4, none⟩) hg _).setCell (p := ⟨g, 5, none⟩) hg _).setCell (p := ⟨g, 6, none⟩) hg _).setCell (p := ⟨g, 7, none⟩) hg _)
theorem parted_any (w0 : World) (A : Option Addr) (n c : Nat) (l : List UInt8) (w : World) (hall : ∀ W, Below w0.heap.size w0 W → Sl W A n c l) (hw : Below w0.heap.size w0 w) :
    Calls Try.prog 36 #[.slice A n c] w (PartedPost w0 w l) := by
  have hs := hall w hw
  by_cases h : n < 41
  · exact parted_few w0 A n c l w hs h
  · obtain ⟨b, off, rfl, _⟩ := hs.holds.at_ (k := 0) (by rw [hs.len]; omega)
    exact parted_many w0 b off n c l w hall hw (by omega)
/-- The cells of a span's own block. -/
theorem spanCells_eq (s : SpanD) : spanCells s = #[.int .u64 (s.trace : Nat), .int .u64 (s.id : Nat), .int .u64 (s.parent : Nat), .int .u64 (s.start : Nat), .int .u64 (s.len : Nat), .string s.service, .string s.name, .bool s.fail] := rfl
theorem cut_bad {l : List UInt8} {k : Int} (h : (partedF l).1 = k) (hk : k ≠ 0) : cutSpanF l = (k, SpanD.zero, []) := by
  rw [cutSpan_parted, h, if_pos hk]
theorem cut_wrong {l : List UInt8} (h : (partedF l).1 = 0) {k : Int} (hr : rightF (partedF l).2.1 = k) (hk : k ≠ 0) : cutSpanF l = (k, SpanD.zero, []) := by
  rw [cutSpan_parted, if_neg (by rw [h]; simp), hr, if_pos hk]
theorem cut_fine {l : List UInt8} (h : (partedF l).1 = 0) (hr : rightF (partedF l).2.1 = 0) : cutSpanF l = (0, (partedF l).2.1, (partedF l).2.2) := by
  rw [cutSpan_parted, if_neg (by rw [h]; simp), if_neg (by rw [hr]; simp), ← h]
theorem partedF_wf (l : List UInt8) (hl : l.length ≤ 9223372036854775807) : (partedF l).2.1.Wf := by
  have hz : SpanD.zero.Wf := ⟨by decide, by decide, by decide, by decide, by decide, by decide, by decide⟩
  have hc : ∀ m : List UInt8, m.length ≤ 9223372036854775807 → (cutTextF m).2.1.size ≤ 9223372036854775807 ∧ (cutTextF m).2.2.length ≤ 9223372036854775807 := by
    intro m hm
    unfold cutTextF
    repeat' split
    all_goals simp [strOf_size]
    all_goals omega
  have h1 := hc (l.drop 41) (by rw [List.length_drop]; omega)
  have h2 := hc _ h1.2
  unfold partedF
  repeat' split
  all_goals first | exact hz | exact numsOf_wf _ _ _ h1.1 h2.1
theorem partedF_rest (l : List UInt8) : (partedF l).2.2.length ≤ l.length := by
  have hc : ∀ m : List UInt8, (cutTextF m).2.2.length ≤ m.length := by
    intro m
    unfold cutTextF
    repeat' split
    all_goals simp
  have h1 := hc (l.drop 41)
  have h2 := hc (cutTextF (l.drop 41)).2.2
  rw [List.length_drop] at h1
  unfold partedF
  repeat' split
  all_goals simp only [List.length_nil]
  all_goals omega
theorem spanCut_ok {w w' : World} {l r : List UInt8} {s : SpanD} {A : Option Addr} {n c : Nat} (h : cutSpanF l = (0, s, r)) (hr : Sl w' A n c r) (hb : Below w.heap.size w w') :
    SpanCutPost w l (.returned (.tuple #[spanVal s, .slice A n c, .int .i64 0])) w' := ⟨A, n, c, by rw [h], by rw [h]; exact hr, hb⟩

set_option maxRecDepth 100000 in
set_option maxHeartbeats 4000000 in
theorem cut_any (A : Option Addr) (n c : Nat) (l : List UInt8) (w : World) (hs : Sl w A n c l) (hn : n ≤ 140737488000000) :
    Calls Try.prog 20 #[.slice A n c] w (SpanCutPost w l) := by
  have Hp := hid_ (fun W hW => parted_any w A n c l W (fun _ h => hs.below h) hW)
  have Hwf := hid_ (partedF_wf l (by rw [hs.len]; omega))
  have Hr := hid_ (fun W => right_any (partedF l).2.1 W Hwf.out)
  have Hbad := hid_ (fun hk => cut_bad (l := l) rfl hk)
  have Hwrong := hid_ (fun h hr => cut_wrong (l := l) h rfl hr)
  have Hfine := hid_ (cut_fine (l := l))
  have Hlen := hid_ (show (partedF l).2.2.length ≤ 140737488000000 by have := partedF_rest l; have := hs.len; omega)
  clear hs
  go_enter Try.func20, Try.ntmps20
  go_wp2_with fail
  refine Calls.mono (Hp.out _ ((Below.refl _ _).alloc (Nat.le_refl _) _)) ?_
  rintro e w1 ⟨A1, n1, c1, rfl, hs1, hb1⟩
  have Hs1 := hid_ hs1
  have Hw1 := hid_ ((whole_new w 28 _).below hb1 (by simp))
  have Hb1 := hid_ (((Below.refl w.heap.size w).alloc (Nat.le_refl _) _).trans (hb1.mono (by simp)))
  have hlt1 := Hw1.out.lt
  have f1 : ∀ o, w1.frozen? ⟨w.heap.size, o, none⟩ = false := fun o => Hw1.out.free o
  have z0 := Hw1.out.cell 0 _ rfl
  have z1 := Hw1.out.cell 1 _ rfl
  have z2 := Hw1.out.cell 2 _ rfl
  have z3 := Hw1.out.cell 3 _ rfl
  have z4 := Hw1.out.cell 4 _ rfl
  have z5 := Hw1.out.cell 5 _ rfl
  have z6 := Hw1.out.cell 6 _ rfl
  have z7 := Hw1.out.cell 7 _ rfl
  clear hs1 hb1
  generalize hK : (partedF l).1 = K at *
  have HK := hid_ hK
  clear hK
  generalize hS : (partedF l).2.1 = s at *
  have HS := hid_ hS
  clear hS
  generalize hR : (partedF l).2.2 = r at *
  have HR := hid_ hR
  clear hR
  by_cases hk : K = 0
  · have hkb : (K == 0) = true := by rw [beq_iff_eq]; exact hk
    have Hk := hid_ hk
    clear hk
    go_wp2_with fail
    have Hw2 := hid_ (Hw1.out.span rfl s)
    have Hb2 := hid_ (below_span Hb1.out (Nat.le_refl w.heap.size) s)
    refine Calls.mono (Hr.out _) ?_
    rintro e w3 ⟨rfl, hb3⟩
    have Hw3 := hid_ (Hw2.out.below hb3 (by simpa using hlt1))
    have Hb3 := hid_ (Hb2.out.trans (hb3.mono (by simpa using Hb1.out.size)))
    have hlt3 := Hw3.out.lt
    clear hb3 z0 z1 z2 z3 z4 z5 z6 z7 f1
    obtain ⟨z0, z1, z2, z3, z4, z5, z6, z7⟩ := Hw3.out.box
    have f3 : ∀ o, w3.frozen? ⟨w.heap.size, o, none⟩ = false := fun o => Hw3.out.free o
    by_cases hr : rightF s = 0
    · have Hcut := hid_ (Hfine.out Hk.out hr)
      rw [hr]
      have Hcl := hid_ (fun W hW => clone_any A1 n1 c1 r W (Hs1.out W hW) (by rw [← (Hs1.out W hW).len]; exact Hlen.out))
      clear hr
      go_wp2_with fail
      go_region_with (first | (go_at_call 37; (with_reducible refine Calls.mono (Hcl.out w3.drew Hb3.out.drew) ?_); rintro e w4 ⟨A5, n5, c5, rfl, ho5, hb5⟩; have Ho5 := hid_ ho5; have Hb5 := hid_ (Hb3.out.drew.trans (hb5.mono Hb3.out.size)); have Hw5 := hid_ (Whole.below (w := w3.drew) Hw3.out hb5 hlt3); clear ho5 hb5; have f4 := (fun o => Hw5.out.free o); obtain ⟨q0, q1, q2, q3, q4, q5, q6, q7⟩ := Hw5.out.box))
      all_goals
        go_wp2_with fail
        have Hy := Hw5.out.span rfl s
        have Hby := below_span Hb5.out (Nat.le_refl w.heap.size) s
        have hr4 : Sl (setSpan w4 w.heap.size s) A5 n5 c5 r := ((((((((Ho5.out.far (p := ⟨w.heap.size, 0, none⟩) hlt3 _).far (p := ⟨w.heap.size, 1, none⟩) hlt3 _).far (p := ⟨w.heap.size, 2, none⟩) hlt3 _).far (p := ⟨w.heap.size, 3, none⟩) hlt3 _).far (p := ⟨w.heap.size, 4, none⟩) hlt3 _).far (p := ⟨w.heap.size, 5, none⟩) hlt3 _).far (p := ⟨w.heap.size, 6, none⟩) hlt3 _).far (p := ⟨w.heap.size, 7, none⟩) hlt3 _).sl
        have Hy2 : Whole ((((((((w4.setCell ⟨w.heap.size, 0, none⟩ (.int .u64 (s.trace : Nat))).setCell ⟨w.heap.size, 1, none⟩ (.int .u64 (s.id : Nat))).setCell ⟨w.heap.size, 2, none⟩ (.int .u64 (s.parent : Nat))).setCell ⟨w.heap.size, 3, none⟩ (.int .u64 (s.start : Nat))).setCell ⟨w.heap.size, 4, none⟩ (.int .u64 (s.len : Nat))).setCell ⟨w.heap.size, 5, none⟩ (.string s.service)).setCell ⟨w.heap.size, 6, none⟩ (.string s.name)).setCell ⟨w.heap.size, 7, none⟩ (.bool s.fail)) w.heap.size 28 (spanCells s) ∧ Below w.heap.size w ((((((((w4.setCell ⟨w.heap.size, 0, none⟩ (.int .u64 (s.trace : Nat))).setCell ⟨w.heap.size, 1, none⟩ (.int .u64 (s.id : Nat))).setCell ⟨w.heap.size, 2, none⟩ (.int .u64 (s.parent : Nat))).setCell ⟨w.heap.size, 3, none⟩ (.int .u64 (s.start : Nat))).setCell ⟨w.heap.size, 4, none⟩ (.int .u64 (s.len : Nat))).setCell ⟨w.heap.size, 5, none⟩ (.string s.service)).setCell ⟨w.heap.size, 6, none⟩ (.string s.name)).setCell ⟨w.heap.size, 7, none⟩ (.bool s.fail)) ∧ Sl ((((((((w4.setCell ⟨w.heap.size, 0, none⟩ (.int .u64 (s.trace : Nat))).setCell ⟨w.heap.size, 1, none⟩ (.int .u64 (s.id : Nat))).setCell ⟨w.heap.size, 2, none⟩ (.int .u64 (s.parent : Nat))).setCell ⟨w.heap.size, 3, none⟩ (.int .u64 (s.start : Nat))).setCell ⟨w.heap.size, 4, none⟩ (.int .u64 (s.len : Nat))).setCell ⟨w.heap.size, 5, none⟩ (.string s.service)).setCell ⟨w.heap.size, 6, none⟩ (.string s.name)).setCell ⟨w.heap.size, 7, none⟩ (.bool s.fail)) A5 n5 c5 r := ⟨Hy, Hby, hr4⟩
        clear Hy Hby hr4 z0 z1 z2 z3 z4 z5 z6 z7 f3 q0 q1 q2 q3 q4 q5 q6 q7 f4
        generalize ((((((((w4.setCell ⟨w.heap.size, 0, none⟩ (.int .u64 (s.trace : Nat))).setCell ⟨w.heap.size, 1, none⟩ (.int .u64 (s.id : Nat))).setCell ⟨w.heap.size, 2, none⟩ (.int .u64 (s.parent : Nat))).setCell ⟨w.heap.size, 3, none⟩ (.int .u64 (s.start : Nat))).setCell ⟨w.heap.size, 4, none⟩ (.int .u64 (s.len : Nat))).setCell ⟨w.heap.size, 5, none⟩ (.string s.service)).setCell ⟨w.heap.size, 6, none⟩ (.string s.name)).setCell ⟨w.heap.size, 7, none⟩ (.bool s.fail)) = W at Hy2 ⊢
        obtain ⟨Hy, Hby, hr4⟩ := Hy2
        obtain ⟨y0, y1, y2, y3, y4, y5, y6, y7⟩ := Hy.box
        refine bodyPost_ret (v := .tuple #[spanVal s, .slice A5 n5 c5, .int .i64 0]) (by simp [results, Try.results20, go_sem, y0, y1, y2, y3, y4, y5, y6, y7]) rfl ?_
        exact spanCut_ok Hcut.out hr4 Hby
    · have hrb : (rightF s != 0) = true := by rw [bne_iff_ne]; exact hr
      have Hcut := hid_ (Hwrong.out Hk.out hr)
      generalize rightF s = R at *
      have Hr2 := hid_ hr
      clear hr
      go_wp2_with fail
      have Hy := Hw3.out.span rfl SpanD.zero
      have Hby := below_span Hb3.out (Nat.le_refl w.heap.size) SpanD.zero
      have Hy2 : Whole ((((((((w3.setCell ⟨w.heap.size, 0, none⟩ (.int .u64 0)).setCell ⟨w.heap.size, 1, none⟩ (.int .u64 0)).setCell ⟨w.heap.size, 2, none⟩ (.int .u64 0)).setCell ⟨w.heap.size, 3, none⟩ (.int .u64 0)).setCell ⟨w.heap.size, 4, none⟩ (.int .u64 0)).setCell ⟨w.heap.size, 5, none⟩ (.string ⟨#[]⟩)).setCell ⟨w.heap.size, 6, none⟩ (.string ⟨#[]⟩)).setCell ⟨w.heap.size, 7, none⟩ (.bool false)) w.heap.size 28 (spanCells SpanD.zero) ∧ Below w.heap.size w ((((((((w3.setCell ⟨w.heap.size, 0, none⟩ (.int .u64 0)).setCell ⟨w.heap.size, 1, none⟩ (.int .u64 0)).setCell ⟨w.heap.size, 2, none⟩ (.int .u64 0)).setCell ⟨w.heap.size, 3, none⟩ (.int .u64 0)).setCell ⟨w.heap.size, 4, none⟩ (.int .u64 0)).setCell ⟨w.heap.size, 5, none⟩ (.string ⟨#[]⟩)).setCell ⟨w.heap.size, 6, none⟩ (.string ⟨#[]⟩)).setCell ⟨w.heap.size, 7, none⟩ (.bool false)) := ⟨Hy, Hby⟩
      clear Hy Hby z0 z1 z2 z3 z4 z5 z6 z7 f3
      generalize ((((((((w3.setCell ⟨w.heap.size, 0, none⟩ (.int .u64 0)).setCell ⟨w.heap.size, 1, none⟩ (.int .u64 0)).setCell ⟨w.heap.size, 2, none⟩ (.int .u64 0)).setCell ⟨w.heap.size, 3, none⟩ (.int .u64 0)).setCell ⟨w.heap.size, 4, none⟩ (.int .u64 0)).setCell ⟨w.heap.size, 5, none⟩ (.string ⟨#[]⟩)).setCell ⟨w.heap.size, 6, none⟩ (.string ⟨#[]⟩)).setCell ⟨w.heap.size, 7, none⟩ (.bool false)) = W at Hy2 ⊢
      obtain ⟨Hy, Hby⟩ := Hy2
      obtain ⟨y0, y1, y2, y3, y4, y5, y6, y7⟩ := Hy.box
      refine bodyPost_ret (v := .tuple #[spanVal SpanD.zero, .slice none 0 0, .int .i64 R]) (by simp [results, Try.results20, go_sem, y0, y1, y2, y3, y4, y5, y6, y7, SpanD.zero]) rfl ?_
      exact spanCut_none Hcut.out Hby
  · have hkb : (K == 0) = false := by rw [beq_eq_false_iff_ne]; exact hk
    have hkn : (K != 0) = true := by rw [bne_iff_ne]; exact hk
    have Hcut := hid_ (Hbad.out hk)
    have Hk := hid_ hk
    clear hk
    go_wp2_with fail
    have Hy := ((Hw1.out.span rfl s).span rfl SpanD.zero)
    have Hby := below_span (below_span Hb1.out (Nat.le_refl w.heap.size) s) (Nat.le_refl w.heap.size) SpanD.zero
    have Hy2 : Whole ((((((((((((((((w1.setCell ⟨w.heap.size, 0, none⟩ (.int .u64 (s.trace : Nat))).setCell ⟨w.heap.size, 1, none⟩ (.int .u64 (s.id : Nat))).setCell ⟨w.heap.size, 2, none⟩ (.int .u64 (s.parent : Nat))).setCell ⟨w.heap.size, 3, none⟩ (.int .u64 (s.start : Nat))).setCell ⟨w.heap.size, 4, none⟩ (.int .u64 (s.len : Nat))).setCell ⟨w.heap.size, 5, none⟩ (.string s.service)).setCell ⟨w.heap.size, 6, none⟩ (.string s.name)).setCell ⟨w.heap.size, 7, none⟩ (.bool s.fail)).setCell ⟨w.heap.size, 0, none⟩ (.int .u64 0)).setCell ⟨w.heap.size, 1, none⟩ (.int .u64 0)).setCell ⟨w.heap.size, 2, none⟩ (.int .u64 0)).setCell ⟨w.heap.size, 3, none⟩ (.int .u64 0)).setCell ⟨w.heap.size, 4, none⟩ (.int .u64 0)).setCell ⟨w.heap.size, 5, none⟩ (.string ⟨#[]⟩)).setCell ⟨w.heap.size, 6, none⟩ (.string ⟨#[]⟩)).setCell ⟨w.heap.size, 7, none⟩ (.bool false)) w.heap.size 28 (spanCells SpanD.zero) ∧ Below w.heap.size w ((((((((((((((((w1.setCell ⟨w.heap.size, 0, none⟩ (.int .u64 (s.trace : Nat))).setCell ⟨w.heap.size, 1, none⟩ (.int .u64 (s.id : Nat))).setCell ⟨w.heap.size, 2, none⟩ (.int .u64 (s.parent : Nat))).setCell ⟨w.heap.size, 3, none⟩ (.int .u64 (s.start : Nat))).setCell ⟨w.heap.size, 4, none⟩ (.int .u64 (s.len : Nat))).setCell ⟨w.heap.size, 5, none⟩ (.string s.service)).setCell ⟨w.heap.size, 6, none⟩ (.string s.name)).setCell ⟨w.heap.size, 7, none⟩ (.bool s.fail)).setCell ⟨w.heap.size, 0, none⟩ (.int .u64 0)).setCell ⟨w.heap.size, 1, none⟩ (.int .u64 0)).setCell ⟨w.heap.size, 2, none⟩ (.int .u64 0)).setCell ⟨w.heap.size, 3, none⟩ (.int .u64 0)).setCell ⟨w.heap.size, 4, none⟩ (.int .u64 0)).setCell ⟨w.heap.size, 5, none⟩ (.string ⟨#[]⟩)).setCell ⟨w.heap.size, 6, none⟩ (.string ⟨#[]⟩)).setCell ⟨w.heap.size, 7, none⟩ (.bool false)) := ⟨Hy, Hby⟩
    clear Hy Hby z0 z1 z2 z3 z4 z5 z6 z7 f1
    generalize ((((((((((((((((w1.setCell ⟨w.heap.size, 0, none⟩ (.int .u64 (s.trace : Nat))).setCell ⟨w.heap.size, 1, none⟩ (.int .u64 (s.id : Nat))).setCell ⟨w.heap.size, 2, none⟩ (.int .u64 (s.parent : Nat))).setCell ⟨w.heap.size, 3, none⟩ (.int .u64 (s.start : Nat))).setCell ⟨w.heap.size, 4, none⟩ (.int .u64 (s.len : Nat))).setCell ⟨w.heap.size, 5, none⟩ (.string s.service)).setCell ⟨w.heap.size, 6, none⟩ (.string s.name)).setCell ⟨w.heap.size, 7, none⟩ (.bool s.fail)).setCell ⟨w.heap.size, 0, none⟩ (.int .u64 0)).setCell ⟨w.heap.size, 1, none⟩ (.int .u64 0)).setCell ⟨w.heap.size, 2, none⟩ (.int .u64 0)).setCell ⟨w.heap.size, 3, none⟩ (.int .u64 0)).setCell ⟨w.heap.size, 4, none⟩ (.int .u64 0)).setCell ⟨w.heap.size, 5, none⟩ (.string ⟨#[]⟩)).setCell ⟨w.heap.size, 6, none⟩ (.string ⟨#[]⟩)).setCell ⟨w.heap.size, 7, none⟩ (.bool false)) = W at Hy2 ⊢
    obtain ⟨Hy, Hby⟩ := Hy2
    obtain ⟨y0, y1, y2, y3, y4, y5, y6, y7⟩ := Hy.box
    refine bodyPost_ret (v := .tuple #[spanVal SpanD.zero, .slice none 0 0, .int .i64 K]) (by simp [results, Try.results20, go_sem, y0, y1, y2, y3, y4, y5, y6, y7, SpanD.zero]) rfl ?_
    exact spanCut_none Hcut.out Hby
end Go.Proofs.Ytfnjfjghajcdkaa
