/-
  What the program's Cut of spans answers: what is behind the span lies in a block of its own.
-/
import Derived.Test.YtnpbokbfkdncmaaGreatZGE
namespace Go.Proofs.YtnpbokbfkdncmaaGreat
set_option linter.unusedSimpArgs false
set_option linter.unusedVariables false
open Go.RowKit Ru

def SpanCutOwn (w : World) (l : List UInt8) (e : Ending) (w' : World) : Prop :=
  ∃ A n c, e = .returned (.tuple #[spanVal (cutSpanF l).2.1, .slice A n c, .int .i64 (cutSpanF l).1]) ∧ Own w.heap.size w' A n c (cutSpanF l).2.2 ∧ Below w.heap.size w w'
theorem spanCutOwn_none {w w' : World} {l : List UInt8} {k : Int} (h : cutSpanF l = (k, SpanD.zero, [])) (hb : Below w.heap.size w w') :
    SpanCutOwn w l (.returned (.tuple #[spanVal SpanD.zero, .slice none 0 0, .int .i64 k])) w' := ⟨none, 0, 0, by rw [h], by rw [h]; exact Own.none _ _, hb⟩
theorem spanCutOwn_ok {w w' : World} {l r : List UInt8} {s : SpanD} {A : Option Addr} {n c : Nat} (h : cutSpanF l = (0, s, r)) (hr : Own w.heap.size w' A n c r) (hb : Below w.heap.size w w') :
    SpanCutOwn w l (.returned (.tuple #[spanVal s, .slice A n c, .int .i64 0])) w' := ⟨A, n, c, by rw [h], by rw [h]; exact hr, hb⟩

set_option maxRecDepth 100000 in
set_option maxHeartbeats 4000000 in
theorem cutown_any (A : Option Addr) (n c : Nat) (l : List UInt8) (w : World) (hs : Sl w A n c l) (hn : n ≤ 140737488000000) :
    Calls Tryz.prog 83 #[.slice A n c] w (SpanCutOwn w l) := by
  have Hp := hid_ (fun W hW => parted_any w A n c l W (fun _ h => hs.below h) hW)
  have Hwf := hid_ (partedF_wf l (by rw [hs.len]; omega))
  have Hr := hid_ (fun W => right_any (partedF l).2.1 W Hwf.out)
  have Hbad := hid_ (fun hk => cut_bad (l := l) rfl hk)
  have Hwrong := hid_ (fun h hr => cut_wrong (l := l) h rfl hr)
  have Hfine := hid_ (cut_fine (l := l))
  have Hlen := hid_ (show (partedF l).2.2.length ≤ 140737488000000 by have := partedF_rest l; have := hs.len; omega)
  clear hs
  go_enter Tryz.func83, Tryz.ntmps83
  go_wp2_with fail
  refine Calls.mono (Hp.out _ ((Below.refl _ _).alloc (Nat.le_refl _) _)) ?_
  rintro e w1 ⟨A1, n1, c1, rfl, hs1, hb1⟩
  have Hs1 := hid_ hs1
  have Hw1 := hid_ ((whole_new w 44 _).below hb1 (by simp))
  have Hb1 := hid_ (((Below.refl w.heap.size w).alloc (Nat.le_refl _) _).trans (hb1.mono (by simp)))
  have hlt1 := Hw1.out.lt
  have f1 : ∀ o, w1.frozen? ⟨w.heap.size, o, none⟩ = false := fun o => Hw1.out.free o
  have z0 := Hw1.out.cell 0 _ rfl
  have z1 := Hw1.out.cell 1 _ rfl
  have z2 := Hw1.out.cell 2 _ rfl
  have z3 := Hw1.out.cell 3 _ rfl
  have z4 := Hw1.out.cell 4 _ rfl
  have z5 := Hw1.out.cell 5 _ rfl
  have z6 := Hw1.out.cell 6 _ rfl
  have z7 := Hw1.out.cell 7 _ rfl
  clear hs1 hb1
  generalize hK : (partedF l).1 = K at *
  have HK := hid_ hK
  clear hK
  generalize hS : (partedF l).2.1 = s at *
  have HS := hid_ hS
  clear hS
  generalize hR : (partedF l).2.2 = r at *
  have HR := hid_ hR
  clear hR
  by_cases hk : K = 0
  · have hkb : (K == 0) = true := by rw [beq_iff_eq]; exact hk
    have Hk := hid_ hk
    clear hk
    go_wp2_with fail
    have Hw2 := hid_ (Hw1.out.span rfl s)
    have Hb2 := hid_ (below_span Hb1.out (Nat.le_refl w.heap.size) s)
    refine Calls.mono (Hr.out _) ?_
    rintro e w3 ⟨rfl, hb3⟩
    have Hw3 := hid_ (Hw2.out.below hb3 (by simpa using hlt1))
    have Hb3 := hid_ (Hb2.out.trans (hb3.mono (by simpa using Hb1.out.size)))
    have hlt3 := Hw3.out.lt
    clear hb3 z0 z1 z2 z3 z4 z5 z6 z7 f1
    obtain ⟨z0, z1, z2, z3, z4, z5, z6, z7⟩ := Hw3.out.box
    have f3 : ∀ o, w3.frozen? ⟨w.heap.size, o, none⟩ = false := fun o => Hw3.out.free o
    by_cases hr : rightF s = 0
    · have Hcut := hid_ (Hfine.out Hk.out hr)
      rw [hr]
      have Hcl := hid_ (fun W hW => clone_any A1 n1 c1 r W (Hs1.out W hW) (by rw [← (Hs1.out W hW).len]; exact Hlen.out))
      clear hr
      go_wp2_with fail
      go_region_with (first | (go_at_call 55; (with_reducible refine Calls.mono (Hcl.out w3.drew Hb3.out.drew) ?_); rintro e w4 ⟨A5, n5, c5, rfl, ho5, hb5⟩; have Ho5 := hid_ ho5; have Hb5 := hid_ (Hb3.out.drew.trans (hb5.mono Hb3.out.size)); have Hw5 := hid_ (Whole.below (w := w3.drew) Hw3.out hb5 hlt3); clear ho5 hb5; have f4 := (fun o => Hw5.out.free o); obtain ⟨q0, q1, q2, q3, q4, q5, q6, q7⟩ := Hw5.out.box))
      all_goals
        go_wp2_with fail
        have Hy := Hw5.out.span rfl s
        have Hby := below_span Hb5.out (Nat.le_refl w.heap.size) s
        have hr4 : Own w.heap.size (setSpan w4 w.heap.size s) A5 n5 c5 r := ((((((((Ho5.out.far (p := ⟨w.heap.size, 0, none⟩) hlt3 _).far (p := ⟨w.heap.size, 1, none⟩) hlt3 _).far (p := ⟨w.heap.size, 2, none⟩) hlt3 _).far (p := ⟨w.heap.size, 3, none⟩) hlt3 _).far (p := ⟨w.heap.size, 4, none⟩) hlt3 _).far (p := ⟨w.heap.size, 5, none⟩) hlt3 _).far (p := ⟨w.heap.size, 6, none⟩) hlt3 _).far (p := ⟨w.heap.size, 7, none⟩) hlt3 _).mono Hb3.out.size
        have Hy2 : Whole ((((((((w4.setCell ⟨w.heap.size, 0, none⟩ (.int .u64 (s.trace : Nat))).setCell ⟨w.heap.size, 1, none⟩ (.int .u64 (s.id : Nat))).setCell ⟨w.heap.size, 2, none⟩ (.int .u64 (s.parent : Nat))).setCell ⟨w.heap.size, 3, none⟩ (.int .u64 (s.start : Nat))).setCell ⟨w.heap.size, 4, none⟩ (.int .u64 (s.len : Nat))).setCell ⟨w.heap.size, 5, none⟩ (.string s.service)).setCell ⟨w.heap.size, 6, none⟩ (.string s.name)).setCell ⟨w.heap.size, 7, none⟩ (.bool s.fail)) w.heap.size 44 (spanCells s) ∧ Below w.heap.size w ((((((((w4.setCell ⟨w.heap.size, 0, none⟩ (.int .u64 (s.trace : Nat))).setCell ⟨w.heap.size, 1, none⟩ (.int .u64 (s.id : Nat))).setCell ⟨w.heap.size, 2, none⟩ (.int .u64 (s.parent : Nat))).setCell ⟨w.heap.size, 3, none⟩ (.int .u64 (s.start : Nat))).setCell ⟨w.heap.size, 4, none⟩ (.int .u64 (s.len : Nat))).setCell ⟨w.heap.size, 5, none⟩ (.string s.service)).setCell ⟨w.heap.size, 6, none⟩ (.string s.name)).setCell ⟨w.heap.size, 7, none⟩ (.bool s.fail)) ∧ Own w.heap.size ((((((((w4.setCell ⟨w.heap.size, 0, none⟩ (.int .u64 (s.trace : Nat))).setCell ⟨w.heap.size, 1, none⟩ (.int .u64 (s.id : Nat))).setCell ⟨w.heap.size, 2, none⟩ (.int .u64 (s.parent : Nat))).setCell ⟨w.heap.size, 3, none⟩ (.int .u64 (s.start : Nat))).setCell ⟨w.heap.size, 4, none⟩ (.int .u64 (s.len : Nat))).setCell ⟨w.heap.size, 5, none⟩ (.string s.service)).setCell ⟨w.heap.size, 6, none⟩ (.string s.name)).setCell ⟨w.heap.size, 7, none⟩ (.bool s.fail)) A5 n5 c5 r := ⟨Hy, Hby, hr4⟩
        clear Hy Hby hr4 z0 z1 z2 z3 z4 z5 z6 z7 f3 q0 q1 q2 q3 q4 q5 q6 q7 f4
        generalize ((((((((w4.setCell ⟨w.heap.size, 0, none⟩ (.int .u64 (s.trace : Nat))).setCell ⟨w.heap.size, 1, none⟩ (.int .u64 (s.id : Nat))).setCell ⟨w.heap.size, 2, none⟩ (.int .u64 (s.parent : Nat))).setCell ⟨w.heap.size, 3, none⟩ (.int .u64 (s.start : Nat))).setCell ⟨w.heap.size, 4, none⟩ (.int .u64 (s.len : Nat))).setCell ⟨w.heap.size, 5, none⟩ (.string s.service)).setCell ⟨w.heap.size, 6, none⟩ (.string s.name)).setCell ⟨w.heap.size, 7, none⟩ (.bool s.fail)) = W at Hy2 ⊢
        obtain ⟨Hy, Hby, hr4⟩ := Hy2
        obtain ⟨y0, y1, y2, y3, y4, y5, y6, y7⟩ := Hy.box
        refine bodyPost_ret (v := .tuple #[spanVal s, .slice A5 n5 c5, .int .i64 0]) (by simp [results, Tryz.results83, go_sem, y0, y1, y2, y3, y4, y5, y6, y7]) rfl ?_
        exact spanCutOwn_ok Hcut.out hr4 Hby
    · have hrb : (rightF s != 0) = true := by rw [bne_iff_ne]; exact hr
      have Hcut := hid_ (Hwrong.out Hk.out hr)
      generalize rightF s = R at *
      have Hr2 := hid_ hr
      clear hr
      go_wp2_with fail
      have Hy := Hw3.out.span rfl SpanD.zero
      have Hby := below_span Hb3.out (Nat.le_refl w.heap.size) SpanD.zero
      have Hy2 : Whole ((((((((w3.setCell ⟨w.heap.size, 0, none⟩ (.int .u64 0)).setCell ⟨w.heap.size, 1, none⟩ (.int .u64 0)).setCell ⟨w.heap.size, 2, none⟩ (.int .u64 0)).setCell ⟨w.heap.size, 3, none⟩ (.int .u64 0)).setCell ⟨w.heap.size, 4, none⟩ (.int .u64 0)).setCell ⟨w.heap.size, 5, none⟩ (.string ⟨#[]⟩)).setCell ⟨w.heap.size, 6, none⟩ (.string ⟨#[]⟩)).setCell ⟨w.heap.size, 7, none⟩ (.bool false)) w.heap.size 44 (spanCells SpanD.zero) ∧ Below w.heap.size w ((((((((w3.setCell ⟨w.heap.size, 0, none⟩ (.int .u64 0)).setCell ⟨w.heap.size, 1, none⟩ (.int .u64 0)).setCell ⟨w.heap.size, 2, none⟩ (.int .u64 0)).setCell ⟨w.heap.size, 3, none⟩ (.int .u64 0)).setCell ⟨w.heap.size, 4, none⟩ (.int .u64 0)).setCell ⟨w.heap.size, 5, none⟩ (.string ⟨#[]⟩)).setCell ⟨w.heap.size, 6, none⟩ (.string ⟨#[]⟩)).setCell ⟨w.heap.size, 7, none⟩ (.bool false)) := ⟨Hy, Hby⟩
      clear Hy Hby z0 z1 z2 z3 z4 z5 z6 z7 f3
      generalize ((((((((w3.setCell ⟨w.heap.size, 0, none⟩ (.int .u64 0)).setCell ⟨w.heap.size, 1, none⟩ (.int .u64 0)).setCell ⟨w.heap.size, 2, none⟩ (.int .u64 0)).setCell ⟨w.heap.size, 3, none⟩ (.int .u64 0)).setCell ⟨w.heap.size, 4, none⟩ (.int .u64 0)).setCell ⟨w.heap.size, 5, none⟩ (.string ⟨#[]⟩)).setCell ⟨w.heap.size, 6, none⟩ (.string ⟨#[]⟩)).setCell ⟨w.heap.size, 7, none⟩ (.bool false)) = W at Hy2 ⊢
      obtain ⟨Hy, Hby⟩ := Hy2
      obtain ⟨y0, y1, y2, y3, y4, y5, y6, y7⟩ := Hy.box
      refine bodyPost_ret (v := .tuple #[spanVal SpanD.zero, .slice none 0 0, .int .i64 R]) (by simp [results, Tryz.results83, go_sem, y0, y1, y2, y3, y4, y5, y6, y7, SpanD.zero]) rfl ?_
      exact spanCutOwn_none Hcut.out Hby
  · have hkb : (K == 0) = false := by rw [beq_eq_false_iff_ne]; exact hk
    have hkn : (K != 0) = true := by rw [bne_iff_ne]; exact hk
    have Hcut := hid_ (Hbad.out hk)
    have Hk := hid_ hk
    clear hk
    go_wp2_with fail
    have Hy := ((Hw1.out.span rfl s).span rfl SpanD.zero)
    have Hby := below_span (below_span Hb1.out (Nat.le_refl w.heap.size) s) (Nat.le_refl w.heap.size) SpanD.zero
    have Hy2 : Whole ((((((((((((((((w1.setCell ⟨w.heap.size, 0, none⟩ (.int .u64 (s.trace : Nat))).setCell ⟨w.heap.size, 1, none⟩ (.int .u64 (s.id : Nat))).setCell ⟨w.heap.size, 2, none⟩ (.int .u64 (s.parent : Nat))).setCell ⟨w.heap.size, 3, none⟩ (.int .u64 (s.start : Nat))).setCell ⟨w.heap.size, 4, none⟩ (.int .u64 (s.len : Nat))).setCell ⟨w.heap.size, 5, none⟩ (.string s.service)).setCell ⟨w.heap.size, 6, none⟩ (.string s.name)).setCell ⟨w.heap.size, 7, none⟩ (.bool s.fail)).setCell ⟨w.heap.size, 0, none⟩ (.int .u64 0)).setCell ⟨w.heap.size, 1, none⟩ (.int .u64 0)).setCell ⟨w.heap.size, 2, none⟩ (.int .u64 0)).setCell ⟨w.heap.size, 3, none⟩ (.int .u64 0)).setCell ⟨w.heap.size, 4, none⟩ (.int .u64 0)).setCell ⟨w.heap.size, 5, none⟩ (.string ⟨#[]⟩)).setCell ⟨w.heap.size, 6, none⟩ (.string ⟨#[]⟩)).setCell ⟨w.heap.size, 7, none⟩ (.bool false)) w.heap.size 44 (spanCells SpanD.zero) ∧ Below w.heap.size w ((((((((((((((((w1.setCell ⟨w.heap.size, 0, none⟩ (.int .u64 (s.trace : Nat))).setCell ⟨w.heap.size, 1, none⟩ (.int .u64 (s.id : Nat))).setCell ⟨w.heap.size, 2, none⟩ (.int .u64 (s.parent : Nat))).setCell ⟨w.heap.size, 3, none⟩ (.int .u64 (s.start : Nat))).setCell ⟨w.heap.size, 4, none⟩ (.int .u64 (s.len : Nat))).setCell ⟨w.heap.size, 5, none⟩ (.string s.service)).setCell ⟨w.heap.size, 6, none⟩ (.string s.name)).setCell ⟨w.heap.size, 7, none⟩ (.bool s.fail)).setCell ⟨w.heap.size, 0, none⟩ (.int .u64 0)).setCell ⟨w.heap.size, 1, none⟩ (.int .u64 0)).setCell ⟨w.heap.size, 2, none⟩ (.int .u64 0)).setCell ⟨w.heap.size, 3, none⟩ (.int .u64 0)).setCell ⟨w.heap.size, 4, none⟩ (.int .u64 0)).setCell ⟨w.heap.size, 5, none⟩ (.string ⟨#[]⟩)).setCell ⟨w.heap.size, 6, none⟩ (.string ⟨#[]⟩)).setCell ⟨w.heap.size, 7, none⟩ (.bool false)) := ⟨Hy, Hby⟩
    clear Hy Hby z0 z1 z2 z3 z4 z5 z6 z7 f1
    generalize ((((((((((((((((w1.setCell ⟨w.heap.size, 0, none⟩ (.int .u64 (s.trace : Nat))).setCell ⟨w.heap.size, 1, none⟩ (.int .u64 (s.id : Nat))).setCell ⟨w.heap.size, 2, none⟩ (.int .u64 (s.parent : Nat))).setCell ⟨w.heap.size, 3, none⟩ (.int .u64 (s.start : Nat))).setCell ⟨w.heap.size, 4, none⟩ (.int .u64 (s.len : Nat))).setCell ⟨w.heap.size, 5, none⟩ (.string s.service)).setCell ⟨w.heap.size, 6, none⟩ (.string s.name)).setCell ⟨w.heap.size, 7, none⟩ (.bool s.fail)).setCell ⟨w.heap.size, 0, none⟩ (.int .u64 0)).setCell ⟨w.heap.size, 1, none⟩ (.int .u64 0)).setCell ⟨w.heap.size, 2, none⟩ (.int .u64 0)).setCell ⟨w.heap.size, 3, none⟩ (.int .u64 0)).setCell ⟨w.heap.size, 4, none⟩ (.int .u64 0)).setCell ⟨w.heap.size, 5, none⟩ (.string ⟨#[]⟩)).setCell ⟨w.heap.size, 6, none⟩ (.string ⟨#[]⟩)).setCell ⟨w.heap.size, 7, none⟩ (.bool false)) = W at Hy2 ⊢
    obtain ⟨Hy, Hby⟩ := Hy2
    obtain ⟨y0, y1, y2, y3, y4, y5, y6, y7⟩ := Hy.box
    refine bodyPost_ret (v := .tuple #[spanVal SpanD.zero, .slice none 0 0, .int .i64 K]) (by simp [results, Tryz.results83, go_sem, y0, y1, y2, y3, y4, y5, y6, y7, SpanD.zero]) rfl ?_
    exact spanCutOwn_none Hcut.out Hby
end Go.Proofs.YtnpbokbfkdncmaaGreat
