/-
  The Packet of a thing that has a list (number 3).
-/
import Derived.Test.YtnpbokbfkdncmaaZPacket
namespace Go.Proofs.Ytnpbokbfkdncmaa
set_option linter.unusedSimpArgs false
set_option linter.unusedVariables false
open Go.RowKit Ru
set_option maxRecDepth 100000 in
set_option maxHeartbeats 2000000 in
theorem packet3_any (V : Value) (k : Int) (tr bn bd sn sd : Nat) (v : Int) (ok : Bool) (l : List Nat) (a : Option Addr) (c : Nat) (w : World)
    (hpk : ∀ W, Calls Try.prog 23 #[V] W fun e w' => e = .returned (.agg #[.int .i64 k, .int .u64 (tr : Nat), .int .u64 (bn : Nat), .int .u64 (bd : Nat), .int .u64 (sn : Nat), .int .u64 (sd : Nat), .int .i64 v, .bool ok, .slice none 0 0, .slice none 0 0, .slice a l.length c]) ∧ Below W.heap.size W w')
    (hp : PackIn w ⟨k, tr, bn, bd, sn, sd, v, ok, [], [], l⟩ ⟨none, 0, none, 0, a, c⟩) (hw : PackD.Wf ⟨k, tr, bn, bd, sn, sd, v, ok, [], [], l⟩) (hr : rightP ⟨k, tr, bn, bd, sn, sd, v, ok, [], [], l⟩ = true) (hrow : Row w a l.length c (idVals l)) (hm : l.length ≤ 1000) (hne : l ≠ []) :
    Calls Try.prog 9 #[V] w (PkPost w ⟨k, tr, bn, bd, sn, sd, v, ok, [], [], l⟩) := by
  have Hpk := hid_ hpk
  have Hri := hid_ (fun (W : World) (hb : Below w.heap.size w W) => packright_any _ _ W (hp.below hb) hw (by show ([] : List SpanD).length ≤ _; simp))
  rw [hr, show kindP true = 0 from rfl] at Hri
  have Hc := hid_ (fun (W : World) (hb : Below w.heap.size w W) => cloneId_any a _ c l W (hrow.below hb) (by omega) (.inr hne))
  have Hz := hid_ (whole_new w 30 #[.int .i64 0, .int .u64 0, .int .u64 0, .int .u64 0, .int .u64 0, .int .u64 0, .int .i64 0, .bool false, .slice none 0 0, .slice none 0 0, .slice none 0 0])
  have Ha := hid_ (show Below w.heap.size w (w.alloc (.cells #[.int .i64 0, .int .u64 0, .int .u64 0, .int .u64 0, .int .u64 0, .int .u64 0, .int .i64 0, .bool false, .slice none 0 0, .slice none 0 0, .slice none 0 0] 30)) from (Below.refl _ _).alloc (Nat.le_refl _) _)
  clear hp hw hr hpk hrow hne
  go_enter Try.func9, Try.ntmps9
  go_wp2_with fail
  refine Calls.mono (Hpk.out _) ?_
  rintro e w1 ⟨rfl, hb1⟩
  have Hz1 := hid_ (Hz.out.below hb1 Hz.out.lt)
  have Hb1 := hid_ (Ha.out.trans (hb1.mono Ha.out.size))
  have Hz2 := hid_ (Hz1.out.alloc (.cells #[.int .i64 k, .int .u64 (tr : Nat), .int .u64 (bn : Nat), .int .u64 (bd : Nat), .int .u64 (sn : Nat), .int .u64 (sd : Nat), .int .i64 v, .bool ok, .slice none 0 0, .slice none 0 0, .slice a l.length c] 30))
  have HP2 := hid_ (whole_new w1 30 #[.int .i64 k, .int .u64 (tr : Nat), .int .u64 (bn : Nat), .int .u64 (bd : Nat), .int .u64 (sn : Nat), .int .u64 (sd : Nat), .int .i64 v, .bool ok, .slice none 0 0, .slice none 0 0, .slice a l.length c])
  have Hb2 := hid_ (Hb1.out.alloc Hb1.out.size (.cells #[.int .i64 k, .int .u64 (tr : Nat), .int .u64 (bn : Nat), .int .u64 (bd : Nat), .int .u64 (sn : Nat), .int .u64 (sd : Nat), .int .i64 v, .bool ok, .slice none 0 0, .slice none 0 0, .slice a l.length c] 30))
  have hz1 := Hz1.out.lt
  clear hb1
  go_wp2_with fail
  refine Calls.mono (Hri.out _ Hb2.out) ?_
  rintro e w3 ⟨rfl, hb3⟩
  have Hz3 := hid_ (Hz2.out.below hb3 Hz2.out.lt)
  have HP3 := hid_ (HP2.out.below hb3 HP2.out.lt)
  have Hb3 := hid_ (Hb2.out.trans (hb3.mono Hb2.out.size))
  clear hb3
  have hz3 := HP3.out.lt
  have x8 := HP3.out.cell 8 _ rfl
  have x9 := HP3.out.cell 9 _ rfl
  have x10 := HP3.out.cell 10 _ rfl
  have rf := fun o => HP3.out.free o
  go_wp2_with fail
  have Hb3d := hid_ Hb3.out.drew
  go_region_law (first
      | (go_simp; go_at_call 24; (with_reducible refine Calls.mono (nilSp _) ?_); rintro e w5 ⟨rfl, rfl⟩; dsimp only)
      | (go_simp; go_at_call 25; (with_reducible refine Calls.mono (nilMem _) ?_); rintro e w5 ⟨rfl, rfl⟩; dsimp only)
      | (go_simp; (with_reducible go_at_call 26); (first | (with_reducible refine Calls.mono (Hc.out _ Hb3.out) ?_) | (with_reducible refine Calls.mono (Hc.out _ Hb3d.out) ?_)); rintro e w4 ⟨A, c4, rfl, ⟨hr4, hf4⟩, hb4⟩; simp only [id]; have Hr4 := hid_ hr4; have Hf4 := hid_ hf4; have Hb4 := hid_ (show Below w3.heap.size w3 w4 from ⟨hb4.os, hb4.tape, hb4.output, hb4.size, hb4.block⟩); have HP4 := hid_ (HP3.out.below Hb4.out HP3.out.lt); have Hz4 := hid_ (Hz3.out.below Hb4.out Hz3.out.lt); have q8 := HP4.out.cell 8 _ rfl; have q9 := HP4.out.cell 9 _ rfl; have q10 := HP4.out.cell 10 _ rfl; have rq := (fun o => HP4.out.free o); clear hr4 hf4 hb4)
      | fail)
  all_goals
    have HPI := hid_ (show PackIn w4 ⟨k, tr, bn, bd, sn, sd, v, ok, [], [], l⟩ ⟨none, 0, none, 0, A, c4⟩ from ⟨⟨fun h => absurd rfl h, rfl, Nat.le_refl _, by show (0 : Nat) ≤ _; omega, fun _ => rfl⟩, MemRow.none _, Hr4.out⟩)
    have HEl := hid_ (fun (q : Nat) (hq : q < w3.heap.size) => show Elsewhere ⟨k, tr, bn, bd, sn, sd, v, ok, [], [], l⟩ ⟨none, 0, none, 0, A, c4⟩ q from ⟨(fun a e => by cases e), (fun a e => by cases e), (fun a e hne => by have := Hf4.out a e hne; have : w3.drew.heap.size = w3.heap.size := rfl; omega)⟩)
    have HW5 := hid_ (show Whole ((((w4.setCell ⟨w1.heap.size, 8, none⟩ (.slice none 0 0)).setCell ⟨w1.heap.size, 9, none⟩ (.slice none 0 0)).setCell ⟨w1.heap.size, 10, none⟩ (.slice A l.length c4))) w1.heap.size 30 #[.int .i64 k, .int .u64 (tr : Nat), .int .u64 (bn : Nat), .int .u64 (bd : Nat), .int .u64 (sn : Nat), .int .u64 (sd : Nat), .int .i64 v, .bool ok, .slice none 0 0, .slice none 0 0, .slice A l.length c4] ∧ Whole ((((w4.setCell ⟨w1.heap.size, 8, none⟩ (.slice none 0 0)).setCell ⟨w1.heap.size, 9, none⟩ (.slice none 0 0)).setCell ⟨w1.heap.size, 10, none⟩ (.slice A l.length c4))) w.heap.size 30 #[.int .i64 0, .int .u64 0, .int .u64 0, .int .u64 0, .int .u64 0, .int .u64 0, .int .i64 0, .bool false, .slice none 0 0, .slice none 0 0, .slice none 0 0] ∧ Below w.heap.size w ((((w4.setCell ⟨w1.heap.size, 8, none⟩ (.slice none 0 0)).setCell ⟨w1.heap.size, 9, none⟩ (.slice none 0 0)).setCell ⟨w1.heap.size, 10, none⟩ (.slice A l.length c4))) ∧ PackIn ((((w4.setCell ⟨w1.heap.size, 8, none⟩ (.slice none 0 0)).setCell ⟨w1.heap.size, 9, none⟩ (.slice none 0 0)).setCell ⟨w1.heap.size, 10, none⟩ (.slice A l.length c4))) ⟨k, tr, bn, bd, sn, sd, v, ok, [], [], l⟩ ⟨none, 0, none, 0, A, c4⟩ from
      ⟨(((HP4.out.store 8 (.slice none 0 0)).store 9 (.slice none 0 0)).store 10 (.slice A l.length c4)), (((Hz4.out.far (p := ⟨w1.heap.size, 8, none⟩) (Nat.ne_of_lt hz1) (.slice none 0 0)).far (p := ⟨w1.heap.size, 9, none⟩) (Nat.ne_of_lt hz1) (.slice none 0 0)).far (p := ⟨w1.heap.size, 10, none⟩) (Nat.ne_of_lt hz1) (.slice A l.length c4)), ((((Hb3.out.trans (Hb4.out.mono Hb3.out.size)).setCell (p := ⟨w1.heap.size, 8, none⟩) (Nat.le_of_lt hz1) (.slice none 0 0)).setCell (p := ⟨w1.heap.size, 9, none⟩) (Nat.le_of_lt hz1) (.slice none 0 0)).setCell (p := ⟨w1.heap.size, 10, none⟩) (Nat.le_of_lt hz1) (.slice A l.length c4)), (packIn_grown (packIn_grown (packIn_grown (show PackIn w4 ⟨k, tr, bn, bd, sn, sd, v, ok, [], [], l⟩ ⟨none, 0, none, 0, A, c4⟩ from HPI.out) (grown_set _ w1.heap.size 8 (.slice none 0 0)) (HEl.out w1.heap.size hz3)) (grown_set _ w1.heap.size 9 (.slice none 0 0)) (HEl.out w1.heap.size hz3)) (grown_set _ w1.heap.size 10 (.slice A l.length c4)) (HEl.out w1.heap.size hz3))⟩)
    clear x8 x9 x10 rf q8 q9 q10 rq
    generalize (((w4.setCell ⟨w1.heap.size, 8, none⟩ (.slice none 0 0)).setCell ⟨w1.heap.size, 9, none⟩ (.slice none 0 0)).setCell ⟨w1.heap.size, 10, none⟩ (.slice A l.length c4)) = W5 at HW5 ⊢
    obtain ⟨a1, a2, a3, a4⟩ := HW5.out
    have HF := hid_ (show Whole ((((((((((((W5.setCell ⟨w.heap.size, 0, none⟩ (.int .i64 k)).setCell ⟨w.heap.size, 1, none⟩ (.int .u64 (tr : Nat))).setCell ⟨w.heap.size, 2, none⟩ (.int .u64 (bn : Nat))).setCell ⟨w.heap.size, 3, none⟩ (.int .u64 (bd : Nat))).setCell ⟨w.heap.size, 4, none⟩ (.int .u64 (sn : Nat))).setCell ⟨w.heap.size, 5, none⟩ (.int .u64 (sd : Nat))).setCell ⟨w.heap.size, 6, none⟩ (.int .i64 v)).setCell ⟨w.heap.size, 7, none⟩ (.bool ok)).setCell ⟨w.heap.size, 8, none⟩ (.slice none 0 0)).setCell ⟨w.heap.size, 9, none⟩ (.slice none 0 0)).setCell ⟨w.heap.size, 10, none⟩ (.slice A l.length c4))) w.heap.size 30 #[.int .i64 k, .int .u64 (tr : Nat), .int .u64 (bn : Nat), .int .u64 (bd : Nat), .int .u64 (sn : Nat), .int .u64 (sd : Nat), .int .i64 v, .bool ok, .slice none 0 0, .slice none 0 0, .slice A l.length c4] ∧ Below w.heap.size w ((((((((((((W5.setCell ⟨w.heap.size, 0, none⟩ (.int .i64 k)).setCell ⟨w.heap.size, 1, none⟩ (.int .u64 (tr : Nat))).setCell ⟨w.heap.size, 2, none⟩ (.int .u64 (bn : Nat))).setCell ⟨w.heap.size, 3, none⟩ (.int .u64 (bd : Nat))).setCell ⟨w.heap.size, 4, none⟩ (.int .u64 (sn : Nat))).setCell ⟨w.heap.size, 5, none⟩ (.int .u64 (sd : Nat))).setCell ⟨w.heap.size, 6, none⟩ (.int .i64 v)).setCell ⟨w.heap.size, 7, none⟩ (.bool ok)).setCell ⟨w.heap.size, 8, none⟩ (.slice none 0 0)).setCell ⟨w.heap.size, 9, none⟩ (.slice none 0 0)).setCell ⟨w.heap.size, 10, none⟩ (.slice A l.length c4))) ∧ PackIn ((((((((((((W5.setCell ⟨w.heap.size, 0, none⟩ (.int .i64 k)).setCell ⟨w.heap.size, 1, none⟩ (.int .u64 (tr : Nat))).setCell ⟨w.heap.size, 2, none⟩ (.int .u64 (bn : Nat))).setCell ⟨w.heap.size, 3, none⟩ (.int .u64 (bd : Nat))).setCell ⟨w.heap.size, 4, none⟩ (.int .u64 (sn : Nat))).setCell ⟨w.heap.size, 5, none⟩ (.int .u64 (sd : Nat))).setCell ⟨w.heap.size, 6, none⟩ (.int .i64 v)).setCell ⟨w.heap.size, 7, none⟩ (.bool ok)).setCell ⟨w.heap.size, 8, none⟩ (.slice none 0 0)).setCell ⟨w.heap.size, 9, none⟩ (.slice none 0 0)).setCell ⟨w.heap.size, 10, none⟩ (.slice A l.length c4))) ⟨k, tr, bn, bd, sn, sd, v, ok, [], [], l⟩ ⟨none, 0, none, 0, A, c4⟩ from
      ⟨whole_11 a2 (.int .i64 k) (.int .u64 (tr : Nat)) (.int .u64 (bn : Nat)) (.int .u64 (bd : Nat)) (.int .u64 (sn : Nat)) (.int .u64 (sd : Nat)) (.int .i64 v) (.bool ok) (.slice none 0 0) (.slice none 0 0) (.slice A l.length c4), below_11 a3 (Nat.le_refl _) (.int .i64 k) (.int .u64 (tr : Nat)) (.int .u64 (bn : Nat)) (.int .u64 (bd : Nat)) (.int .u64 (sn : Nat)) (.int .u64 (sd : Nat)) (.int .i64 v) (.bool ok) (.slice none 0 0) (.slice none 0 0) (.slice A l.length c4), packIn_set (p := ⟨k, tr, bn, bd, sn, sd, v, ok, [], [], l⟩) (s := ⟨none, 0, none, 0, A, c4⟩) a4 (HEl.out w.heap.size (Nat.lt_trans hz1 hz3))⟩)
    have y0 := a1.cell 0 _ rfl
    have y1 := a1.cell 1 _ rfl
    have y2 := a1.cell 2 _ rfl
    have y3 := a1.cell 3 _ rfl
    have y4 := a1.cell 4 _ rfl
    have y5 := a1.cell 5 _ rfl
    have y6 := a1.cell 6 _ rfl
    have y7 := a1.cell 7 _ rfl
    have y8 := a1.cell 8 _ rfl
    have y9 := a1.cell 9 _ rfl
    have y10 := a1.cell 10 _ rfl
    have z0 := a2.cell 0 _ rfl
    have z1 := a2.cell 1 _ rfl
    have z2 := a2.cell 2 _ rfl
    have z3 := a2.cell 3 _ rfl
    have z4 := a2.cell 4 _ rfl
    have z5 := a2.cell 5 _ rfl
    have z6 := a2.cell 6 _ rfl
    have z7 := a2.cell 7 _ rfl
    have z8 := a2.cell 8 _ rfl
    have z9 := a2.cell 9 _ rfl
    have z10 := a2.cell 10 _ rfl
    have zf := fun o => a2.free o
    clear a1 a2 a3 a4 HW5
    go_wp2_with fail
    have Hy2 := HF.out
    clear HF zf y0 z0 y1 z1 y2 z2 y3 z3 y4 z4 y5 z5 y6 z6 y7 z7 y8 z8 y9 z9 y10 z10
    generalize (((((((((((W5.setCell ⟨w.heap.size, 0, none⟩ (.int .i64 k)).setCell ⟨w.heap.size, 1, none⟩ (.int .u64 (tr : Nat))).setCell ⟨w.heap.size, 2, none⟩ (.int .u64 (bn : Nat))).setCell ⟨w.heap.size, 3, none⟩ (.int .u64 (bd : Nat))).setCell ⟨w.heap.size, 4, none⟩ (.int .u64 (sn : Nat))).setCell ⟨w.heap.size, 5, none⟩ (.int .u64 (sd : Nat))).setCell ⟨w.heap.size, 6, none⟩ (.int .i64 v)).setCell ⟨w.heap.size, 7, none⟩ (.bool ok)).setCell ⟨w.heap.size, 8, none⟩ (.slice none 0 0)).setCell ⟨w.heap.size, 9, none⟩ (.slice none 0 0)).setCell ⟨w.heap.size, 10, none⟩ (.slice A l.length c4)) = W9 at Hy2 ⊢
    obtain ⟨Hy, Hby, Hin⟩ := Hy2
    have y0 := Hy.cell 0 _ rfl
    have y1 := Hy.cell 1 _ rfl
    have y2 := Hy.cell 2 _ rfl
    have y3 := Hy.cell 3 _ rfl
    have y4 := Hy.cell 4 _ rfl
    have y5 := Hy.cell 5 _ rfl
    have y6 := Hy.cell 6 _ rfl
    have y7 := Hy.cell 7 _ rfl
    have y8 := Hy.cell 8 _ rfl
    have y9 := Hy.cell 9 _ rfl
    have y10 := Hy.cell 10 _ rfl
    refine bodyPost_ret (v := .tuple #[.agg #[.int .i64 k, .int .u64 (tr : Nat), .int .u64 (bn : Nat), .int .u64 (bd : Nat), .int .u64 (sn : Nat), .int .u64 (sd : Nat), .int .i64 v, .bool ok, .slice none 0 0, .slice none 0 0, .slice A l.length c4], .int .i64 0]) (by simp [results, Try.results9, go_sem, y0, y1, y2, y3, y4, y5, y6, y7, y8, y9, y10]) rfl ?_
    exact pkPost_mk (P := ⟨k, tr, bn, bd, sn, sd, v, ok, [], [], l⟩) (s := ⟨none, 0, none, 0, A, c4⟩) Hin Hby
end Go.Proofs.Ytnpbokbfkdncmaa
