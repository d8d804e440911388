/-
  The Packet of a thing, by which list it has.
-/
import Derived.Test.YtnpbokbfkdncmaaZGM
import Derived.Test.YtnpbokbfkdncmaaZThings
namespace Go.Proofs.Ytnpbokbfkdncmaa
set_option linter.unusedSimpArgs false
set_option linter.unusedVariables false
open Go.RowKit Ru
theorem Whole.cellD {w : World} {g : Nat} {t : TypeId} {cs : Array Value} (h : Whole w g t cs) (j : Nat) (u : Value) (hj : cs[j]? = some u) : w.drew.cell? ⟨g, j, none⟩ = some u := h.cell j u hj
def PkPost (w : World) (P : PackD) (e : Ending) (w' : World) : Prop := ∃ s, e = .returned (.tuple #[packVal P s, .int .i64 0]) ∧ PackIn w' P s ∧ Below w.heap.size w w'
theorem pkPost_mk {w w' : World} {P : PackD} {s : PackS} (hi : PackIn w' P s) (hb : Below w.heap.size w w') : PkPost w P (.returned (.tuple #[packVal P s, .int .i64 0])) w' := ⟨s, rfl, hi, hb⟩
theorem packIn_drew {w : World} {P : PackD} {s : PackS} (h : PackIn w P s) : PackIn w.drew P s := h.below (Below.drew (Below.refl _ _))
theorem nilSp (w : World) : Calls Try.prog 24 #[.slice none 0 0] w fun e w' => e = .returned (.slice none 0 0) ∧ w = w' := (AnyE.slices_Clone_nil Sh.cloneSpans 0 0 w).mono fun e w' h => ⟨h.1, h.2.symm⟩
theorem nilMem (w : World) : Calls Try.prog 25 #[.slice none 0 0] w fun e w' => e = .returned (.slice none 0 0) ∧ w = w' := (AnyE.slices_Clone_nil Sh.cloneMembers 0 0 w).mono fun e w' h => ⟨h.1, h.2.symm⟩
theorem nilId (w : World) : Calls Try.prog 26 #[.slice none 0 0] w fun e w' => e = .returned (.slice none 0 0) ∧ w = w' := (AnyE.slices_Clone_nil Sh.cloneIds 0 0 w).mono fun e w' h => ⟨h.1, h.2.symm⟩
set_option maxRecDepth 100000 in
set_option maxHeartbeats 2000000 in
theorem packet0_any (V : Value) (k : Int) (tr bn bd sn sd : Nat) (v : Int) (ok : Bool) (w : World)
    (hpk : ∀ W, Calls Try.prog 23 #[V] W fun e w' => e = .returned (.agg #[.int .i64 k, .int .u64 (tr : Nat), .int .u64 (bn : Nat), .int .u64 (bd : Nat), .int .u64 (sn : Nat), .int .u64 (sd : Nat), .int .i64 v, .bool ok, .slice none 0 0, .slice none 0 0, .slice none 0 0]) ∧ Below W.heap.size W w')
    (hp : PackIn w ⟨k, tr, bn, bd, sn, sd, v, ok, [], [], []⟩ ⟨none, 0, none, 0, none, 0⟩) (hw : PackD.Wf ⟨k, tr, bn, bd, sn, sd, v, ok, [], [], []⟩) (hr : rightP ⟨k, tr, bn, bd, sn, sd, v, ok, [], [], []⟩ = true) :
    Calls Try.prog 9 #[V] w (PkPost w ⟨k, tr, bn, bd, sn, sd, v, ok, [], [], []⟩) := by
  have Hpk := hid_ hpk
  have Hri := hid_ (fun (W : World) (hb : Below w.heap.size w W) => packright_any _ _ W (hp.below hb) hw (by show ([] : List SpanD).length ≤ _; simp))
  rw [hr, show kindP true = 0 from rfl] at Hri
  have Hz := hid_ (whole_new w 30 #[.int .i64 0, .int .u64 0, .int .u64 0, .int .u64 0, .int .u64 0, .int .u64 0, .int .i64 0, .bool false, .slice none 0 0, .slice none 0 0, .slice none 0 0])
  have Ha := hid_ (show Below w.heap.size w (w.alloc (.cells #[.int .i64 0, .int .u64 0, .int .u64 0, .int .u64 0, .int .u64 0, .int .u64 0, .int .i64 0, .bool false, .slice none 0 0, .slice none 0 0, .slice none 0 0] 30)) from (Below.refl _ _).alloc (Nat.le_refl _) _)
  clear hp hw hr hpk
  go_enter Try.func9, Try.ntmps9
  go_wp2_with fail
  refine Calls.mono (Hpk.out _) ?_
  rintro e w1 ⟨rfl, hb1⟩
  have Hz1 := hid_ (Hz.out.below hb1 Hz.out.lt)
  have Hb1 := hid_ (Ha.out.trans (hb1.mono Ha.out.size))
  have Hz2 := hid_ (Hz1.out.alloc (.cells #[.int .i64 k, .int .u64 (tr : Nat), .int .u64 (bn : Nat), .int .u64 (bd : Nat), .int .u64 (sn : Nat), .int .u64 (sd : Nat), .int .i64 v, .bool ok, .slice none 0 0, .slice none 0 0, .slice none 0 0] 30))
  have HP2 := hid_ (whole_new w1 30 #[.int .i64 k, .int .u64 (tr : Nat), .int .u64 (bn : Nat), .int .u64 (bd : Nat), .int .u64 (sn : Nat), .int .u64 (sd : Nat), .int .i64 v, .bool ok, .slice none 0 0, .slice none 0 0, .slice none 0 0])
  have Hb2 := hid_ (Hb1.out.alloc Hb1.out.size (.cells #[.int .i64 k, .int .u64 (tr : Nat), .int .u64 (bn : Nat), .int .u64 (bd : Nat), .int .u64 (sn : Nat), .int .u64 (sd : Nat), .int .i64 v, .bool ok, .slice none 0 0, .slice none 0 0, .slice none 0 0] 30))
  have hz1 := Hz1.out.lt
  clear hb1
  go_wp2_with fail
  refine Calls.mono (Hri.out _ Hb2.out) ?_
  rintro e w3 ⟨rfl, hb3⟩
  have Hz3 := hid_ (Hz2.out.below hb3 Hz2.out.lt)
  have HP3 := hid_ (HP2.out.below hb3 HP2.out.lt)
  have Hb3 := hid_ (Hb2.out.trans (hb3.mono Hb2.out.size))
  clear hb3
  have hz3 := HP3.out.lt
  have x8 := HP3.out.cell 8 _ rfl
  have x9 := HP3.out.cell 9 _ rfl
  have x10 := HP3.out.cell 10 _ rfl
  have rf := fun o => HP3.out.free o
  go_wp2_with fail
  have Hb3d := hid_ Hb3.out.drew
  have s1 : (w3.setCell ⟨w1.heap.size, 8, none⟩ (.slice none 0 0)).drew.cell? ⟨w1.heap.size, 8, none⟩ = some (.slice none 0 0) ∧ (w3.setCell ⟨w1.heap.size, 8, none⟩ (.slice none 0 0)).drew.cell? ⟨w1.heap.size, 9, none⟩ = some (.slice none 0 0) ∧ (w3.setCell ⟨w1.heap.size, 8, none⟩ (.slice none 0 0)).drew.cell? ⟨w1.heap.size, 10, none⟩ = some (.slice none 0 0) := ⟨(HP3.out.store 8 (.slice none 0 0)).cellD 8 _ rfl, (HP3.out.store 8 (.slice none 0 0)).cellD 9 _ rfl, (HP3.out.store 8 (.slice none 0 0)).cellD 10 _ rfl⟩
  have s2 : ((w3.setCell ⟨w1.heap.size, 8, none⟩ (.slice none 0 0)).setCell ⟨w1.heap.size, 9, none⟩ (.slice none 0 0)).drew.cell? ⟨w1.heap.size, 8, none⟩ = some (.slice none 0 0) ∧ ((w3.setCell ⟨w1.heap.size, 8, none⟩ (.slice none 0 0)).setCell ⟨w1.heap.size, 9, none⟩ (.slice none 0 0)).drew.cell? ⟨w1.heap.size, 9, none⟩ = some (.slice none 0 0) ∧ ((w3.setCell ⟨w1.heap.size, 8, none⟩ (.slice none 0 0)).setCell ⟨w1.heap.size, 9, none⟩ (.slice none 0 0)).drew.cell? ⟨w1.heap.size, 10, none⟩ = some (.slice none 0 0) := ⟨((HP3.out.store 8 (.slice none 0 0)).store 9 (.slice none 0 0)).cellD 8 _ rfl, ((HP3.out.store 8 (.slice none 0 0)).store 9 (.slice none 0 0)).cellD 9 _ rfl, ((HP3.out.store 8 (.slice none 0 0)).store 9 (.slice none 0 0)).cellD 10 _ rfl⟩
  have s3 : (((w3.setCell ⟨w1.heap.size, 8, none⟩ (.slice none 0 0)).setCell ⟨w1.heap.size, 9, none⟩ (.slice none 0 0)).setCell ⟨w1.heap.size, 10, none⟩ (.slice none 0 0)).drew.cell? ⟨w1.heap.size, 8, none⟩ = some (.slice none 0 0) ∧ (((w3.setCell ⟨w1.heap.size, 8, none⟩ (.slice none 0 0)).setCell ⟨w1.heap.size, 9, none⟩ (.slice none 0 0)).setCell ⟨w1.heap.size, 10, none⟩ (.slice none 0 0)).drew.cell? ⟨w1.heap.size, 9, none⟩ = some (.slice none 0 0) ∧ (((w3.setCell ⟨w1.heap.size, 8, none⟩ (.slice none 0 0)).setCell ⟨w1.heap.size, 9, none⟩ (.slice none 0 0)).setCell ⟨w1.heap.size, 10, none⟩ (.slice none 0 0)).drew.cell? ⟨w1.heap.size, 10, none⟩ = some (.slice none 0 0) := ⟨(((HP3.out.store 8 (.slice none 0 0)).store 9 (.slice none 0 0)).store 10 (.slice none 0 0)).cellD 8 _ rfl, (((HP3.out.store 8 (.slice none 0 0)).store 9 (.slice none 0 0)).store 10 (.slice none 0 0)).cellD 9 _ rfl, (((HP3.out.store 8 (.slice none 0 0)).store 9 (.slice none 0 0)).store 10 (.slice none 0 0)).cellD 10 _ rfl⟩
  go_region_held3 (fun W => W.cell? ⟨w1.heap.size, 8, none⟩ = some (.slice none 0 0) ∧ W.cell? ⟨w1.heap.size, 9, none⟩ = some (.slice none 0 0) ∧ W.cell? ⟨w1.heap.size, 10, none⟩ = some (.slice none 0 0)) (first | assumption | go_keep)
    (first
      | (go_at_call 24; (with_reducible refine Calls.mono (nilSp _) ?_); rintro e w5 ⟨rfl, rfl⟩)
      | (go_at_call 25; (with_reducible refine Calls.mono (nilMem _) ?_); rintro e w5 ⟨rfl, rfl⟩)
      | (go_at_call 26; (with_reducible refine Calls.mono (nilId _) ?_); rintro e w5 ⟨rfl, rfl⟩)
      | fail)
  all_goals
    have HPI := hid_ (show PackIn w3 ⟨k, tr, bn, bd, sn, sd, v, ok, [], [], []⟩ ⟨none, 0, none, 0, none, 0⟩ from (packIn_none _ _ rfl rfl rfl))
    have HEl := hid_ (fun (q : Nat) (hq : q < w3.heap.size) => show Elsewhere ⟨k, tr, bn, bd, sn, sd, v, ok, [], [], []⟩ ⟨none, 0, none, 0, none, 0⟩ q from ⟨(fun a e => by cases e), (fun a e => by cases e), (fun a e => by cases e)⟩)
    have HW5 := hid_ (show Whole ((((w3.setCell ⟨w1.heap.size, 8, none⟩ (.slice none 0 0)).setCell ⟨w1.heap.size, 9, none⟩ (.slice none 0 0)).setCell ⟨w1.heap.size, 10, none⟩ (.slice none 0 0)).drew) w1.heap.size 30 #[.int .i64 k, .int .u64 (tr : Nat), .int .u64 (bn : Nat), .int .u64 (bd : Nat), .int .u64 (sn : Nat), .int .u64 (sd : Nat), .int .i64 v, .bool ok, .slice none 0 0, .slice none 0 0, .slice none 0 0] ∧ Whole ((((w3.setCell ⟨w1.heap.size, 8, none⟩ (.slice none 0 0)).setCell ⟨w1.heap.size, 9, none⟩ (.slice none 0 0)).setCell ⟨w1.heap.size, 10, none⟩ (.slice none 0 0)).drew) w.heap.size 30 #[.int .i64 0, .int .u64 0, .int .u64 0, .int .u64 0, .int .u64 0, .int .u64 0, .int .i64 0, .bool false, .slice none 0 0, .slice none 0 0, .slice none 0 0] ∧ Below w.heap.size w ((((w3.setCell ⟨w1.heap.size, 8, none⟩ (.slice none 0 0)).setCell ⟨w1.heap.size, 9, none⟩ (.slice none 0 0)).setCell ⟨w1.heap.size, 10, none⟩ (.slice none 0 0)).drew) ∧ PackIn ((((w3.setCell ⟨w1.heap.size, 8, none⟩ (.slice none 0 0)).setCell ⟨w1.heap.size, 9, none⟩ (.slice none 0 0)).setCell ⟨w1.heap.size, 10, none⟩ (.slice none 0 0)).drew) ⟨k, tr, bn, bd, sn, sd, v, ok, [], [], []⟩ ⟨none, 0, none, 0, none, 0⟩ from
      ⟨Whole.drew (((HP3.out.store 8 (.slice none 0 0)).store 9 (.slice none 0 0)).store 10 (.slice none 0 0)), Whole.drew (((Hz3.out.far (p := ⟨w1.heap.size, 8, none⟩) (Nat.ne_of_lt hz1) (.slice none 0 0)).far (p := ⟨w1.heap.size, 9, none⟩) (Nat.ne_of_lt hz1) (.slice none 0 0)).far (p := ⟨w1.heap.size, 10, none⟩) (Nat.ne_of_lt hz1) (.slice none 0 0)), Below.drew (((Hb3.out.setCell (p := ⟨w1.heap.size, 8, none⟩) (Nat.le_of_lt hz1) (.slice none 0 0)).setCell (p := ⟨w1.heap.size, 9, none⟩) (Nat.le_of_lt hz1) (.slice none 0 0)).setCell (p := ⟨w1.heap.size, 10, none⟩) (Nat.le_of_lt hz1) (.slice none 0 0)), packIn_drew (packIn_grown (packIn_grown (packIn_grown (show PackIn w3 ⟨k, tr, bn, bd, sn, sd, v, ok, [], [], []⟩ ⟨none, 0, none, 0, none, 0⟩ from HPI.out) (grown_set _ w1.heap.size 8 (.slice none 0 0)) (HEl.out w1.heap.size hz3)) (grown_set _ w1.heap.size 9 (.slice none 0 0)) (HEl.out w1.heap.size hz3)) (grown_set _ w1.heap.size 10 (.slice none 0 0)) (HEl.out w1.heap.size hz3))⟩)
    clear x8 x9 x10 rf s1 s2 s3
    generalize (((w3.setCell ⟨w1.heap.size, 8, none⟩ (.slice none 0 0)).setCell ⟨w1.heap.size, 9, none⟩ (.slice none 0 0)).setCell ⟨w1.heap.size, 10, none⟩ (.slice none 0 0)).drew = W5 at HW5 ⊢
    obtain ⟨a1, a2, a3, a4⟩ := HW5.out
    have HF := hid_ (show Whole ((((((((((((W5.setCell ⟨w.heap.size, 0, none⟩ (.int .i64 k)).setCell ⟨w.heap.size, 1, none⟩ (.int .u64 (tr : Nat))).setCell ⟨w.heap.size, 2, none⟩ (.int .u64 (bn : Nat))).setCell ⟨w.heap.size, 3, none⟩ (.int .u64 (bd : Nat))).setCell ⟨w.heap.size, 4, none⟩ (.int .u64 (sn : Nat))).setCell ⟨w.heap.size, 5, none⟩ (.int .u64 (sd : Nat))).setCell ⟨w.heap.size, 6, none⟩ (.int .i64 v)).setCell ⟨w.heap.size, 7, none⟩ (.bool ok)).setCell ⟨w.heap.size, 8, none⟩ (.slice none 0 0)).setCell ⟨w.heap.size, 9, none⟩ (.slice none 0 0)).setCell ⟨w.heap.size, 10, none⟩ (.slice none 0 0))) w.heap.size 30 #[.int .i64 k, .int .u64 (tr : Nat), .int .u64 (bn : Nat), .int .u64 (bd : Nat), .int .u64 (sn : Nat), .int .u64 (sd : Nat), .int .i64 v, .bool ok, .slice none 0 0, .slice none 0 0, .slice none 0 0] ∧ Below w.heap.size w ((((((((((((W5.setCell ⟨w.heap.size, 0, none⟩ (.int .i64 k)).setCell ⟨w.heap.size, 1, none⟩ (.int .u64 (tr : Nat))).setCell ⟨w.heap.size, 2, none⟩ (.int .u64 (bn : Nat))).setCell ⟨w.heap.size, 3, none⟩ (.int .u64 (bd : Nat))).setCell ⟨w.heap.size, 4, none⟩ (.int .u64 (sn : Nat))).setCell ⟨w.heap.size, 5, none⟩ (.int .u64 (sd : Nat))).setCell ⟨w.heap.size, 6, none⟩ (.int .i64 v)).setCell ⟨w.heap.size, 7, none⟩ (.bool ok)).setCell ⟨w.heap.size, 8, none⟩ (.slice none 0 0)).setCell ⟨w.heap.size, 9, none⟩ (.slice none 0 0)).setCell ⟨w.heap.size, 10, none⟩ (.slice none 0 0))) ∧ PackIn ((((((((((((W5.setCell ⟨w.heap.size, 0, none⟩ (.int .i64 k)).setCell ⟨w.heap.size, 1, none⟩ (.int .u64 (tr : Nat))).setCell ⟨w.heap.size, 2, none⟩ (.int .u64 (bn : Nat))).setCell ⟨w.heap.size, 3, none⟩ (.int .u64 (bd : Nat))).setCell ⟨w.heap.size, 4, none⟩ (.int .u64 (sn : Nat))).setCell ⟨w.heap.size, 5, none⟩ (.int .u64 (sd : Nat))).setCell ⟨w.heap.size, 6, none⟩ (.int .i64 v)).setCell ⟨w.heap.size, 7, none⟩ (.bool ok)).setCell ⟨w.heap.size, 8, none⟩ (.slice none 0 0)).setCell ⟨w.heap.size, 9, none⟩ (.slice none 0 0)).setCell ⟨w.heap.size, 10, none⟩ (.slice none 0 0))) ⟨k, tr, bn, bd, sn, sd, v, ok, [], [], []⟩ ⟨none, 0, none, 0, none, 0⟩ from
      ⟨whole_11 a2 (.int .i64 k) (.int .u64 (tr : Nat)) (.int .u64 (bn : Nat)) (.int .u64 (bd : Nat)) (.int .u64 (sn : Nat)) (.int .u64 (sd : Nat)) (.int .i64 v) (.bool ok) (.slice none 0 0) (.slice none 0 0) (.slice none 0 0), below_11 a3 (Nat.le_refl _) (.int .i64 k) (.int .u64 (tr : Nat)) (.int .u64 (bn : Nat)) (.int .u64 (bd : Nat)) (.int .u64 (sn : Nat)) (.int .u64 (sd : Nat)) (.int .i64 v) (.bool ok) (.slice none 0 0) (.slice none 0 0) (.slice none 0 0), packIn_set (p := ⟨k, tr, bn, bd, sn, sd, v, ok, [], [], []⟩) (s := ⟨none, 0, none, 0, none, 0⟩) a4 (HEl.out w.heap.size (Nat.lt_trans hz1 hz3))⟩)
    have y0 := a1.cell 0 _ rfl
    have y1 := a1.cell 1 _ rfl
    have y2 := a1.cell 2 _ rfl
    have y3 := a1.cell 3 _ rfl
    have y4 := a1.cell 4 _ rfl
    have y5 := a1.cell 5 _ rfl
    have y6 := a1.cell 6 _ rfl
    have y7 := a1.cell 7 _ rfl
    have y8 := a1.cell 8 _ rfl
    have y9 := a1.cell 9 _ rfl
    have y10 := a1.cell 10 _ rfl
    have z0 := a2.cell 0 _ rfl
    have z1 := a2.cell 1 _ rfl
    have z2 := a2.cell 2 _ rfl
    have z3 := a2.cell 3 _ rfl
    have z4 := a2.cell 4 _ rfl
    have z5 := a2.cell 5 _ rfl
    have z6 := a2.cell 6 _ rfl
    have z7 := a2.cell 7 _ rfl
    have z8 := a2.cell 8 _ rfl
    have z9 := a2.cell 9 _ rfl
    have z10 := a2.cell 10 _ rfl
    have zf := fun o => a2.free o
    clear a1 a2 a3 a4 HW5
    go_wp2_with fail
    have Hy2 := HF.out
    clear HF zf y0 z0 y1 z1 y2 z2 y3 z3 y4 z4 y5 z5 y6 z6 y7 z7 y8 z8 y9 z9 y10 z10
    generalize (((((((((((W5.setCell ⟨w.heap.size, 0, none⟩ (.int .i64 k)).setCell ⟨w.heap.size, 1, none⟩ (.int .u64 (tr : Nat))).setCell ⟨w.heap.size, 2, none⟩ (.int .u64 (bn : Nat))).setCell ⟨w.heap.size, 3, none⟩ (.int .u64 (bd : Nat))).setCell ⟨w.heap.size, 4, none⟩ (.int .u64 (sn : Nat))).setCell ⟨w.heap.size, 5, none⟩ (.int .u64 (sd : Nat))).setCell ⟨w.heap.size, 6, none⟩ (.int .i64 v)).setCell ⟨w.heap.size, 7, none⟩ (.bool ok)).setCell ⟨w.heap.size, 8, none⟩ (.slice none 0 0)).setCell ⟨w.heap.size, 9, none⟩ (.slice none 0 0)).setCell ⟨w.heap.size, 10, none⟩ (.slice none 0 0)) = W9 at Hy2 ⊢
    obtain ⟨Hy, Hby, Hin⟩ := Hy2
    have y0 := Hy.cell 0 _ rfl
    have y1 := Hy.cell 1 _ rfl
    have y2 := Hy.cell 2 _ rfl
    have y3 := Hy.cell 3 _ rfl
    have y4 := Hy.cell 4 _ rfl
    have y5 := Hy.cell 5 _ rfl
    have y6 := Hy.cell 6 _ rfl
    have y7 := Hy.cell 7 _ rfl
    have y8 := Hy.cell 8 _ rfl
    have y9 := Hy.cell 9 _ rfl
    have y10 := Hy.cell 10 _ rfl
    refine bodyPost_ret (v := .tuple #[.agg #[.int .i64 k, .int .u64 (tr : Nat), .int .u64 (bn : Nat), .int .u64 (bd : Nat), .int .u64 (sn : Nat), .int .u64 (sd : Nat), .int .i64 v, .bool ok, .slice none 0 0, .slice none 0 0, .slice none 0 0], .int .i64 0]) (by simp [results, Try.results9, go_sem, y0, y1, y2, y3, y4, y5, y6, y7, y8, y9, y10]) rfl ?_
    exact pkPost_mk (P := ⟨k, tr, bn, bd, sn, sd, v, ok, [], [], []⟩) (s := ⟨none, 0, none, 0, none, 0⟩) Hin Hby
end Go.Proofs.Ytnpbokbfkdncmaa
