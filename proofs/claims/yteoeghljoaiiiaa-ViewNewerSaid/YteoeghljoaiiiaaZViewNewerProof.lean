/-
  ViewNewer: of whatever three members the program's Newer is an order by Inc and State: no member is newer than itself, of two that are not alike just one is, and it goes on; no condition on the input.
  The frame round the walk is written by the guide's own program for this statement.
-/
import Derived.Test.YteoeghljoaiiiaaZViewOpen
import Derived.Test.YteoeghljoaiiiaaRows
import Derived.WalkKit
import Derived.ProofKit
import Derived.OpenShut
import Derived.ShutString
import Derived.ChangeOld
import Derived.Below
namespace Go.Proofs.Yteoeghljoaiiiaa.viewNewer
set_option linter.unusedSimpArgs false
set_option linter.unusedVariables false
open Go.ChangeShapes Go.WideShapes Go.ChangeAt Go.RowKit
open Go.ChangeMaps (open_string shut_string)
set_option linter.unusedVariables false

theorem own : ownKnob Try.prog.godebug = none := by kernel_rfl
theorem laidOut : laidOutB Try.prog = true := by kernel_rfl

/-- WHAT THE WALK IS TOLD OF A SLICE OF INTEGERS THAT CAME IN: it is nil; or it leads to a row of 'cap' cells, the numbers 'zs' (the first 'len' are its elements, the rest its spare room), each fitting its kind. -/
def IsRow (k : IntKind) (w : World) (a : Option Addr) (len cap : Nat) (zs : List Int) : Prop :=
  (a = none ∧ len = 0 ∧ cap = 0 ∧ zs = []) ∨
  ∃ x, a = some x ∧ len ≤ cap ∧ cap ≤ maxLen ∧ zs.length = cap ∧ (∀ i, i < zs.length → w.cell? (x.add i) = some (.int k (zs.getD i 0))) ∧ ∀ n ∈ zs, (Lit.int k n).wf = true

open Ru Vw
theorem newer_self (a : MemberD) : newerB a a = false := by
  unfold newerB
  exact decide_eq_false (by omega)
theorem newer_two (a b : MemberD) : ((decide (a.inc = b.inc) && decide (a.state = b.state)) = !(newerB a b || newerB b a)) ∧ (newerB a b && newerB b a) = false := by
  unfold newerB
  rcases Nat.lt_trichotomy a.inc b.inc with h | h | h
  · rw [decide_eq_false (show ¬ a.inc = b.inc by omega), decide_eq_false (show ¬ (b.inc < a.inc ∨ (a.inc = b.inc ∧ b.state < a.state)) by omega), decide_eq_true (show a.inc < b.inc ∨ (b.inc = a.inc ∧ a.state < b.state) by omega)]
    exact ⟨rfl, rfl⟩
  · rw [decide_eq_true h]
    rcases Int.lt_trichotomy a.state b.state with g | g | g
    · rw [decide_eq_false (show ¬ a.state = b.state by omega), decide_eq_false (show ¬ (b.inc < a.inc ∨ (a.inc = b.inc ∧ b.state < a.state)) by omega), decide_eq_true (show a.inc < b.inc ∨ (b.inc = a.inc ∧ a.state < b.state) by omega)]
      exact ⟨rfl, rfl⟩
    · rw [decide_eq_true g, decide_eq_false (show ¬ (b.inc < a.inc ∨ (a.inc = b.inc ∧ b.state < a.state)) by omega), decide_eq_false (show ¬ (a.inc < b.inc ∨ (b.inc = a.inc ∧ a.state < b.state)) by omega)]
      exact ⟨rfl, rfl⟩
    · rw [decide_eq_false (show ¬ a.state = b.state by omega), decide_eq_true (show b.inc < a.inc ∨ (a.inc = b.inc ∧ b.state < a.state) by omega), decide_eq_false (show ¬ (a.inc < b.inc ∨ (b.inc = a.inc ∧ a.state < b.state)) by omega)]
      exact ⟨rfl, rfl⟩
  · rw [decide_eq_false (show ¬ a.inc = b.inc by omega), decide_eq_true (show b.inc < a.inc ∨ (a.inc = b.inc ∧ b.state < a.state) by omega), decide_eq_false (show ¬ (a.inc < b.inc ∨ (b.inc = a.inc ∧ a.state < b.state)) by omega)]
    exact ⟨rfl, rfl⟩
theorem newer_on {a b c : MemberD} (h1 : newerB a b = true) (h2 : newerB b c = true) : newerB a c = true := by
  unfold newerB at *
  have := of_decide_eq_true h1
  have := of_decide_eq_true h2
  exact decide_eq_true (by omega)
abbrev threeBox (w : World) (a b c : MemberD) : World := ((w.alloc (.cells #[.int .u64 (a.id : Nat), .int .u64 (a.inc : Nat), .int .i64 a.state] 79)).alloc (.cells #[.int .u64 (b.id : Nat), .int .u64 (b.inc : Nat), .int .i64 b.state] 79)).alloc (.cells #[.int .u64 (c.id : Nat), .int .u64 (c.inc : Nat), .int .i64 c.state] 79)
structure InThree (w : World) (a b c : MemberD) (W : World) : Prop where
  bel : Below w.heap.size w W
  a : Whole W w.heap.size 79 #[.int .u64 (a.id : Nat), .int .u64 (a.inc : Nat), .int .i64 a.state]
  b : Whole W (w.heap.size + 1) 79 #[.int .u64 (b.id : Nat), .int .u64 (b.inc : Nat), .int .i64 b.state]
  c : Whole W (w.heap.size + 2) 79 #[.int .u64 (c.id : Nat), .int .u64 (c.inc : Nat), .int .i64 c.state]
theorem inThree_new (w : World) (a b c : MemberD) : InThree w a b c (threeBox w a b c) :=
  ⟨(((Below.refl w.heap.size w).alloc (Nat.le_refl _) _).alloc (by simp) _).alloc (by simp; omega) _, ((whole_new w _ _).alloc _).alloc _, (whole_at _ _ _ _ (by simp)).alloc _, whole_at _ _ _ _ (by simp)⟩
theorem InThree.next {w W W' : World} {a b c : MemberD} (h : InThree w a b c W) (hb : Below W.heap.size W W') : InThree w a b c W' :=
  ⟨h.bel.trans (hb.mono h.bel.size), h.a.below hb h.a.lt, h.b.below hb h.b.lt, h.c.below hb h.c.lt⟩
set_option maxRecDepth 100000 in
set_option maxHeartbeats 16000000 in
theorem walk (v0 : Value) (v1 : Value) (v2 : Value) (w : World) (w0 : Vw.MemV w v0) (w1 : Vw.MemV w v1) (w2 : Vw.MemV w v2) :
    Calls Try.prog 15 #[v0, v1, v2] w fun e w' => e = .returned (.bool true) ∧ Below w.heap.size w w' := by
  obtain ⟨a, hwa, rfl⟩ := w0
  obtain ⟨b, hwb, rfl⟩ := w1
  obtain ⟨c, hwc, rfl⟩ := w2
  have HIn0 := hid_ (inThree_new w a b c)
  have Haa := hid_ (fun W => vnewer_any a a W)
  have Hab := hid_ (fun W => vnewer_any a b W)
  have Hba := hid_ (fun W => vnewer_any b a W)
  have Hbc := hid_ (fun W => vnewer_any b c W)
  have Hac := hid_ (fun W => vnewer_any a c W)
  rw [newer_self a] at Haa
  have hz := (newer_two a b).1
  have hz2 := (newer_two a b).2
  have HOn := hid_ (fun h1 h2 => newer_on (a := a) (b := b) (c := c) h1 h2)
  have e1 : ((a.inc : Int) == (b.inc : Int)) = decide (a.inc = b.inc) := by rw [Bool.eq_iff_iff, beq_iff_eq, decide_eq_true_eq]; omega
  have e2 : (a.state == b.state) = decide (a.state = b.state) := by rw [Bool.eq_iff_iff, beq_iff_eq, decide_eq_true_eq]
  have e3 : (a.inc == b.inc) = decide (a.inc = b.inc) := by rw [Bool.eq_iff_iff, beq_iff_eq, decide_eq_true_eq]
  clear hwa hwb hwc
  generalize newerB a b = p at *
  generalize newerB b a = q at *
  generalize newerB b c = r at *
  generalize newerB a c = s at *
  generalize decide (a.inc = b.inc) = z1 at *
  generalize decide (a.state = b.state) = z2 at *
  have HZ := hid_ (And.intro hz hz2)
  clear hz hz2
  cases p
  · cases q
    · cases z1
      · exact absurd HZ.out.1 (by simp)
      cases z2
      · exact absurd HZ.out.1 (by decide)
      go_enter Try.func15, Try.ntmps15
      go_wp2_with fail
      refine Calls.mono (Haa.out _) ?_
      rintro e wn1 ⟨rfl, hbn1⟩
      have HIn1 := hid_ (HIn0.out.next hbn1)
      clear hbn1
      have ya0 := HIn1.out.a.cell 0 _ rfl
      have ya1 := HIn1.out.a.cell 1 _ rfl
      have ya2 := HIn1.out.a.cell 2 _ rfl
      have yb0 := HIn1.out.b.cell 0 _ rfl
      have yb1 := HIn1.out.b.cell 1 _ rfl
      have yb2 := HIn1.out.b.cell 2 _ rfl
      have yc0 := HIn1.out.c.cell 0 _ rfl
      have yc1 := HIn1.out.c.cell 1 _ rfl
      have yc2 := HIn1.out.c.cell 2 _ rfl
      go_wp2_with fail
      refine Calls.mono (Hab.out _) ?_
      rintro e wn2 ⟨rfl, hbn2⟩
      have HIn2 := hid_ (HIn1.out.next hbn2)
      clear hbn2 ya0 ya1 ya2 yb0 yb1 yb2 yc0 yc1 yc2
      have ya0 := HIn2.out.a.cell 0 _ rfl
      have ya1 := HIn2.out.a.cell 1 _ rfl
      have ya2 := HIn2.out.a.cell 2 _ rfl
      have yb0 := HIn2.out.b.cell 0 _ rfl
      have yb1 := HIn2.out.b.cell 1 _ rfl
      have yb2 := HIn2.out.b.cell 2 _ rfl
      have yc0 := HIn2.out.c.cell 0 _ rfl
      have yc1 := HIn2.out.c.cell 1 _ rfl
      have yc2 := HIn2.out.c.cell 2 _ rfl
      go_wp2_with fail
      refine Calls.mono (Hab.out _) ?_
      rintro e wn3 ⟨rfl, hbn3⟩
      have HIn3 := hid_ (HIn2.out.next hbn3)
      clear hbn3 ya0 ya1 ya2 yb0 yb1 yb2 yc0 yc1 yc2
      have ya0 := HIn3.out.a.cell 0 _ rfl
      have ya1 := HIn3.out.a.cell 1 _ rfl
      have ya2 := HIn3.out.a.cell 2 _ rfl
      have yb0 := HIn3.out.b.cell 0 _ rfl
      have yb1 := HIn3.out.b.cell 1 _ rfl
      have yb2 := HIn3.out.b.cell 2 _ rfl
      have yc0 := HIn3.out.c.cell 0 _ rfl
      have yc1 := HIn3.out.c.cell 1 _ rfl
      have yc2 := HIn3.out.c.cell 2 _ rfl
      go_wp2_with fail
      refine Calls.mono (Hba.out _) ?_
      rintro e wn4 ⟨rfl, hbn4⟩
      have HIn4 := hid_ (HIn3.out.next hbn4)
      clear hbn4 ya0 ya1 ya2 yb0 yb1 yb2 yc0 yc1 yc2
      have ya0 := HIn4.out.a.cell 0 _ rfl
      have ya1 := HIn4.out.a.cell 1 _ rfl
      have ya2 := HIn4.out.a.cell 2 _ rfl
      have yb0 := HIn4.out.b.cell 0 _ rfl
      have yb1 := HIn4.out.b.cell 1 _ rfl
      have yb2 := HIn4.out.b.cell 2 _ rfl
      have yc0 := HIn4.out.c.cell 0 _ rfl
      have yc1 := HIn4.out.c.cell 1 _ rfl
      have yc2 := HIn4.out.c.cell 2 _ rfl
      go_wp2_with fail
      refine Calls.mono (Hab.out _) ?_
      rintro e wn5 ⟨rfl, hbn5⟩
      have HIn5 := hid_ (HIn4.out.next hbn5)
      clear hbn5 ya0 ya1 ya2 yb0 yb1 yb2 yc0 yc1 yc2
      have ya0 := HIn5.out.a.cell 0 _ rfl
      have ya1 := HIn5.out.a.cell 1 _ rfl
      have ya2 := HIn5.out.a.cell 2 _ rfl
      have yb0 := HIn5.out.b.cell 0 _ rfl
      have yb1 := HIn5.out.b.cell 1 _ rfl
      have yb2 := HIn5.out.b.cell 2 _ rfl
      have yc0 := HIn5.out.c.cell 0 _ rfl
      have yc1 := HIn5.out.c.cell 1 _ rfl
      have yc2 := HIn5.out.c.cell 2 _ rfl
      have HBn := hid_ HIn5.out.bel
      go_wp2_with fail
      refine Calls.mono (valive_any _) ?_
      rintro e wz ⟨rfl, hbz⟩
      have HBz := hid_ (HBn.out.trans (hbz.mono HBn.out.size))
      clear hbz
      go_wp2_with fail
      go_ret
      exact ⟨rfl, HBz.out⟩
    · cases z1
      · cases z2
        · skip
          go_enter Try.func15, Try.ntmps15
          go_wp2_with fail
          refine Calls.mono (Haa.out _) ?_
          rintro e wn1 ⟨rfl, hbn1⟩
          have HIn1 := hid_ (HIn0.out.next hbn1)
          clear hbn1
          have ya0 := HIn1.out.a.cell 0 _ rfl
          have ya1 := HIn1.out.a.cell 1 _ rfl
          have ya2 := HIn1.out.a.cell 2 _ rfl
          have yb0 := HIn1.out.b.cell 0 _ rfl
          have yb1 := HIn1.out.b.cell 1 _ rfl
          have yb2 := HIn1.out.b.cell 2 _ rfl
          have yc0 := HIn1.out.c.cell 0 _ rfl
          have yc1 := HIn1.out.c.cell 1 _ rfl
          have yc2 := HIn1.out.c.cell 2 _ rfl
          go_wp2_with fail
          refine Calls.mono (Hab.out _) ?_
          rintro e wn2 ⟨rfl, hbn2⟩
          have HIn2 := hid_ (HIn1.out.next hbn2)
          clear hbn2 ya0 ya1 ya2 yb0 yb1 yb2 yc0 yc1 yc2
          have ya0 := HIn2.out.a.cell 0 _ rfl
          have ya1 := HIn2.out.a.cell 1 _ rfl
          have ya2 := HIn2.out.a.cell 2 _ rfl
          have yb0 := HIn2.out.b.cell 0 _ rfl
          have yb1 := HIn2.out.b.cell 1 _ rfl
          have yb2 := HIn2.out.b.cell 2 _ rfl
          have yc0 := HIn2.out.c.cell 0 _ rfl
          have yc1 := HIn2.out.c.cell 1 _ rfl
          have yc2 := HIn2.out.c.cell 2 _ rfl
          go_wp2_with fail
          refine Calls.mono (Hab.out _) ?_
          rintro e wn3 ⟨rfl, hbn3⟩
          have HIn3 := hid_ (HIn2.out.next hbn3)
          clear hbn3 ya0 ya1 ya2 yb0 yb1 yb2 yc0 yc1 yc2
          have ya0 := HIn3.out.a.cell 0 _ rfl
          have ya1 := HIn3.out.a.cell 1 _ rfl
          have ya2 := HIn3.out.a.cell 2 _ rfl
          have yb0 := HIn3.out.b.cell 0 _ rfl
          have yb1 := HIn3.out.b.cell 1 _ rfl
          have yb2 := HIn3.out.b.cell 2 _ rfl
          have yc0 := HIn3.out.c.cell 0 _ rfl
          have yc1 := HIn3.out.c.cell 1 _ rfl
          have yc2 := HIn3.out.c.cell 2 _ rfl
          go_wp2_with fail
          refine Calls.mono (Hba.out _) ?_
          rintro e wn4 ⟨rfl, hbn4⟩
          have HIn4 := hid_ (HIn3.out.next hbn4)
          clear hbn4 ya0 ya1 ya2 yb0 yb1 yb2 yc0 yc1 yc2
          have ya0 := HIn4.out.a.cell 0 _ rfl
          have ya1 := HIn4.out.a.cell 1 _ rfl
          have ya2 := HIn4.out.a.cell 2 _ rfl
          have yb0 := HIn4.out.b.cell 0 _ rfl
          have yb1 := HIn4.out.b.cell 1 _ rfl
          have yb2 := HIn4.out.b.cell 2 _ rfl
          have yc0 := HIn4.out.c.cell 0 _ rfl
          have yc1 := HIn4.out.c.cell 1 _ rfl
          have yc2 := HIn4.out.c.cell 2 _ rfl
          go_wp2_with fail
          refine Calls.mono (Hab.out _) ?_
          rintro e wn5 ⟨rfl, hbn5⟩
          have HIn5 := hid_ (HIn4.out.next hbn5)
          clear hbn5 ya0 ya1 ya2 yb0 yb1 yb2 yc0 yc1 yc2
          have ya0 := HIn5.out.a.cell 0 _ rfl
          have ya1 := HIn5.out.a.cell 1 _ rfl
          have ya2 := HIn5.out.a.cell 2 _ rfl
          have yb0 := HIn5.out.b.cell 0 _ rfl
          have yb1 := HIn5.out.b.cell 1 _ rfl
          have yb2 := HIn5.out.b.cell 2 _ rfl
          have yc0 := HIn5.out.c.cell 0 _ rfl
          have yc1 := HIn5.out.c.cell 1 _ rfl
          have yc2 := HIn5.out.c.cell 2 _ rfl
          have HBn := hid_ HIn5.out.bel
          go_wp2_with fail
          refine Calls.mono (valive_any _) ?_
          rintro e wz ⟨rfl, hbz⟩
          have HBz := hid_ (HBn.out.trans (hbz.mono HBn.out.size))
          clear hbz
          go_wp2_with fail
          go_ret
          exact ⟨rfl, HBz.out⟩
        · skip
          go_enter Try.func15, Try.ntmps15
          go_wp2_with fail
          refine Calls.mono (Haa.out _) ?_
          rintro e wn1 ⟨rfl, hbn1⟩
          have HIn1 := hid_ (HIn0.out.next hbn1)
          clear hbn1
          have ya0 := HIn1.out.a.cell 0 _ rfl
          have ya1 := HIn1.out.a.cell 1 _ rfl
          have ya2 := HIn1.out.a.cell 2 _ rfl
          have yb0 := HIn1.out.b.cell 0 _ rfl
          have yb1 := HIn1.out.b.cell 1 _ rfl
          have yb2 := HIn1.out.b.cell 2 _ rfl
          have yc0 := HIn1.out.c.cell 0 _ rfl
          have yc1 := HIn1.out.c.cell 1 _ rfl
          have yc2 := HIn1.out.c.cell 2 _ rfl
          go_wp2_with fail
          refine Calls.mono (Hab.out _) ?_
          rintro e wn2 ⟨rfl, hbn2⟩
          have HIn2 := hid_ (HIn1.out.next hbn2)
          clear hbn2 ya0 ya1 ya2 yb0 yb1 yb2 yc0 yc1 yc2
          have ya0 := HIn2.out.a.cell 0 _ rfl
          have ya1 := HIn2.out.a.cell 1 _ rfl
          have ya2 := HIn2.out.a.cell 2 _ rfl
          have yb0 := HIn2.out.b.cell 0 _ rfl
          have yb1 := HIn2.out.b.cell 1 _ rfl
          have yb2 := HIn2.out.b.cell 2 _ rfl
          have yc0 := HIn2.out.c.cell 0 _ rfl
          have yc1 := HIn2.out.c.cell 1 _ rfl
          have yc2 := HIn2.out.c.cell 2 _ rfl
          go_wp2_with fail
          refine Calls.mono (Hab.out _) ?_
          rintro e wn3 ⟨rfl, hbn3⟩
          have HIn3 := hid_ (HIn2.out.next hbn3)
          clear hbn3 ya0 ya1 ya2 yb0 yb1 yb2 yc0 yc1 yc2
          have ya0 := HIn3.out.a.cell 0 _ rfl
          have ya1 := HIn3.out.a.cell 1 _ rfl
          have ya2 := HIn3.out.a.cell 2 _ rfl
          have yb0 := HIn3.out.b.cell 0 _ rfl
          have yb1 := HIn3.out.b.cell 1 _ rfl
          have yb2 := HIn3.out.b.cell 2 _ rfl
          have yc0 := HIn3.out.c.cell 0 _ rfl
          have yc1 := HIn3.out.c.cell 1 _ rfl
          have yc2 := HIn3.out.c.cell 2 _ rfl
          go_wp2_with fail
          refine Calls.mono (Hba.out _) ?_
          rintro e wn4 ⟨rfl, hbn4⟩
          have HIn4 := hid_ (HIn3.out.next hbn4)
          clear hbn4 ya0 ya1 ya2 yb0 yb1 yb2 yc0 yc1 yc2
          have ya0 := HIn4.out.a.cell 0 _ rfl
          have ya1 := HIn4.out.a.cell 1 _ rfl
          have ya2 := HIn4.out.a.cell 2 _ rfl
          have yb0 := HIn4.out.b.cell 0 _ rfl
          have yb1 := HIn4.out.b.cell 1 _ rfl
          have yb2 := HIn4.out.b.cell 2 _ rfl
          have yc0 := HIn4.out.c.cell 0 _ rfl
          have yc1 := HIn4.out.c.cell 1 _ rfl
          have yc2 := HIn4.out.c.cell 2 _ rfl
          go_wp2_with fail
          refine Calls.mono (Hab.out _) ?_
          rintro e wn5 ⟨rfl, hbn5⟩
          have HIn5 := hid_ (HIn4.out.next hbn5)
          clear hbn5 ya0 ya1 ya2 yb0 yb1 yb2 yc0 yc1 yc2
          have ya0 := HIn5.out.a.cell 0 _ rfl
          have ya1 := HIn5.out.a.cell 1 _ rfl
          have ya2 := HIn5.out.a.cell 2 _ rfl
          have yb0 := HIn5.out.b.cell 0 _ rfl
          have yb1 := HIn5.out.b.cell 1 _ rfl
          have yb2 := HIn5.out.b.cell 2 _ rfl
          have yc0 := HIn5.out.c.cell 0 _ rfl
          have yc1 := HIn5.out.c.cell 1 _ rfl
          have yc2 := HIn5.out.c.cell 2 _ rfl
          have HBn := hid_ HIn5.out.bel
          go_wp2_with fail
          refine Calls.mono (valive_any _) ?_
          rintro e wz ⟨rfl, hbz⟩
          have HBz := hid_ (HBn.out.trans (hbz.mono HBn.out.size))
          clear hbz
          go_wp2_with fail
          go_ret
          exact ⟨rfl, HBz.out⟩
      · cases z2
        rotate_left
        · exact absurd HZ.out.1 (by decide)
        · skip
          go_enter Try.func15, Try.ntmps15
          go_wp2_with fail
          refine Calls.mono (Haa.out _) ?_
          rintro e wn1 ⟨rfl, hbn1⟩
          have HIn1 := hid_ (HIn0.out.next hbn1)
          clear hbn1
          have ya0 := HIn1.out.a.cell 0 _ rfl
          have ya1 := HIn1.out.a.cell 1 _ rfl
          have ya2 := HIn1.out.a.cell 2 _ rfl
          have yb0 := HIn1.out.b.cell 0 _ rfl
          have yb1 := HIn1.out.b.cell 1 _ rfl
          have yb2 := HIn1.out.b.cell 2 _ rfl
          have yc0 := HIn1.out.c.cell 0 _ rfl
          have yc1 := HIn1.out.c.cell 1 _ rfl
          have yc2 := HIn1.out.c.cell 2 _ rfl
          go_wp2_with fail
          refine Calls.mono (Hab.out _) ?_
          rintro e wn2 ⟨rfl, hbn2⟩
          have HIn2 := hid_ (HIn1.out.next hbn2)
          clear hbn2 ya0 ya1 ya2 yb0 yb1 yb2 yc0 yc1 yc2
          have ya0 := HIn2.out.a.cell 0 _ rfl
          have ya1 := HIn2.out.a.cell 1 _ rfl
          have ya2 := HIn2.out.a.cell 2 _ rfl
          have yb0 := HIn2.out.b.cell 0 _ rfl
          have yb1 := HIn2.out.b.cell 1 _ rfl
          have yb2 := HIn2.out.b.cell 2 _ rfl
          have yc0 := HIn2.out.c.cell 0 _ rfl
          have yc1 := HIn2.out.c.cell 1 _ rfl
          have yc2 := HIn2.out.c.cell 2 _ rfl
          go_wp2_with fail
          refine Calls.mono (Hab.out _) ?_
          rintro e wn3 ⟨rfl, hbn3⟩
          have HIn3 := hid_ (HIn2.out.next hbn3)
          clear hbn3 ya0 ya1 ya2 yb0 yb1 yb2 yc0 yc1 yc2
          have ya0 := HIn3.out.a.cell 0 _ rfl
          have ya1 := HIn3.out.a.cell 1 _ rfl
          have ya2 := HIn3.out.a.cell 2 _ rfl
          have yb0 := HIn3.out.b.cell 0 _ rfl
          have yb1 := HIn3.out.b.cell 1 _ rfl
          have yb2 := HIn3.out.b.cell 2 _ rfl
          have yc0 := HIn3.out.c.cell 0 _ rfl
          have yc1 := HIn3.out.c.cell 1 _ rfl
          have yc2 := HIn3.out.c.cell 2 _ rfl
          go_wp2_with fail
          refine Calls.mono (Hba.out _) ?_
          rintro e wn4 ⟨rfl, hbn4⟩
          have HIn4 := hid_ (HIn3.out.next hbn4)
          clear hbn4 ya0 ya1 ya2 yb0 yb1 yb2 yc0 yc1 yc2
          have ya0 := HIn4.out.a.cell 0 _ rfl
          have ya1 := HIn4.out.a.cell 1 _ rfl
          have ya2 := HIn4.out.a.cell 2 _ rfl
          have yb0 := HIn4.out.b.cell 0 _ rfl
          have yb1 := HIn4.out.b.cell 1 _ rfl
          have yb2 := HIn4.out.b.cell 2 _ rfl
          have yc0 := HIn4.out.c.cell 0 _ rfl
          have yc1 := HIn4.out.c.cell 1 _ rfl
          have yc2 := HIn4.out.c.cell 2 _ rfl
          go_wp2_with fail
          refine Calls.mono (Hab.out _) ?_
          rintro e wn5 ⟨rfl, hbn5⟩
          have HIn5 := hid_ (HIn4.out.next hbn5)
          clear hbn5 ya0 ya1 ya2 yb0 yb1 yb2 yc0 yc1 yc2
          have ya0 := HIn5.out.a.cell 0 _ rfl
          have ya1 := HIn5.out.a.cell 1 _ rfl
          have ya2 := HIn5.out.a.cell 2 _ rfl
          have yb0 := HIn5.out.b.cell 0 _ rfl
          have yb1 := HIn5.out.b.cell 1 _ rfl
          have yb2 := HIn5.out.b.cell 2 _ rfl
          have yc0 := HIn5.out.c.cell 0 _ rfl
          have yc1 := HIn5.out.c.cell 1 _ rfl
          have yc2 := HIn5.out.c.cell 2 _ rfl
          have HBn := hid_ HIn5.out.bel
          go_wp2_with fail
          refine Calls.mono (valive_any _) ?_
          rintro e wz ⟨rfl, hbz⟩
          have HBz := hid_ (HBn.out.trans (hbz.mono HBn.out.size))
          clear hbz
          go_wp2_with fail
          go_ret
          exact ⟨rfl, HBz.out⟩
  · cases q
    rotate_left
    · exact absurd HZ.out.2 (by decide)
    cases r
    · skip
      cases z1
      · cases z2
        · skip
          go_enter Try.func15, Try.ntmps15
          go_wp2_with fail
          refine Calls.mono (Haa.out _) ?_
          rintro e wn1 ⟨rfl, hbn1⟩
          have HIn1 := hid_ (HIn0.out.next hbn1)
          clear hbn1
          have ya0 := HIn1.out.a.cell 0 _ rfl
          have ya1 := HIn1.out.a.cell 1 _ rfl
          have ya2 := HIn1.out.a.cell 2 _ rfl
          have yb0 := HIn1.out.b.cell 0 _ rfl
          have yb1 := HIn1.out.b.cell 1 _ rfl
          have yb2 := HIn1.out.b.cell 2 _ rfl
          have yc0 := HIn1.out.c.cell 0 _ rfl
          have yc1 := HIn1.out.c.cell 1 _ rfl
          have yc2 := HIn1.out.c.cell 2 _ rfl
          go_wp2_with fail
          refine Calls.mono (Hab.out _) ?_
          rintro e wn2 ⟨rfl, hbn2⟩
          have HIn2 := hid_ (HIn1.out.next hbn2)
          clear hbn2 ya0 ya1 ya2 yb0 yb1 yb2 yc0 yc1 yc2
          have ya0 := HIn2.out.a.cell 0 _ rfl
          have ya1 := HIn2.out.a.cell 1 _ rfl
          have ya2 := HIn2.out.a.cell 2 _ rfl
          have yb0 := HIn2.out.b.cell 0 _ rfl
          have yb1 := HIn2.out.b.cell 1 _ rfl
          have yb2 := HIn2.out.b.cell 2 _ rfl
          have yc0 := HIn2.out.c.cell 0 _ rfl
          have yc1 := HIn2.out.c.cell 1 _ rfl
          have yc2 := HIn2.out.c.cell 2 _ rfl
          go_wp2_with fail
          refine Calls.mono (Hba.out _) ?_
          rintro e wn3 ⟨rfl, hbn3⟩
          have HIn3 := hid_ (HIn2.out.next hbn3)
          clear hbn3 ya0 ya1 ya2 yb0 yb1 yb2 yc0 yc1 yc2
          have ya0 := HIn3.out.a.cell 0 _ rfl
          have ya1 := HIn3.out.a.cell 1 _ rfl
          have ya2 := HIn3.out.a.cell 2 _ rfl
          have yb0 := HIn3.out.b.cell 0 _ rfl
          have yb1 := HIn3.out.b.cell 1 _ rfl
          have yb2 := HIn3.out.b.cell 2 _ rfl
          have yc0 := HIn3.out.c.cell 0 _ rfl
          have yc1 := HIn3.out.c.cell 1 _ rfl
          have yc2 := HIn3.out.c.cell 2 _ rfl
          go_wp2_with fail
          refine Calls.mono (Hab.out _) ?_
          rintro e wn4 ⟨rfl, hbn4⟩
          have HIn4 := hid_ (HIn3.out.next hbn4)
          clear hbn4 ya0 ya1 ya2 yb0 yb1 yb2 yc0 yc1 yc2
          have ya0 := HIn4.out.a.cell 0 _ rfl
          have ya1 := HIn4.out.a.cell 1 _ rfl
          have ya2 := HIn4.out.a.cell 2 _ rfl
          have yb0 := HIn4.out.b.cell 0 _ rfl
          have yb1 := HIn4.out.b.cell 1 _ rfl
          have yb2 := HIn4.out.b.cell 2 _ rfl
          have yc0 := HIn4.out.c.cell 0 _ rfl
          have yc1 := HIn4.out.c.cell 1 _ rfl
          have yc2 := HIn4.out.c.cell 2 _ rfl
          go_wp2_with fail
          refine Calls.mono (Hab.out _) ?_
          rintro e wn5 ⟨rfl, hbn5⟩
          have HIn5 := hid_ (HIn4.out.next hbn5)
          clear hbn5 ya0 ya1 ya2 yb0 yb1 yb2 yc0 yc1 yc2
          have ya0 := HIn5.out.a.cell 0 _ rfl
          have ya1 := HIn5.out.a.cell 1 _ rfl
          have ya2 := HIn5.out.a.cell 2 _ rfl
          have yb0 := HIn5.out.b.cell 0 _ rfl
          have yb1 := HIn5.out.b.cell 1 _ rfl
          have yb2 := HIn5.out.b.cell 2 _ rfl
          have yc0 := HIn5.out.c.cell 0 _ rfl
          have yc1 := HIn5.out.c.cell 1 _ rfl
          have yc2 := HIn5.out.c.cell 2 _ rfl
          go_wp2_with fail
          refine Calls.mono (Hbc.out _) ?_
          rintro e wn6 ⟨rfl, hbn6⟩
          have HIn6 := hid_ (HIn5.out.next hbn6)
          clear hbn6 ya0 ya1 ya2 yb0 yb1 yb2 yc0 yc1 yc2
          have ya0 := HIn6.out.a.cell 0 _ rfl
          have ya1 := HIn6.out.a.cell 1 _ rfl
          have ya2 := HIn6.out.a.cell 2 _ rfl
          have yb0 := HIn6.out.b.cell 0 _ rfl
          have yb1 := HIn6.out.b.cell 1 _ rfl
          have yb2 := HIn6.out.b.cell 2 _ rfl
          have yc0 := HIn6.out.c.cell 0 _ rfl
          have yc1 := HIn6.out.c.cell 1 _ rfl
          have yc2 := HIn6.out.c.cell 2 _ rfl
          have HBn := hid_ HIn6.out.bel
          go_wp2_with fail
          refine Calls.mono (valive_any _) ?_
          rintro e wz ⟨rfl, hbz⟩
          have HBz := hid_ (HBn.out.trans (hbz.mono HBn.out.size))
          clear hbz
          go_wp2_with fail
          go_ret
          exact ⟨rfl, HBz.out⟩
        · skip
          go_enter Try.func15, Try.ntmps15
          go_wp2_with fail
          refine Calls.mono (Haa.out _) ?_
          rintro e wn1 ⟨rfl, hbn1⟩
          have HIn1 := hid_ (HIn0.out.next hbn1)
          clear hbn1
          have ya0 := HIn1.out.a.cell 0 _ rfl
          have ya1 := HIn1.out.a.cell 1 _ rfl
          have ya2 := HIn1.out.a.cell 2 _ rfl
          have yb0 := HIn1.out.b.cell 0 _ rfl
          have yb1 := HIn1.out.b.cell 1 _ rfl
          have yb2 := HIn1.out.b.cell 2 _ rfl
          have yc0 := HIn1.out.c.cell 0 _ rfl
          have yc1 := HIn1.out.c.cell 1 _ rfl
          have yc2 := HIn1.out.c.cell 2 _ rfl
          go_wp2_with fail
          refine Calls.mono (Hab.out _) ?_
          rintro e wn2 ⟨rfl, hbn2⟩
          have HIn2 := hid_ (HIn1.out.next hbn2)
          clear hbn2 ya0 ya1 ya2 yb0 yb1 yb2 yc0 yc1 yc2
          have ya0 := HIn2.out.a.cell 0 _ rfl
          have ya1 := HIn2.out.a.cell 1 _ rfl
          have ya2 := HIn2.out.a.cell 2 _ rfl
          have yb0 := HIn2.out.b.cell 0 _ rfl
          have yb1 := HIn2.out.b.cell 1 _ rfl
          have yb2 := HIn2.out.b.cell 2 _ rfl
          have yc0 := HIn2.out.c.cell 0 _ rfl
          have yc1 := HIn2.out.c.cell 1 _ rfl
          have yc2 := HIn2.out.c.cell 2 _ rfl
          go_wp2_with fail
          refine Calls.mono (Hba.out _) ?_
          rintro e wn3 ⟨rfl, hbn3⟩
          have HIn3 := hid_ (HIn2.out.next hbn3)
          clear hbn3 ya0 ya1 ya2 yb0 yb1 yb2 yc0 yc1 yc2
          have ya0 := HIn3.out.a.cell 0 _ rfl
          have ya1 := HIn3.out.a.cell 1 _ rfl
          have ya2 := HIn3.out.a.cell 2 _ rfl
          have yb0 := HIn3.out.b.cell 0 _ rfl
          have yb1 := HIn3.out.b.cell 1 _ rfl
          have yb2 := HIn3.out.b.cell 2 _ rfl
          have yc0 := HIn3.out.c.cell 0 _ rfl
          have yc1 := HIn3.out.c.cell 1 _ rfl
          have yc2 := HIn3.out.c.cell 2 _ rfl
          go_wp2_with fail
          refine Calls.mono (Hab.out _) ?_
          rintro e wn4 ⟨rfl, hbn4⟩
          have HIn4 := hid_ (HIn3.out.next hbn4)
          clear hbn4 ya0 ya1 ya2 yb0 yb1 yb2 yc0 yc1 yc2
          have ya0 := HIn4.out.a.cell 0 _ rfl
          have ya1 := HIn4.out.a.cell 1 _ rfl
          have ya2 := HIn4.out.a.cell 2 _ rfl
          have yb0 := HIn4.out.b.cell 0 _ rfl
          have yb1 := HIn4.out.b.cell 1 _ rfl
          have yb2 := HIn4.out.b.cell 2 _ rfl
          have yc0 := HIn4.out.c.cell 0 _ rfl
          have yc1 := HIn4.out.c.cell 1 _ rfl
          have yc2 := HIn4.out.c.cell 2 _ rfl
          go_wp2_with fail
          refine Calls.mono (Hab.out _) ?_
          rintro e wn5 ⟨rfl, hbn5⟩
          have HIn5 := hid_ (HIn4.out.next hbn5)
          clear hbn5 ya0 ya1 ya2 yb0 yb1 yb2 yc0 yc1 yc2
          have ya0 := HIn5.out.a.cell 0 _ rfl
          have ya1 := HIn5.out.a.cell 1 _ rfl
          have ya2 := HIn5.out.a.cell 2 _ rfl
          have yb0 := HIn5.out.b.cell 0 _ rfl
          have yb1 := HIn5.out.b.cell 1 _ rfl
          have yb2 := HIn5.out.b.cell 2 _ rfl
          have yc0 := HIn5.out.c.cell 0 _ rfl
          have yc1 := HIn5.out.c.cell 1 _ rfl
          have yc2 := HIn5.out.c.cell 2 _ rfl
          go_wp2_with fail
          refine Calls.mono (Hbc.out _) ?_
          rintro e wn6 ⟨rfl, hbn6⟩
          have HIn6 := hid_ (HIn5.out.next hbn6)
          clear hbn6 ya0 ya1 ya2 yb0 yb1 yb2 yc0 yc1 yc2
          have ya0 := HIn6.out.a.cell 0 _ rfl
          have ya1 := HIn6.out.a.cell 1 _ rfl
          have ya2 := HIn6.out.a.cell 2 _ rfl
          have yb0 := HIn6.out.b.cell 0 _ rfl
          have yb1 := HIn6.out.b.cell 1 _ rfl
          have yb2 := HIn6.out.b.cell 2 _ rfl
          have yc0 := HIn6.out.c.cell 0 _ rfl
          have yc1 := HIn6.out.c.cell 1 _ rfl
          have yc2 := HIn6.out.c.cell 2 _ rfl
          have HBn := hid_ HIn6.out.bel
          go_wp2_with fail
          refine Calls.mono (valive_any _) ?_
          rintro e wz ⟨rfl, hbz⟩
          have HBz := hid_ (HBn.out.trans (hbz.mono HBn.out.size))
          clear hbz
          go_wp2_with fail
          go_ret
          exact ⟨rfl, HBz.out⟩
      · cases z2
        rotate_left
        · exact absurd HZ.out.1 (by decide)
        · skip
          go_enter Try.func15, Try.ntmps15
          go_wp2_with fail
          refine Calls.mono (Haa.out _) ?_
          rintro e wn1 ⟨rfl, hbn1⟩
          have HIn1 := hid_ (HIn0.out.next hbn1)
          clear hbn1
          have ya0 := HIn1.out.a.cell 0 _ rfl
          have ya1 := HIn1.out.a.cell 1 _ rfl
          have ya2 := HIn1.out.a.cell 2 _ rfl
          have yb0 := HIn1.out.b.cell 0 _ rfl
          have yb1 := HIn1.out.b.cell 1 _ rfl
          have yb2 := HIn1.out.b.cell 2 _ rfl
          have yc0 := HIn1.out.c.cell 0 _ rfl
          have yc1 := HIn1.out.c.cell 1 _ rfl
          have yc2 := HIn1.out.c.cell 2 _ rfl
          go_wp2_with fail
          refine Calls.mono (Hab.out _) ?_
          rintro e wn2 ⟨rfl, hbn2⟩
          have HIn2 := hid_ (HIn1.out.next hbn2)
          clear hbn2 ya0 ya1 ya2 yb0 yb1 yb2 yc0 yc1 yc2
          have ya0 := HIn2.out.a.cell 0 _ rfl
          have ya1 := HIn2.out.a.cell 1 _ rfl
          have ya2 := HIn2.out.a.cell 2 _ rfl
          have yb0 := HIn2.out.b.cell 0 _ rfl
          have yb1 := HIn2.out.b.cell 1 _ rfl
          have yb2 := HIn2.out.b.cell 2 _ rfl
          have yc0 := HIn2.out.c.cell 0 _ rfl
          have yc1 := HIn2.out.c.cell 1 _ rfl
          have yc2 := HIn2.out.c.cell 2 _ rfl
          go_wp2_with fail
          refine Calls.mono (Hba.out _) ?_
          rintro e wn3 ⟨rfl, hbn3⟩
          have HIn3 := hid_ (HIn2.out.next hbn3)
          clear hbn3 ya0 ya1 ya2 yb0 yb1 yb2 yc0 yc1 yc2
          have ya0 := HIn3.out.a.cell 0 _ rfl
          have ya1 := HIn3.out.a.cell 1 _ rfl
          have ya2 := HIn3.out.a.cell 2 _ rfl
          have yb0 := HIn3.out.b.cell 0 _ rfl
          have yb1 := HIn3.out.b.cell 1 _ rfl
          have yb2 := HIn3.out.b.cell 2 _ rfl
          have yc0 := HIn3.out.c.cell 0 _ rfl
          have yc1 := HIn3.out.c.cell 1 _ rfl
          have yc2 := HIn3.out.c.cell 2 _ rfl
          go_wp2_with fail
          refine Calls.mono (Hab.out _) ?_
          rintro e wn4 ⟨rfl, hbn4⟩
          have HIn4 := hid_ (HIn3.out.next hbn4)
          clear hbn4 ya0 ya1 ya2 yb0 yb1 yb2 yc0 yc1 yc2
          have ya0 := HIn4.out.a.cell 0 _ rfl
          have ya1 := HIn4.out.a.cell 1 _ rfl
          have ya2 := HIn4.out.a.cell 2 _ rfl
          have yb0 := HIn4.out.b.cell 0 _ rfl
          have yb1 := HIn4.out.b.cell 1 _ rfl
          have yb2 := HIn4.out.b.cell 2 _ rfl
          have yc0 := HIn4.out.c.cell 0 _ rfl
          have yc1 := HIn4.out.c.cell 1 _ rfl
          have yc2 := HIn4.out.c.cell 2 _ rfl
          go_wp2_with fail
          refine Calls.mono (Hab.out _) ?_
          rintro e wn5 ⟨rfl, hbn5⟩
          have HIn5 := hid_ (HIn4.out.next hbn5)
          clear hbn5 ya0 ya1 ya2 yb0 yb1 yb2 yc0 yc1 yc2
          have ya0 := HIn5.out.a.cell 0 _ rfl
          have ya1 := HIn5.out.a.cell 1 _ rfl
          have ya2 := HIn5.out.a.cell 2 _ rfl
          have yb0 := HIn5.out.b.cell 0 _ rfl
          have yb1 := HIn5.out.b.cell 1 _ rfl
          have yb2 := HIn5.out.b.cell 2 _ rfl
          have yc0 := HIn5.out.c.cell 0 _ rfl
          have yc1 := HIn5.out.c.cell 1 _ rfl
          have yc2 := HIn5.out.c.cell 2 _ rfl
          go_wp2_with fail
          refine Calls.mono (Hbc.out _) ?_
          rintro e wn6 ⟨rfl, hbn6⟩
          have HIn6 := hid_ (HIn5.out.next hbn6)
          clear hbn6 ya0 ya1 ya2 yb0 yb1 yb2 yc0 yc1 yc2
          have ya0 := HIn6.out.a.cell 0 _ rfl
          have ya1 := HIn6.out.a.cell 1 _ rfl
          have ya2 := HIn6.out.a.cell 2 _ rfl
          have yb0 := HIn6.out.b.cell 0 _ rfl
          have yb1 := HIn6.out.b.cell 1 _ rfl
          have yb2 := HIn6.out.b.cell 2 _ rfl
          have yc0 := HIn6.out.c.cell 0 _ rfl
          have yc1 := HIn6.out.c.cell 1 _ rfl
          have yc2 := HIn6.out.c.cell 2 _ rfl
          have HBn := hid_ HIn6.out.bel
          go_wp2_with fail
          refine Calls.mono (valive_any _) ?_
          rintro e wz ⟨rfl, hbz⟩
          have HBz := hid_ (HBn.out.trans (hbz.mono HBn.out.size))
          clear hbz
          go_wp2_with fail
          go_ret
          exact ⟨rfl, HBz.out⟩
    · have hs := HOn.out rfl rfl
      subst hs
      cases z1
      · cases z2
        · skip
          go_enter Try.func15, Try.ntmps15
          go_wp2_with fail
          refine Calls.mono (Haa.out _) ?_
          rintro e wn1 ⟨rfl, hbn1⟩
          have HIn1 := hid_ (HIn0.out.next hbn1)
          clear hbn1
          have ya0 := HIn1.out.a.cell 0 _ rfl
          have ya1 := HIn1.out.a.cell 1 _ rfl
          have ya2 := HIn1.out.a.cell 2 _ rfl
          have yb0 := HIn1.out.b.cell 0 _ rfl
          have yb1 := HIn1.out.b.cell 1 _ rfl
          have yb2 := HIn1.out.b.cell 2 _ rfl
          have yc0 := HIn1.out.c.cell 0 _ rfl
          have yc1 := HIn1.out.c.cell 1 _ rfl
          have yc2 := HIn1.out.c.cell 2 _ rfl
          go_wp2_with fail
          refine Calls.mono (Hab.out _) ?_
          rintro e wn2 ⟨rfl, hbn2⟩
          have HIn2 := hid_ (HIn1.out.next hbn2)
          clear hbn2 ya0 ya1 ya2 yb0 yb1 yb2 yc0 yc1 yc2
          have ya0 := HIn2.out.a.cell 0 _ rfl
          have ya1 := HIn2.out.a.cell 1 _ rfl
          have ya2 := HIn2.out.a.cell 2 _ rfl
          have yb0 := HIn2.out.b.cell 0 _ rfl
          have yb1 := HIn2.out.b.cell 1 _ rfl
          have yb2 := HIn2.out.b.cell 2 _ rfl
          have yc0 := HIn2.out.c.cell 0 _ rfl
          have yc1 := HIn2.out.c.cell 1 _ rfl
          have yc2 := HIn2.out.c.cell 2 _ rfl
          go_wp2_with fail
          refine Calls.mono (Hba.out _) ?_
          rintro e wn3 ⟨rfl, hbn3⟩
          have HIn3 := hid_ (HIn2.out.next hbn3)
          clear hbn3 ya0 ya1 ya2 yb0 yb1 yb2 yc0 yc1 yc2
          have ya0 := HIn3.out.a.cell 0 _ rfl
          have ya1 := HIn3.out.a.cell 1 _ rfl
          have ya2 := HIn3.out.a.cell 2 _ rfl
          have yb0 := HIn3.out.b.cell 0 _ rfl
          have yb1 := HIn3.out.b.cell 1 _ rfl
          have yb2 := HIn3.out.b.cell 2 _ rfl
          have yc0 := HIn3.out.c.cell 0 _ rfl
          have yc1 := HIn3.out.c.cell 1 _ rfl
          have yc2 := HIn3.out.c.cell 2 _ rfl
          go_wp2_with fail
          refine Calls.mono (Hab.out _) ?_
          rintro e wn4 ⟨rfl, hbn4⟩
          have HIn4 := hid_ (HIn3.out.next hbn4)
          clear hbn4 ya0 ya1 ya2 yb0 yb1 yb2 yc0 yc1 yc2
          have ya0 := HIn4.out.a.cell 0 _ rfl
          have ya1 := HIn4.out.a.cell 1 _ rfl
          have ya2 := HIn4.out.a.cell 2 _ rfl
          have yb0 := HIn4.out.b.cell 0 _ rfl
          have yb1 := HIn4.out.b.cell 1 _ rfl
          have yb2 := HIn4.out.b.cell 2 _ rfl
          have yc0 := HIn4.out.c.cell 0 _ rfl
          have yc1 := HIn4.out.c.cell 1 _ rfl
          have yc2 := HIn4.out.c.cell 2 _ rfl
          go_wp2_with fail
          refine Calls.mono (Hab.out _) ?_
          rintro e wn5 ⟨rfl, hbn5⟩
          have HIn5 := hid_ (HIn4.out.next hbn5)
          clear hbn5 ya0 ya1 ya2 yb0 yb1 yb2 yc0 yc1 yc2
          have ya0 := HIn5.out.a.cell 0 _ rfl
          have ya1 := HIn5.out.a.cell 1 _ rfl
          have ya2 := HIn5.out.a.cell 2 _ rfl
          have yb0 := HIn5.out.b.cell 0 _ rfl
          have yb1 := HIn5.out.b.cell 1 _ rfl
          have yb2 := HIn5.out.b.cell 2 _ rfl
          have yc0 := HIn5.out.c.cell 0 _ rfl
          have yc1 := HIn5.out.c.cell 1 _ rfl
          have yc2 := HIn5.out.c.cell 2 _ rfl
          go_wp2_with fail
          refine Calls.mono (Hbc.out _) ?_
          rintro e wn6 ⟨rfl, hbn6⟩
          have HIn6 := hid_ (HIn5.out.next hbn6)
          clear hbn6 ya0 ya1 ya2 yb0 yb1 yb2 yc0 yc1 yc2
          have ya0 := HIn6.out.a.cell 0 _ rfl
          have ya1 := HIn6.out.a.cell 1 _ rfl
          have ya2 := HIn6.out.a.cell 2 _ rfl
          have yb0 := HIn6.out.b.cell 0 _ rfl
          have yb1 := HIn6.out.b.cell 1 _ rfl
          have yb2 := HIn6.out.b.cell 2 _ rfl
          have yc0 := HIn6.out.c.cell 0 _ rfl
          have yc1 := HIn6.out.c.cell 1 _ rfl
          have yc2 := HIn6.out.c.cell 2 _ rfl
          go_wp2_with fail
          refine Calls.mono (Hac.out _) ?_
          rintro e wn7 ⟨rfl, hbn7⟩
          have HIn7 := hid_ (HIn6.out.next hbn7)
          clear hbn7 ya0 ya1 ya2 yb0 yb1 yb2 yc0 yc1 yc2
          have ya0 := HIn7.out.a.cell 0 _ rfl
          have ya1 := HIn7.out.a.cell 1 _ rfl
          have ya2 := HIn7.out.a.cell 2 _ rfl
          have yb0 := HIn7.out.b.cell 0 _ rfl
          have yb1 := HIn7.out.b.cell 1 _ rfl
          have yb2 := HIn7.out.b.cell 2 _ rfl
          have yc0 := HIn7.out.c.cell 0 _ rfl
          have yc1 := HIn7.out.c.cell 1 _ rfl
          have yc2 := HIn7.out.c.cell 2 _ rfl
          have HBn := hid_ HIn7.out.bel
          go_wp2_with fail
          refine Calls.mono (valive_any _) ?_
          rintro e wz ⟨rfl, hbz⟩
          have HBz := hid_ (HBn.out.trans (hbz.mono HBn.out.size))
          clear hbz
          go_wp2_with fail
          go_ret
          exact ⟨rfl, HBz.out⟩
        · skip
          go_enter Try.func15, Try.ntmps15
          go_wp2_with fail
          refine Calls.mono (Haa.out _) ?_
          rintro e wn1 ⟨rfl, hbn1⟩
          have HIn1 := hid_ (HIn0.out.next hbn1)
          clear hbn1
          have ya0 := HIn1.out.a.cell 0 _ rfl
          have ya1 := HIn1.out.a.cell 1 _ rfl
          have ya2 := HIn1.out.a.cell 2 _ rfl
          have yb0 := HIn1.out.b.cell 0 _ rfl
          have yb1 := HIn1.out.b.cell 1 _ rfl
          have yb2 := HIn1.out.b.cell 2 _ rfl
          have yc0 := HIn1.out.c.cell 0 _ rfl
          have yc1 := HIn1.out.c.cell 1 _ rfl
          have yc2 := HIn1.out.c.cell 2 _ rfl
          go_wp2_with fail
          refine Calls.mono (Hab.out _) ?_
          rintro e wn2 ⟨rfl, hbn2⟩
          have HIn2 := hid_ (HIn1.out.next hbn2)
          clear hbn2 ya0 ya1 ya2 yb0 yb1 yb2 yc0 yc1 yc2
          have ya0 := HIn2.out.a.cell 0 _ rfl
          have ya1 := HIn2.out.a.cell 1 _ rfl
          have ya2 := HIn2.out.a.cell 2 _ rfl
          have yb0 := HIn2.out.b.cell 0 _ rfl
          have yb1 := HIn2.out.b.cell 1 _ rfl
          have yb2 := HIn2.out.b.cell 2 _ rfl
          have yc0 := HIn2.out.c.cell 0 _ rfl
          have yc1 := HIn2.out.c.cell 1 _ rfl
          have yc2 := HIn2.out.c.cell 2 _ rfl
          go_wp2_with fail
          refine Calls.mono (Hba.out _) ?_
          rintro e wn3 ⟨rfl, hbn3⟩
          have HIn3 := hid_ (HIn2.out.next hbn3)
          clear hbn3 ya0 ya1 ya2 yb0 yb1 yb2 yc0 yc1 yc2
          have ya0 := HIn3.out.a.cell 0 _ rfl
          have ya1 := HIn3.out.a.cell 1 _ rfl
          have ya2 := HIn3.out.a.cell 2 _ rfl
          have yb0 := HIn3.out.b.cell 0 _ rfl
          have yb1 := HIn3.out.b.cell 1 _ rfl
          have yb2 := HIn3.out.b.cell 2 _ rfl
          have yc0 := HIn3.out.c.cell 0 _ rfl
          have yc1 := HIn3.out.c.cell 1 _ rfl
          have yc2 := HIn3.out.c.cell 2 _ rfl
          go_wp2_with fail
          refine Calls.mono (Hab.out _) ?_
          rintro e wn4 ⟨rfl, hbn4⟩
          have HIn4 := hid_ (HIn3.out.next hbn4)
          clear hbn4 ya0 ya1 ya2 yb0 yb1 yb2 yc0 yc1 yc2
          have ya0 := HIn4.out.a.cell 0 _ rfl
          have ya1 := HIn4.out.a.cell 1 _ rfl
          have ya2 := HIn4.out.a.cell 2 _ rfl
          have yb0 := HIn4.out.b.cell 0 _ rfl
          have yb1 := HIn4.out.b.cell 1 _ rfl
          have yb2 := HIn4.out.b.cell 2 _ rfl
          have yc0 := HIn4.out.c.cell 0 _ rfl
          have yc1 := HIn4.out.c.cell 1 _ rfl
          have yc2 := HIn4.out.c.cell 2 _ rfl
          go_wp2_with fail
          refine Calls.mono (Hab.out _) ?_
          rintro e wn5 ⟨rfl, hbn5⟩
          have HIn5 := hid_ (HIn4.out.next hbn5)
          clear hbn5 ya0 ya1 ya2 yb0 yb1 yb2 yc0 yc1 yc2
          have ya0 := HIn5.out.a.cell 0 _ rfl
          have ya1 := HIn5.out.a.cell 1 _ rfl
          have ya2 := HIn5.out.a.cell 2 _ rfl
          have yb0 := HIn5.out.b.cell 0 _ rfl
          have yb1 := HIn5.out.b.cell 1 _ rfl
          have yb2 := HIn5.out.b.cell 2 _ rfl
          have yc0 := HIn5.out.c.cell 0 _ rfl
          have yc1 := HIn5.out.c.cell 1 _ rfl
          have yc2 := HIn5.out.c.cell 2 _ rfl
          go_wp2_with fail
          refine Calls.mono (Hbc.out _) ?_
          rintro e wn6 ⟨rfl, hbn6⟩
          have HIn6 := hid_ (HIn5.out.next hbn6)
          clear hbn6 ya0 ya1 ya2 yb0 yb1 yb2 yc0 yc1 yc2
          have ya0 := HIn6.out.a.cell 0 _ rfl
          have ya1 := HIn6.out.a.cell 1 _ rfl
          have ya2 := HIn6.out.a.cell 2 _ rfl
          have yb0 := HIn6.out.b.cell 0 _ rfl
          have yb1 := HIn6.out.b.cell 1 _ rfl
          have yb2 := HIn6.out.b.cell 2 _ rfl
          have yc0 := HIn6.out.c.cell 0 _ rfl
          have yc1 := HIn6.out.c.cell 1 _ rfl
          have yc2 := HIn6.out.c.cell 2 _ rfl
          go_wp2_with fail
          refine Calls.mono (Hac.out _) ?_
          rintro e wn7 ⟨rfl, hbn7⟩
          have HIn7 := hid_ (HIn6.out.next hbn7)
          clear hbn7 ya0 ya1 ya2 yb0 yb1 yb2 yc0 yc1 yc2
          have ya0 := HIn7.out.a.cell 0 _ rfl
          have ya1 := HIn7.out.a.cell 1 _ rfl
          have ya2 := HIn7.out.a.cell 2 _ rfl
          have yb0 := HIn7.out.b.cell 0 _ rfl
          have yb1 := HIn7.out.b.cell 1 _ rfl
          have yb2 := HIn7.out.b.cell 2 _ rfl
          have yc0 := HIn7.out.c.cell 0 _ rfl
          have yc1 := HIn7.out.c.cell 1 _ rfl
          have yc2 := HIn7.out.c.cell 2 _ rfl
          have HBn := hid_ HIn7.out.bel
          go_wp2_with fail
          refine Calls.mono (valive_any _) ?_
          rintro e wz ⟨rfl, hbz⟩
          have HBz := hid_ (HBn.out.trans (hbz.mono HBn.out.size))
          clear hbz
          go_wp2_with fail
          go_ret
          exact ⟨rfl, HBz.out⟩
      · cases z2
        rotate_left
        · exact absurd HZ.out.1 (by decide)
        · skip
          go_enter Try.func15, Try.ntmps15
          go_wp2_with fail
          refine Calls.mono (Haa.out _) ?_
          rintro e wn1 ⟨rfl, hbn1⟩
          have HIn1 := hid_ (HIn0.out.next hbn1)
          clear hbn1
          have ya0 := HIn1.out.a.cell 0 _ rfl
          have ya1 := HIn1.out.a.cell 1 _ rfl
          have ya2 := HIn1.out.a.cell 2 _ rfl
          have yb0 := HIn1.out.b.cell 0 _ rfl
          have yb1 := HIn1.out.b.cell 1 _ rfl
          have yb2 := HIn1.out.b.cell 2 _ rfl
          have yc0 := HIn1.out.c.cell 0 _ rfl
          have yc1 := HIn1.out.c.cell 1 _ rfl
          have yc2 := HIn1.out.c.cell 2 _ rfl
          go_wp2_with fail
          refine Calls.mono (Hab.out _) ?_
          rintro e wn2 ⟨rfl, hbn2⟩
          have HIn2 := hid_ (HIn1.out.next hbn2)
          clear hbn2 ya0 ya1 ya2 yb0 yb1 yb2 yc0 yc1 yc2
          have ya0 := HIn2.out.a.cell 0 _ rfl
          have ya1 := HIn2.out.a.cell 1 _ rfl
          have ya2 := HIn2.out.a.cell 2 _ rfl
          have yb0 := HIn2.out.b.cell 0 _ rfl
          have yb1 := HIn2.out.b.cell 1 _ rfl
          have yb2 := HIn2.out.b.cell 2 _ rfl
          have yc0 := HIn2.out.c.cell 0 _ rfl
          have yc1 := HIn2.out.c.cell 1 _ rfl
          have yc2 := HIn2.out.c.cell 2 _ rfl
          go_wp2_with fail
          refine Calls.mono (Hba.out _) ?_
          rintro e wn3 ⟨rfl, hbn3⟩
          have HIn3 := hid_ (HIn2.out.next hbn3)
          clear hbn3 ya0 ya1 ya2 yb0 yb1 yb2 yc0 yc1 yc2
          have ya0 := HIn3.out.a.cell 0 _ rfl
          have ya1 := HIn3.out.a.cell 1 _ rfl
          have ya2 := HIn3.out.a.cell 2 _ rfl
          have yb0 := HIn3.out.b.cell 0 _ rfl
          have yb1 := HIn3.out.b.cell 1 _ rfl
          have yb2 := HIn3.out.b.cell 2 _ rfl
          have yc0 := HIn3.out.c.cell 0 _ rfl
          have yc1 := HIn3.out.c.cell 1 _ rfl
          have yc2 := HIn3.out.c.cell 2 _ rfl
          go_wp2_with fail
          refine Calls.mono (Hab.out _) ?_
          rintro e wn4 ⟨rfl, hbn4⟩
          have HIn4 := hid_ (HIn3.out.next hbn4)
          clear hbn4 ya0 ya1 ya2 yb0 yb1 yb2 yc0 yc1 yc2
          have ya0 := HIn4.out.a.cell 0 _ rfl
          have ya1 := HIn4.out.a.cell 1 _ rfl
          have ya2 := HIn4.out.a.cell 2 _ rfl
          have yb0 := HIn4.out.b.cell 0 _ rfl
          have yb1 := HIn4.out.b.cell 1 _ rfl
          have yb2 := HIn4.out.b.cell 2 _ rfl
          have yc0 := HIn4.out.c.cell 0 _ rfl
          have yc1 := HIn4.out.c.cell 1 _ rfl
          have yc2 := HIn4.out.c.cell 2 _ rfl
          go_wp2_with fail
          refine Calls.mono (Hab.out _) ?_
          rintro e wn5 ⟨rfl, hbn5⟩
          have HIn5 := hid_ (HIn4.out.next hbn5)
          clear hbn5 ya0 ya1 ya2 yb0 yb1 yb2 yc0 yc1 yc2
          have ya0 := HIn5.out.a.cell 0 _ rfl
          have ya1 := HIn5.out.a.cell 1 _ rfl
          have ya2 := HIn5.out.a.cell 2 _ rfl
          have yb0 := HIn5.out.b.cell 0 _ rfl
          have yb1 := HIn5.out.b.cell 1 _ rfl
          have yb2 := HIn5.out.b.cell 2 _ rfl
          have yc0 := HIn5.out.c.cell 0 _ rfl
          have yc1 := HIn5.out.c.cell 1 _ rfl
          have yc2 := HIn5.out.c.cell 2 _ rfl
          go_wp2_with fail
          refine Calls.mono (Hbc.out _) ?_
          rintro e wn6 ⟨rfl, hbn6⟩
          have HIn6 := hid_ (HIn5.out.next hbn6)
          clear hbn6 ya0 ya1 ya2 yb0 yb1 yb2 yc0 yc1 yc2
          have ya0 := HIn6.out.a.cell 0 _ rfl
          have ya1 := HIn6.out.a.cell 1 _ rfl
          have ya2 := HIn6.out.a.cell 2 _ rfl
          have yb0 := HIn6.out.b.cell 0 _ rfl
          have yb1 := HIn6.out.b.cell 1 _ rfl
          have yb2 := HIn6.out.b.cell 2 _ rfl
          have yc0 := HIn6.out.c.cell 0 _ rfl
          have yc1 := HIn6.out.c.cell 1 _ rfl
          have yc2 := HIn6.out.c.cell 2 _ rfl
          go_wp2_with fail
          refine Calls.mono (Hac.out _) ?_
          rintro e wn7 ⟨rfl, hbn7⟩
          have HIn7 := hid_ (HIn6.out.next hbn7)
          clear hbn7 ya0 ya1 ya2 yb0 yb1 yb2 yc0 yc1 yc2
          have ya0 := HIn7.out.a.cell 0 _ rfl
          have ya1 := HIn7.out.a.cell 1 _ rfl
          have ya2 := HIn7.out.a.cell 2 _ rfl
          have yb0 := HIn7.out.b.cell 0 _ rfl
          have yb1 := HIn7.out.b.cell 1 _ rfl
          have yb2 := HIn7.out.b.cell 2 _ rfl
          have yc0 := HIn7.out.c.cell 0 _ rfl
          have yc1 := HIn7.out.c.cell 1 _ rfl
          have yc2 := HIn7.out.c.cell 2 _ rfl
          have HBn := hid_ HIn7.out.bel
          go_wp2_with fail
          refine Calls.mono (valive_any _) ?_
          rintro e wz ⟨rfl, hbz⟩
          have HBz := hid_ (HBn.out.trans (hbz.mono HBn.out.size))
          clear hbz
          go_wp2_with fail
          go_ret
          exact ⟨rfl, HBz.out⟩

set_option maxRecDepth 100000 in
theorem lifted (os : Os) (started : os.Started) (H : Type) (enc : TypeId × Value → H) :
    ReturnsInHanded {} Try.checked os 15 .any (Rows.viewNewerSpec.pre6 enc Try.prog Try.f15 Rows.viewNewerRow.domain false) (Rows.viewNewerSpec.post enc Try.prog Try.f15 false true false false) := by
  refine returnsInHanded_of_change (C := Try.checked) own started (by kernel_rfl) Try.func15
    (ChangeSpec.witness6 (enc := enc) (C := Try.checked) false ⟨#[], #[(.agg #[.int .u64 0, .int .u64 0, .int .i64 0]), (.agg #[.int .u64 0, .int .u64 0, .int .i64 0]), (.agg #[.int .u64 0, .int .u64 0, .int .i64 0])], []⟩ 8 (by kernel_rfl) (by kernel_rfl) (by kernel_rfl) (by kernel_rfl)) ?_
  intro W base args ds gs before hval0 hW hcnd _
  have hval : ∀ (j : Nat) t v, Try.f15.params[j]? = some t → args[j]? = some v → Value.okWide Try.prog W .any base t v := hval0
  have hW' := hW
  obtain ⟨p, q, hA0, hV, rfl, hfz, hnd⟩ := hW
  have hA : DataW.TrodAll enc Try.prog W 0 (fun _ => true) true Try.f15.params.toList args.toList ds p := hA0
  rw [Try.params15] at hA hval
  obtain ⟨v0, vs0, d0, ds0, p0, q0, hargs, rfl, rfl, h0, r0⟩ := trodAll_cons hA
  obtain ⟨v1, vs1, d1, ds1, p1, q1, rfl, rfl, rfl, h1, r1⟩ := trodAll_cons r0
  obtain ⟨v2, vs2, d2, ds2, p2, q2, rfl, rfl, rfl, h2, r2⟩ := trodAll_cons r1
  obtain ⟨rfl, rfl, rfl⟩ := trodAll_nil r2
  obtain rfl : args = #[v0, v1, v2] := by cases args; simp_all
  obtain ⟨rfl, rfl⟩ := trodVars_none hV
  have k0 := h0
  have lt0 : ∀ x ∈ p0, x.block < W.heap.size := by obtain ⟨m, hm⟩ := k0; exact DataW.trod_lt m _ _ _ hm
  have w0 : Vw.MemV W v0 := Vw.open_memV (hval 0 79 v0 rfl rfl) h0
  have k1 := h1
  have lt1 : ∀ x ∈ p1, x.block < W.heap.size := by obtain ⟨m, hm⟩ := k1; exact DataW.trod_lt m _ _ _ hm
  have w1 : Vw.MemV W v1 := Vw.open_memV (hval 1 79 v1 rfl rfl) h1
  have k2 := h2
  have lt2 : ∀ x ∈ p2, x.block < W.heap.size := by obtain ⟨m, hm⟩ := k2; exact DataW.trod_lt m _ _ _ hm
  have w2 : Vw.MemV W v2 := Vw.open_memV (hval 2 79 v2 rfl rfl) h2
  clear hA0 hval0
  refine (walk v0 v1 v2 W w0 w1 w2).mono fun e W' ⟨he, bel⟩ => ?_
  subst he
  exact ⟨_, rfl, _, _, _, [], _, [], hW', trodAll_mk1 (shut_bool Try.underlying4 _), (trodAll_cons_mk (Below.trod laidOut (by kernel_rfl) (of_decide_eq_true (by kernel_rfl)) k0 bel lt0) (trodAll_cons_mk (Below.trod laidOut (by kernel_rfl) (of_decide_eq_true (by kernel_rfl)) k1 bel lt1) (trodAll_cons_mk (Below.trod laidOut (by kernel_rfl) (of_decide_eq_true (by kernel_rfl)) k2 bel lt2) trodAll_mk0))), rfl, bel.frame _, fun h => by cases h⟩

theorem over : Rows.viewNewerRow.holds Try.pinned (OpenSpec.ofChange Rows.viewNewerSpec) :=
  OpenClaim.holds_of_wide 15 Try.f15 rfl rfl rfl rfl rfl rfl rfl ⟨rfl, rfl, rfl, rfl, rfl⟩ rfl rfl rfl rfl rfl (by kernel_rfl) Try.func15 (by kernel_rfl)
    (of_decide_eq_true (by kernel_rfl)) (by unfold Func.isWrapper; first | (rw [if_pos (by decide +kernel)]; kernel_rfl) | (rw [if_neg (by decide +kernel)]; exact ⟨rfl, rfl⟩))
    (fun os started H enc _ => lifted os started H enc)

theorem proved : Rows.ViewNewerSaid := over
#print axioms proved
end Go.Proofs.Yteoeghljoaiiiaa.viewNewer
