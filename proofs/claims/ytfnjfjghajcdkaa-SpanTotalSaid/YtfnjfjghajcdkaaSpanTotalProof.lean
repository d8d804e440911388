/-
  SpanTotal: of any three spans: of two of other times or Ids just one is below the other, none is below itself, and the order goes on; no condition on the input.
  The frame round the walk is written by the guide's own program for this statement.
-/
import Derived.Test.YtfnjfjghajcdkaaRows
import Derived.Test.YtfnjfjghajcdkaaSpLess
import Derived.WalkKit
import Derived.ProofKit
import Derived.OpenShut
import Derived.ShutString
import Derived.ChangeOld
import Derived.Below
namespace Go.Proofs.Ytfnjfjghajcdkaa.spanTotal
open Go.ChangeShapes Go.WideShapes Go.ChangeAt Go.RowKit
open Go.ChangeMaps (open_string shut_string)
set_option linter.unusedVariables false

theorem own : ownKnob Try.prog.godebug = none := by kernel_rfl
theorem laidOut : laidOutB Try.prog = true := by kernel_rfl

/-- WHAT THE WALK IS TOLD OF A SLICE OF INTEGERS THAT CAME IN: it is nil; or it leads to a row of 'cap' cells, the numbers 'zs' (the first 'len' are its elements, the rest its spare room), each fitting its kind. -/
def IsRow (k : IntKind) (w : World) (a : Option Addr) (len cap : Nat) (zs : List Int) : Prop :=
  (a = none ∧ len = 0 ∧ cap = 0 ∧ zs = []) ∨
  ∃ x, a = some x ∧ len ≤ cap ∧ cap ≤ maxLen ∧ zs.length = cap ∧ (∀ i, i < zs.length → w.cell? (x.add i) = some (.int k (zs.getD i 0))) ∧ ∀ n ∈ zs, (Lit.int k n).wf = true

open Ru
theorem less_self (a : SpanD) : lessF a a = false := by rw [less_eq rfl]; simp
theorem less_anti {a b : SpanD} (h : lessF a b = true) : lessF b a = false := by
  rcases Nat.lt_trichotomy a.start b.start with h1 | h1 | h1
  · exact less_gt h1
  · rw [less_eq h1] at h
    rw [less_eq h1.symm]
    have := of_decide_eq_true h
    exact decide_eq_false (by omega)
  · rw [less_gt h1] at h; cases h
theorem less_trans {a b c : SpanD} (h : lessF a b = true) (h2 : lessF b c = true) : lessF a c = true := by
  rcases Nat.lt_trichotomy a.start b.start with h1 | h1 | h1
  · rcases Nat.lt_trichotomy b.start c.start with h3 | h3 | h3
    · exact less_lt (by omega)
    · exact less_lt (by omega)
    · rw [less_gt h3] at h2; cases h2
  · rw [less_eq h1] at h
    have := of_decide_eq_true h
    rcases Nat.lt_trichotomy b.start c.start with h3 | h3 | h3
    · exact less_lt (by omega)
    · rw [less_eq h3] at h2
      have := of_decide_eq_true h2
      rw [less_eq (by omega)]
      exact decide_eq_true (by omega)
    · rw [less_gt h3] at h2; cases h2
  · rw [less_gt h1] at h; cases h
theorem less_ne {a b : SpanD} (h : lessF a b = true) : ¬ (a.start = b.start ∧ a.id = b.id) := by
  rintro ⟨h1, h2⟩
  rw [less_eq h1] at h
  have := of_decide_eq_true h
  omega
theorem less_both {a b : SpanD} (h : lessF a b = false) (h2 : lessF b a = false) : a.start = b.start ∧ a.id = b.id := by
  rcases Nat.lt_trichotomy a.start b.start with h1 | h1 | h1
  · rw [less_lt h1] at h; cases h
  · rw [less_eq h1] at h
    rw [less_eq h1.symm] at h2
    have := of_decide_eq_false h
    have := of_decide_eq_false h2
    exact ⟨h1, by omega⟩
  · rw [less_lt h1] at h2; cases h2
/-- The three spans' blocks stand, and all that was there when the call began. -/
def Three (w : World) (a b c : SpanD) (W : World) : Prop := Below w.heap.size w W ∧ Box W w.heap.size a ∧ Box W (w.heap.size + 1) b ∧ Box W (w.heap.size + 1 + 1) c
theorem Three.keep {w W W' : World} {a b c : SpanD} (h : Three w a b c W) (hb : Below W.heap.size W W') : Three w a b c W' := by
  obtain ⟨h0, h1, h2, h3⟩ := h
  exact ⟨h0.trans (hb.mono h0.size), h1.below hb (lt_of_cell h1.c0), h2.below hb (lt_of_cell h2.c0), h3.below hb (lt_of_cell h3.c0)⟩
theorem three_new (w : World) (a b c : SpanD) : Three w a b c (((w.alloc (.cells (spanCells a) 28)).alloc (.cells (spanCells b) 28)).alloc (.cells (spanCells c) 28)) := by
  have hb2 := (Below.refl (w.heap.size + 1) (w.alloc (.cells (spanCells a) 28))).alloc (by simp) (.cells (spanCells b) 28)
  have hb3 := (Below.refl (w.heap.size + 1 + 1) ((w.alloc (.cells (spanCells a) 28)).alloc (.cells (spanCells b) 28))).alloc (by simp) (.cells (spanCells c) 28)
  have b1 := ((box_new w a 28).below hb2 (by omega)).below hb3 (by omega)
  have b2 := box_new (w.alloc (.cells (spanCells a) 28)) b 28
  rw [show (w.alloc (.cells (spanCells a) 28)).heap.size = w.heap.size + 1 by simp] at b2
  have b2' := b2.below hb3 (by omega)
  have b3 := box_new ((w.alloc (.cells (spanCells a) 28)).alloc (.cells (spanCells b) 28)) c 28
  rw [show ((w.alloc (.cells (spanCells a) 28)).alloc (.cells (spanCells b) 28)).heap.size = w.heap.size + 1 + 1 by simp] at b3
  exact ⟨(((Below.refl _ _).alloc (Nat.le_refl _) _).alloc (by simp) _).alloc (by simp; omega) _, b1, b2', b3⟩
set_option maxHeartbeats 2000000 in
theorem walk (v0 : Value) (v1 : Value) (v2 : Value) (w : World) (w0 : SpanV w v0) (w1 : SpanV w v1) (w2 : SpanV w v2) :
    Calls Try.prog 11 #[v0, v1, v2] w fun e w' => e = .returned (.bool true) ∧ Below w.heap.size w w' := by
  obtain ⟨a, ha, rfl⟩ := w0
  obtain ⟨b, hb, rfl⟩ := w1
  obtain ⟨c, hc, rfl⟩ := w2
  clear ha hb hc
  have hal := hid_ (fun W => alive_any W)
  have T0 := hid_ (three_new w a b c)
  have Laa : Hid (∀ W, Calls Try.prog 22 #[spanVal a, spanVal a] W (BoolIs W false)) := hid_ (fun W => by have := less_any a a W; rwa [less_self] at this)
  have Lab : Hid (∀ v, lessF a b = v → ∀ W, Calls Try.prog 22 #[spanVal a, spanVal b] W (BoolIs W v)) := hid_ (fun v h W => by rw [← h]; exact less_any a b W)
  have Lba : Hid (∀ v, lessF b a = v → ∀ W, Calls Try.prog 22 #[spanVal b, spanVal a] W (BoolIs W v)) := hid_ (fun v h W => by rw [← h]; exact less_any b a W)
  have Lbc : Hid (∀ v, lessF b c = v → ∀ W, Calls Try.prog 22 #[spanVal b, spanVal c] W (BoolIs W v)) := hid_ (fun v h W => by rw [← h]; exact less_any b c W)
  have Lac : Hid (∀ v, lessF a c = v → ∀ W, Calls Try.prog 22 #[spanVal a, spanVal c] W (BoolIs W v)) := hid_ (fun v h W => by rw [← h]; exact less_any a c W)
  have Hne := hid_ (less_ne (a := a) (b := b))
  have Hne2 := hid_ (less_ne (a := b) (b := a))
  have Hboth := hid_ (less_both (a := a) (b := b))
  have Hanti := hid_ (less_anti (a := a) (b := b))
  have Htr := hid_ (less_trans (a := a) (b := b) (c := c))
  cases hab : lessF a b
  rotate_left
  · have Kab := hid_ hab
    have Kba := hid_ (Hanti.out hab)
    have hn := Hne.out hab
    clear hab
    by_cases hst : a.start = b.start
    · have hi : ((a.id : Int) == (b.id : Int)) = false := by rw [beq_eq_false_iff_ne]; intro e; exact hn ⟨hst, by omega⟩
      have hs1 : ((a.start : Int) == (b.start : Int)) = true := by rw [beq_iff_eq]; omega
      clear hst hn
      cases hbc : lessF b c
      · have Kbc := hid_ hbc
        clear hbc
        go_enter Try.func11, Try.ntmps11
        obtain ⟨_, ⟨x0, x1, x2, x3, x4, x5, x6, x7⟩, ⟨y0, y1, y2, y3, y4, y5, y6, y7⟩, ⟨z0, z1, z2, z3, z4, z5, z6, z7⟩⟩ := T0.out
        go_wp2_with fail
        refine Calls.mono (Laa.out _) ?_
        rintro e w' ⟨rfl, hb'⟩
        have T1 := hid_ (T0.out.keep hb')
        clear hb' x0 x1 x2 x3 x4 x5 x6 x7 y0 y1 y2 y3 y4 y5 y6 y7 z0 z1 z2 z3 z4 z5 z6 z7
        obtain ⟨_, ⟨x0, x1, x2, x3, x4, x5, x6, x7⟩, ⟨y0, y1, y2, y3, y4, y5, y6, y7⟩, ⟨z0, z1, z2, z3, z4, z5, z6, z7⟩⟩ := T1.out
        go_wp2_with fail
        refine Calls.mono (Lab.out true Kab.out _) ?_
        rintro e w' ⟨rfl, hb'⟩
        have T2 := hid_ (T1.out.keep hb')
        clear hb' x0 x1 x2 x3 x4 x5 x6 x7 y0 y1 y2 y3 y4 y5 y6 y7 z0 z1 z2 z3 z4 z5 z6 z7
        obtain ⟨_, ⟨x0, x1, x2, x3, x4, x5, x6, x7⟩, ⟨y0, y1, y2, y3, y4, y5, y6, y7⟩, ⟨z0, z1, z2, z3, z4, z5, z6, z7⟩⟩ := T2.out
        go_wp2_with fail
        refine Calls.mono (Lba.out false Kba.out _) ?_
        rintro e w' ⟨rfl, hb'⟩
        have T3 := hid_ (T2.out.keep hb')
        clear hb' x0 x1 x2 x3 x4 x5 x6 x7 y0 y1 y2 y3 y4 y5 y6 y7 z0 z1 z2 z3 z4 z5 z6 z7
        obtain ⟨_, ⟨x0, x1, x2, x3, x4, x5, x6, x7⟩, ⟨y0, y1, y2, y3, y4, y5, y6, y7⟩, ⟨z0, z1, z2, z3, z4, z5, z6, z7⟩⟩ := T3.out
        go_wp2_with fail
        refine Calls.mono (Lab.out true Kab.out _) ?_
        rintro e w' ⟨rfl, hb'⟩
        have T4 := hid_ (T3.out.keep hb')
        clear hb' x0 x1 x2 x3 x4 x5 x6 x7 y0 y1 y2 y3 y4 y5 y6 y7 z0 z1 z2 z3 z4 z5 z6 z7
        obtain ⟨_, ⟨x0, x1, x2, x3, x4, x5, x6, x7⟩, ⟨y0, y1, y2, y3, y4, y5, y6, y7⟩, ⟨z0, z1, z2, z3, z4, z5, z6, z7⟩⟩ := T4.out
        go_wp2_with fail
        refine Calls.mono (Lab.out true Kab.out _) ?_
        rintro e w' ⟨rfl, hb'⟩
        have T5 := hid_ (T4.out.keep hb')
        clear hb' x0 x1 x2 x3 x4 x5 x6 x7 y0 y1 y2 y3 y4 y5 y6 y7 z0 z1 z2 z3 z4 z5 z6 z7
        obtain ⟨_, ⟨x0, x1, x2, x3, x4, x5, x6, x7⟩, ⟨y0, y1, y2, y3, y4, y5, y6, y7⟩, ⟨z0, z1, z2, z3, z4, z5, z6, z7⟩⟩ := T5.out
        go_wp2_with fail
        refine Calls.mono (Lbc.out false Kbc.out _) ?_
        rintro e w' ⟨rfl, hb'⟩
        have T6 := hid_ (T5.out.keep hb')
        clear hb' x0 x1 x2 x3 x4 x5 x6 x7 y0 y1 y2 y3 y4 y5 y6 y7 z0 z1 z2 z3 z4 z5 z6 z7
        obtain ⟨_, ⟨x0, x1, x2, x3, x4, x5, x6, x7⟩, ⟨y0, y1, y2, y3, y4, y5, y6, y7⟩, ⟨z0, z1, z2, z3, z4, z5, z6, z7⟩⟩ := T6.out
        go_wp2_with fail
        refine Calls.mono (hal.out _) ?_
        rintro e w' ⟨rfl, hb'⟩
        have Tz := hid_ (T6.out.keep hb')
        clear hb' x0 x1 x2 x3 x4 x5 x6 x7 y0 y1 y2 y3 y4 y5 y6 y7 z0 z1 z2 z3 z4 z5 z6 z7
        go_wp2_with fail
        go_ret
        exact ⟨rfl, Tz.out.1⟩
      · have Kbc := hid_ hbc
        have Kac := hid_ (Htr.out Kab.out hbc)
        clear hbc
        go_enter Try.func11, Try.ntmps11
        obtain ⟨_, ⟨x0, x1, x2, x3, x4, x5, x6, x7⟩, ⟨y0, y1, y2, y3, y4, y5, y6, y7⟩, ⟨z0, z1, z2, z3, z4, z5, z6, z7⟩⟩ := T0.out
        go_wp2_with fail
        refine Calls.mono (Laa.out _) ?_
        rintro e w' ⟨rfl, hb'⟩
        have T7 := hid_ (T0.out.keep hb')
        clear hb' x0 x1 x2 x3 x4 x5 x6 x7 y0 y1 y2 y3 y4 y5 y6 y7 z0 z1 z2 z3 z4 z5 z6 z7
        obtain ⟨_, ⟨x0, x1, x2, x3, x4, x5, x6, x7⟩, ⟨y0, y1, y2, y3, y4, y5, y6, y7⟩, ⟨z0, z1, z2, z3, z4, z5, z6, z7⟩⟩ := T7.out
        go_wp2_with fail
        refine Calls.mono (Lab.out true Kab.out _) ?_
        rintro e w' ⟨rfl, hb'⟩
        have T8 := hid_ (T7.out.keep hb')
        clear hb' x0 x1 x2 x3 x4 x5 x6 x7 y0 y1 y2 y3 y4 y5 y6 y7 z0 z1 z2 z3 z4 z5 z6 z7
        obtain ⟨_, ⟨x0, x1, x2, x3, x4, x5, x6, x7⟩, ⟨y0, y1, y2, y3, y4, y5, y6, y7⟩, ⟨z0, z1, z2, z3, z4, z5, z6, z7⟩⟩ := T8.out
        go_wp2_with fail
        refine Calls.mono (Lba.out false Kba.out _) ?_
        rintro e w' ⟨rfl, hb'⟩
        have T9 := hid_ (T8.out.keep hb')
        clear hb' x0 x1 x2 x3 x4 x5 x6 x7 y0 y1 y2 y3 y4 y5 y6 y7 z0 z1 z2 z3 z4 z5 z6 z7
        obtain ⟨_, ⟨x0, x1, x2, x3, x4, x5, x6, x7⟩, ⟨y0, y1, y2, y3, y4, y5, y6, y7⟩, ⟨z0, z1, z2, z3, z4, z5, z6, z7⟩⟩ := T9.out
        go_wp2_with fail
        refine Calls.mono (Lab.out true Kab.out _) ?_
        rintro e w' ⟨rfl, hb'⟩
        have T10 := hid_ (T9.out.keep hb')
        clear hb' x0 x1 x2 x3 x4 x5 x6 x7 y0 y1 y2 y3 y4 y5 y6 y7 z0 z1 z2 z3 z4 z5 z6 z7
        obtain ⟨_, ⟨x0, x1, x2, x3, x4, x5, x6, x7⟩, ⟨y0, y1, y2, y3, y4, y5, y6, y7⟩, ⟨z0, z1, z2, z3, z4, z5, z6, z7⟩⟩ := T10.out
        go_wp2_with fail
        refine Calls.mono (Lab.out true Kab.out _) ?_
        rintro e w' ⟨rfl, hb'⟩
        have T11 := hid_ (T10.out.keep hb')
        clear hb' x0 x1 x2 x3 x4 x5 x6 x7 y0 y1 y2 y3 y4 y5 y6 y7 z0 z1 z2 z3 z4 z5 z6 z7
        obtain ⟨_, ⟨x0, x1, x2, x3, x4, x5, x6, x7⟩, ⟨y0, y1, y2, y3, y4, y5, y6, y7⟩, ⟨z0, z1, z2, z3, z4, z5, z6, z7⟩⟩ := T11.out
        go_wp2_with fail
        refine Calls.mono (Lbc.out true Kbc.out _) ?_
        rintro e w' ⟨rfl, hb'⟩
        have T12 := hid_ (T11.out.keep hb')
        clear hb' x0 x1 x2 x3 x4 x5 x6 x7 y0 y1 y2 y3 y4 y5 y6 y7 z0 z1 z2 z3 z4 z5 z6 z7
        obtain ⟨_, ⟨x0, x1, x2, x3, x4, x5, x6, x7⟩, ⟨y0, y1, y2, y3, y4, y5, y6, y7⟩, ⟨z0, z1, z2, z3, z4, z5, z6, z7⟩⟩ := T12.out
        go_wp2_with fail
        refine Calls.mono (Lac.out true Kac.out _) ?_
        rintro e w' ⟨rfl, hb'⟩
        have T13 := hid_ (T12.out.keep hb')
        clear hb' x0 x1 x2 x3 x4 x5 x6 x7 y0 y1 y2 y3 y4 y5 y6 y7 z0 z1 z2 z3 z4 z5 z6 z7
        obtain ⟨_, ⟨x0, x1, x2, x3, x4, x5, x6, x7⟩, ⟨y0, y1, y2, y3, y4, y5, y6, y7⟩, ⟨z0, z1, z2, z3, z4, z5, z6, z7⟩⟩ := T13.out
        go_wp2_with fail
        refine Calls.mono (hal.out _) ?_
        rintro e w' ⟨rfl, hb'⟩
        have Tz := hid_ (T13.out.keep hb')
        clear hb' x0 x1 x2 x3 x4 x5 x6 x7 y0 y1 y2 y3 y4 y5 y6 y7 z0 z1 z2 z3 z4 z5 z6 z7
        go_wp2_with fail
        go_ret
        exact ⟨rfl, Tz.out.1⟩
    · have hs1 : ((a.start : Int) == (b.start : Int)) = false := by rw [beq_eq_false_iff_ne]; omega
      clear hst hn
      cases hbc : lessF b c
      · have Kbc := hid_ hbc
        clear hbc
        go_enter Try.func11, Try.ntmps11
        obtain ⟨_, ⟨x0, x1, x2, x3, x4, x5, x6, x7⟩, ⟨y0, y1, y2, y3, y4, y5, y6, y7⟩, ⟨z0, z1, z2, z3, z4, z5, z6, z7⟩⟩ := T0.out
        go_wp2_with fail
        refine Calls.mono (Laa.out _) ?_
        rintro e w' ⟨rfl, hb'⟩
        have T14 := hid_ (T0.out.keep hb')
        clear hb' x0 x1 x2 x3 x4 x5 x6 x7 y0 y1 y2 y3 y4 y5 y6 y7 z0 z1 z2 z3 z4 z5 z6 z7
        obtain ⟨_, ⟨x0, x1, x2, x3, x4, x5, x6, x7⟩, ⟨y0, y1, y2, y3, y4, y5, y6, y7⟩, ⟨z0, z1, z2, z3, z4, z5, z6, z7⟩⟩ := T14.out
        go_wp2_with fail
        refine Calls.mono (Lab.out true Kab.out _) ?_
        rintro e w' ⟨rfl, hb'⟩
        have T15 := hid_ (T14.out.keep hb')
        clear hb' x0 x1 x2 x3 x4 x5 x6 x7 y0 y1 y2 y3 y4 y5 y6 y7 z0 z1 z2 z3 z4 z5 z6 z7
        obtain ⟨_, ⟨x0, x1, x2, x3, x4, x5, x6, x7⟩, ⟨y0, y1, y2, y3, y4, y5, y6, y7⟩, ⟨z0, z1, z2, z3, z4, z5, z6, z7⟩⟩ := T15.out
        go_wp2_with fail
        refine Calls.mono (Lba.out false Kba.out _) ?_
        rintro e w' ⟨rfl, hb'⟩
        have T16 := hid_ (T15.out.keep hb')
        clear hb' x0 x1 x2 x3 x4 x5 x6 x7 y0 y1 y2 y3 y4 y5 y6 y7 z0 z1 z2 z3 z4 z5 z6 z7
        obtain ⟨_, ⟨x0, x1, x2, x3, x4, x5, x6, x7⟩, ⟨y0, y1, y2, y3, y4, y5, y6, y7⟩, ⟨z0, z1, z2, z3, z4, z5, z6, z7⟩⟩ := T16.out
        go_wp2_with fail
        refine Calls.mono (Lab.out true Kab.out _) ?_
        rintro e w' ⟨rfl, hb'⟩
        have T17 := hid_ (T16.out.keep hb')
        clear hb' x0 x1 x2 x3 x4 x5 x6 x7 y0 y1 y2 y3 y4 y5 y6 y7 z0 z1 z2 z3 z4 z5 z6 z7
        obtain ⟨_, ⟨x0, x1, x2, x3, x4, x5, x6, x7⟩, ⟨y0, y1, y2, y3, y4, y5, y6, y7⟩, ⟨z0, z1, z2, z3, z4, z5, z6, z7⟩⟩ := T17.out
        go_wp2_with fail
        refine Calls.mono (Lab.out true Kab.out _) ?_
        rintro e w' ⟨rfl, hb'⟩
        have T18 := hid_ (T17.out.keep hb')
        clear hb' x0 x1 x2 x3 x4 x5 x6 x7 y0 y1 y2 y3 y4 y5 y6 y7 z0 z1 z2 z3 z4 z5 z6 z7
        obtain ⟨_, ⟨x0, x1, x2, x3, x4, x5, x6, x7⟩, ⟨y0, y1, y2, y3, y4, y5, y6, y7⟩, ⟨z0, z1, z2, z3, z4, z5, z6, z7⟩⟩ := T18.out
        go_wp2_with fail
        refine Calls.mono (Lbc.out false Kbc.out _) ?_
        rintro e w' ⟨rfl, hb'⟩
        have T19 := hid_ (T18.out.keep hb')
        clear hb' x0 x1 x2 x3 x4 x5 x6 x7 y0 y1 y2 y3 y4 y5 y6 y7 z0 z1 z2 z3 z4 z5 z6 z7
        obtain ⟨_, ⟨x0, x1, x2, x3, x4, x5, x6, x7⟩, ⟨y0, y1, y2, y3, y4, y5, y6, y7⟩, ⟨z0, z1, z2, z3, z4, z5, z6, z7⟩⟩ := T19.out
        go_wp2_with fail
        refine Calls.mono (hal.out _) ?_
        rintro e w' ⟨rfl, hb'⟩
        have Tz := hid_ (T19.out.keep hb')
        clear hb' x0 x1 x2 x3 x4 x5 x6 x7 y0 y1 y2 y3 y4 y5 y6 y7 z0 z1 z2 z3 z4 z5 z6 z7
        go_wp2_with fail
        go_ret
        exact ⟨rfl, Tz.out.1⟩
      · have Kbc := hid_ hbc
        have Kac := hid_ (Htr.out Kab.out hbc)
        clear hbc
        go_enter Try.func11, Try.ntmps11
        obtain ⟨_, ⟨x0, x1, x2, x3, x4, x5, x6, x7⟩, ⟨y0, y1, y2, y3, y4, y5, y6, y7⟩, ⟨z0, z1, z2, z3, z4, z5, z6, z7⟩⟩ := T0.out
        go_wp2_with fail
        refine Calls.mono (Laa.out _) ?_
        rintro e w' ⟨rfl, hb'⟩
        have T20 := hid_ (T0.out.keep hb')
        clear hb' x0 x1 x2 x3 x4 x5 x6 x7 y0 y1 y2 y3 y4 y5 y6 y7 z0 z1 z2 z3 z4 z5 z6 z7
        obtain ⟨_, ⟨x0, x1, x2, x3, x4, x5, x6, x7⟩, ⟨y0, y1, y2, y3, y4, y5, y6, y7⟩, ⟨z0, z1, z2, z3, z4, z5, z6, z7⟩⟩ := T20.out
        go_wp2_with fail
        refine Calls.mono (Lab.out true Kab.out _) ?_
        rintro e w' ⟨rfl, hb'⟩
        have T21 := hid_ (T20.out.keep hb')
        clear hb' x0 x1 x2 x3 x4 x5 x6 x7 y0 y1 y2 y3 y4 y5 y6 y7 z0 z1 z2 z3 z4 z5 z6 z7
        obtain ⟨_, ⟨x0, x1, x2, x3, x4, x5, x6, x7⟩, ⟨y0, y1, y2, y3, y4, y5, y6, y7⟩, ⟨z0, z1, z2, z3, z4, z5, z6, z7⟩⟩ := T21.out
        go_wp2_with fail
        refine Calls.mono (Lba.out false Kba.out _) ?_
        rintro e w' ⟨rfl, hb'⟩
        have T22 := hid_ (T21.out.keep hb')
        clear hb' x0 x1 x2 x3 x4 x5 x6 x7 y0 y1 y2 y3 y4 y5 y6 y7 z0 z1 z2 z3 z4 z5 z6 z7
        obtain ⟨_, ⟨x0, x1, x2, x3, x4, x5, x6, x7⟩, ⟨y0, y1, y2, y3, y4, y5, y6, y7⟩, ⟨z0, z1, z2, z3, z4, z5, z6, z7⟩⟩ := T22.out
        go_wp2_with fail
        refine Calls.mono (Lab.out true Kab.out _) ?_
        rintro e w' ⟨rfl, hb'⟩
        have T23 := hid_ (T22.out.keep hb')
        clear hb' x0 x1 x2 x3 x4 x5 x6 x7 y0 y1 y2 y3 y4 y5 y6 y7 z0 z1 z2 z3 z4 z5 z6 z7
        obtain ⟨_, ⟨x0, x1, x2, x3, x4, x5, x6, x7⟩, ⟨y0, y1, y2, y3, y4, y5, y6, y7⟩, ⟨z0, z1, z2, z3, z4, z5, z6, z7⟩⟩ := T23.out
        go_wp2_with fail
        refine Calls.mono (Lab.out true Kab.out _) ?_
        rintro e w' ⟨rfl, hb'⟩
        have T24 := hid_ (T23.out.keep hb')
        clear hb' x0 x1 x2 x3 x4 x5 x6 x7 y0 y1 y2 y3 y4 y5 y6 y7 z0 z1 z2 z3 z4 z5 z6 z7
        obtain ⟨_, ⟨x0, x1, x2, x3, x4, x5, x6, x7⟩, ⟨y0, y1, y2, y3, y4, y5, y6, y7⟩, ⟨z0, z1, z2, z3, z4, z5, z6, z7⟩⟩ := T24.out
        go_wp2_with fail
        refine Calls.mono (Lbc.out true Kbc.out _) ?_
        rintro e w' ⟨rfl, hb'⟩
        have T25 := hid_ (T24.out.keep hb')
        clear hb' x0 x1 x2 x3 x4 x5 x6 x7 y0 y1 y2 y3 y4 y5 y6 y7 z0 z1 z2 z3 z4 z5 z6 z7
        obtain ⟨_, ⟨x0, x1, x2, x3, x4, x5, x6, x7⟩, ⟨y0, y1, y2, y3, y4, y5, y6, y7⟩, ⟨z0, z1, z2, z3, z4, z5, z6, z7⟩⟩ := T25.out
        go_wp2_with fail
        refine Calls.mono (Lac.out true Kac.out _) ?_
        rintro e w' ⟨rfl, hb'⟩
        have T26 := hid_ (T25.out.keep hb')
        clear hb' x0 x1 x2 x3 x4 x5 x6 x7 y0 y1 y2 y3 y4 y5 y6 y7 z0 z1 z2 z3 z4 z5 z6 z7
        obtain ⟨_, ⟨x0, x1, x2, x3, x4, x5, x6, x7⟩, ⟨y0, y1, y2, y3, y4, y5, y6, y7⟩, ⟨z0, z1, z2, z3, z4, z5, z6, z7⟩⟩ := T26.out
        go_wp2_with fail
        refine Calls.mono (hal.out _) ?_
        rintro e w' ⟨rfl, hb'⟩
        have Tz := hid_ (T26.out.keep hb')
        clear hb' x0 x1 x2 x3 x4 x5 x6 x7 y0 y1 y2 y3 y4 y5 y6 y7 z0 z1 z2 z3 z4 z5 z6 z7
        go_wp2_with fail
        go_ret
        exact ⟨rfl, Tz.out.1⟩
  · have Kab := hid_ hab
    cases hba : lessF b a
    rotate_left
    · have Kba := hid_ hba
      have hn : ¬ (a.start = b.start ∧ a.id = b.id) := fun h => Hne2.out hba ⟨h.1.symm, h.2.symm⟩
      clear hab hba
      by_cases hst : a.start = b.start
      · have hi : ((a.id : Int) == (b.id : Int)) = false := by rw [beq_eq_false_iff_ne]; intro e; exact hn ⟨hst, by omega⟩
        have hs1 : ((a.start : Int) == (b.start : Int)) = true := by rw [beq_iff_eq]; omega
        clear hst hn
        go_enter Try.func11, Try.ntmps11
        obtain ⟨_, ⟨x0, x1, x2, x3, x4, x5, x6, x7⟩, ⟨y0, y1, y2, y3, y4, y5, y6, y7⟩, ⟨z0, z1, z2, z3, z4, z5, z6, z7⟩⟩ := T0.out
        go_wp2_with fail
        refine Calls.mono (Laa.out _) ?_
        rintro e w' ⟨rfl, hb'⟩
        have T27 := hid_ (T0.out.keep hb')
        clear hb' x0 x1 x2 x3 x4 x5 x6 x7 y0 y1 y2 y3 y4 y5 y6 y7 z0 z1 z2 z3 z4 z5 z6 z7
        obtain ⟨_, ⟨x0, x1, x2, x3, x4, x5, x6, x7⟩, ⟨y0, y1, y2, y3, y4, y5, y6, y7⟩, ⟨z0, z1, z2, z3, z4, z5, z6, z7⟩⟩ := T27.out
        go_wp2_with fail
        refine Calls.mono (Lab.out false Kab.out _) ?_
        rintro e w' ⟨rfl, hb'⟩
        have T28 := hid_ (T27.out.keep hb')
        clear hb' x0 x1 x2 x3 x4 x5 x6 x7 y0 y1 y2 y3 y4 y5 y6 y7 z0 z1 z2 z3 z4 z5 z6 z7
        obtain ⟨_, ⟨x0, x1, x2, x3, x4, x5, x6, x7⟩, ⟨y0, y1, y2, y3, y4, y5, y6, y7⟩, ⟨z0, z1, z2, z3, z4, z5, z6, z7⟩⟩ := T28.out
        go_wp2_with fail
        refine Calls.mono (Lab.out false Kab.out _) ?_
        rintro e w' ⟨rfl, hb'⟩
        have T29 := hid_ (T28.out.keep hb')
        clear hb' x0 x1 x2 x3 x4 x5 x6 x7 y0 y1 y2 y3 y4 y5 y6 y7 z0 z1 z2 z3 z4 z5 z6 z7
        obtain ⟨_, ⟨x0, x1, x2, x3, x4, x5, x6, x7⟩, ⟨y0, y1, y2, y3, y4, y5, y6, y7⟩, ⟨z0, z1, z2, z3, z4, z5, z6, z7⟩⟩ := T29.out
        go_wp2_with fail
        refine Calls.mono (Lba.out true Kba.out _) ?_
        rintro e w' ⟨rfl, hb'⟩
        have T30 := hid_ (T29.out.keep hb')
        clear hb' x0 x1 x2 x3 x4 x5 x6 x7 y0 y1 y2 y3 y4 y5 y6 y7 z0 z1 z2 z3 z4 z5 z6 z7
        obtain ⟨_, ⟨x0, x1, x2, x3, x4, x5, x6, x7⟩, ⟨y0, y1, y2, y3, y4, y5, y6, y7⟩, ⟨z0, z1, z2, z3, z4, z5, z6, z7⟩⟩ := T30.out
        go_wp2_with fail
        refine Calls.mono (Lab.out false Kab.out _) ?_
        rintro e w' ⟨rfl, hb'⟩
        have T31 := hid_ (T30.out.keep hb')
        clear hb' x0 x1 x2 x3 x4 x5 x6 x7 y0 y1 y2 y3 y4 y5 y6 y7 z0 z1 z2 z3 z4 z5 z6 z7
        obtain ⟨_, ⟨x0, x1, x2, x3, x4, x5, x6, x7⟩, ⟨y0, y1, y2, y3, y4, y5, y6, y7⟩, ⟨z0, z1, z2, z3, z4, z5, z6, z7⟩⟩ := T31.out
        go_wp2_with fail
        refine Calls.mono (hal.out _) ?_
        rintro e w' ⟨rfl, hb'⟩
        have Tz := hid_ (T31.out.keep hb')
        clear hb' x0 x1 x2 x3 x4 x5 x6 x7 y0 y1 y2 y3 y4 y5 y6 y7 z0 z1 z2 z3 z4 z5 z6 z7
        go_wp2_with fail
        go_ret
        exact ⟨rfl, Tz.out.1⟩
      · have hs1 : ((a.start : Int) == (b.start : Int)) = false := by rw [beq_eq_false_iff_ne]; omega
        clear hst hn
        go_enter Try.func11, Try.ntmps11
        obtain ⟨_, ⟨x0, x1, x2, x3, x4, x5, x6, x7⟩, ⟨y0, y1, y2, y3, y4, y5, y6, y7⟩, ⟨z0, z1, z2, z3, z4, z5, z6, z7⟩⟩ := T0.out
        go_wp2_with fail
        refine Calls.mono (Laa.out _) ?_
        rintro e w' ⟨rfl, hb'⟩
        have T32 := hid_ (T0.out.keep hb')
        clear hb' x0 x1 x2 x3 x4 x5 x6 x7 y0 y1 y2 y3 y4 y5 y6 y7 z0 z1 z2 z3 z4 z5 z6 z7
        obtain ⟨_, ⟨x0, x1, x2, x3, x4, x5, x6, x7⟩, ⟨y0, y1, y2, y3, y4, y5, y6, y7⟩, ⟨z0, z1, z2, z3, z4, z5, z6, z7⟩⟩ := T32.out
        go_wp2_with fail
        refine Calls.mono (Lab.out false Kab.out _) ?_
        rintro e w' ⟨rfl, hb'⟩
        have T33 := hid_ (T32.out.keep hb')
        clear hb' x0 x1 x2 x3 x4 x5 x6 x7 y0 y1 y2 y3 y4 y5 y6 y7 z0 z1 z2 z3 z4 z5 z6 z7
        obtain ⟨_, ⟨x0, x1, x2, x3, x4, x5, x6, x7⟩, ⟨y0, y1, y2, y3, y4, y5, y6, y7⟩, ⟨z0, z1, z2, z3, z4, z5, z6, z7⟩⟩ := T33.out
        go_wp2_with fail
        refine Calls.mono (Lab.out false Kab.out _) ?_
        rintro e w' ⟨rfl, hb'⟩
        have T34 := hid_ (T33.out.keep hb')
        clear hb' x0 x1 x2 x3 x4 x5 x6 x7 y0 y1 y2 y3 y4 y5 y6 y7 z0 z1 z2 z3 z4 z5 z6 z7
        obtain ⟨_, ⟨x0, x1, x2, x3, x4, x5, x6, x7⟩, ⟨y0, y1, y2, y3, y4, y5, y6, y7⟩, ⟨z0, z1, z2, z3, z4, z5, z6, z7⟩⟩ := T34.out
        go_wp2_with fail
        refine Calls.mono (Lba.out true Kba.out _) ?_
        rintro e w' ⟨rfl, hb'⟩
        have T35 := hid_ (T34.out.keep hb')
        clear hb' x0 x1 x2 x3 x4 x5 x6 x7 y0 y1 y2 y3 y4 y5 y6 y7 z0 z1 z2 z3 z4 z5 z6 z7
        obtain ⟨_, ⟨x0, x1, x2, x3, x4, x5, x6, x7⟩, ⟨y0, y1, y2, y3, y4, y5, y6, y7⟩, ⟨z0, z1, z2, z3, z4, z5, z6, z7⟩⟩ := T35.out
        go_wp2_with fail
        refine Calls.mono (Lab.out false Kab.out _) ?_
        rintro e w' ⟨rfl, hb'⟩
        have T36 := hid_ (T35.out.keep hb')
        clear hb' x0 x1 x2 x3 x4 x5 x6 x7 y0 y1 y2 y3 y4 y5 y6 y7 z0 z1 z2 z3 z4 z5 z6 z7
        obtain ⟨_, ⟨x0, x1, x2, x3, x4, x5, x6, x7⟩, ⟨y0, y1, y2, y3, y4, y5, y6, y7⟩, ⟨z0, z1, z2, z3, z4, z5, z6, z7⟩⟩ := T36.out
        go_wp2_with fail
        refine Calls.mono (hal.out _) ?_
        rintro e w' ⟨rfl, hb'⟩
        have Tz := hid_ (T36.out.keep hb')
        clear hb' x0 x1 x2 x3 x4 x5 x6 x7 y0 y1 y2 y3 y4 y5 y6 y7 z0 z1 z2 z3 z4 z5 z6 z7
        go_wp2_with fail
        go_ret
        exact ⟨rfl, Tz.out.1⟩
    · have Kba := hid_ hba
      have hn := Hboth.out hab hba
      clear hab hba
      obtain ⟨hst, hid⟩ := hn
      have hi : ((a.id : Int) == (b.id : Int)) = true := by rw [beq_iff_eq]; omega
      have hs1 : ((a.start : Int) == (b.start : Int)) = true := by rw [beq_iff_eq]; omega
      clear hst hid
      go_enter Try.func11, Try.ntmps11
      obtain ⟨_, ⟨x0, x1, x2, x3, x4, x5, x6, x7⟩, ⟨y0, y1, y2, y3, y4, y5, y6, y7⟩, ⟨z0, z1, z2, z3, z4, z5, z6, z7⟩⟩ := T0.out
      go_wp2_with fail
      refine Calls.mono (Laa.out _) ?_
      rintro e w' ⟨rfl, hb'⟩
      have T37 := hid_ (T0.out.keep hb')
      clear hb' x0 x1 x2 x3 x4 x5 x6 x7 y0 y1 y2 y3 y4 y5 y6 y7 z0 z1 z2 z3 z4 z5 z6 z7
      obtain ⟨_, ⟨x0, x1, x2, x3, x4, x5, x6, x7⟩, ⟨y0, y1, y2, y3, y4, y5, y6, y7⟩, ⟨z0, z1, z2, z3, z4, z5, z6, z7⟩⟩ := T37.out
      go_wp2_with fail
      refine Calls.mono (Lab.out false Kab.out _) ?_
      rintro e w' ⟨rfl, hb'⟩
      have T38 := hid_ (T37.out.keep hb')
      clear hb' x0 x1 x2 x3 x4 x5 x6 x7 y0 y1 y2 y3 y4 y5 y6 y7 z0 z1 z2 z3 z4 z5 z6 z7
      obtain ⟨_, ⟨x0, x1, x2, x3, x4, x5, x6, x7⟩, ⟨y0, y1, y2, y3, y4, y5, y6, y7⟩, ⟨z0, z1, z2, z3, z4, z5, z6, z7⟩⟩ := T38.out
      go_wp2_with fail
      refine Calls.mono (Lab.out false Kab.out _) ?_
      rintro e w' ⟨rfl, hb'⟩
      have T39 := hid_ (T38.out.keep hb')
      clear hb' x0 x1 x2 x3 x4 x5 x6 x7 y0 y1 y2 y3 y4 y5 y6 y7 z0 z1 z2 z3 z4 z5 z6 z7
      obtain ⟨_, ⟨x0, x1, x2, x3, x4, x5, x6, x7⟩, ⟨y0, y1, y2, y3, y4, y5, y6, y7⟩, ⟨z0, z1, z2, z3, z4, z5, z6, z7⟩⟩ := T39.out
      go_wp2_with fail
      refine Calls.mono (Lba.out false Kba.out _) ?_
      rintro e w' ⟨rfl, hb'⟩
      have T40 := hid_ (T39.out.keep hb')
      clear hb' x0 x1 x2 x3 x4 x5 x6 x7 y0 y1 y2 y3 y4 y5 y6 y7 z0 z1 z2 z3 z4 z5 z6 z7
      obtain ⟨_, ⟨x0, x1, x2, x3, x4, x5, x6, x7⟩, ⟨y0, y1, y2, y3, y4, y5, y6, y7⟩, ⟨z0, z1, z2, z3, z4, z5, z6, z7⟩⟩ := T40.out
      go_wp2_with fail
      refine Calls.mono (Lab.out false Kab.out _) ?_
      rintro e w' ⟨rfl, hb'⟩
      have T41 := hid_ (T40.out.keep hb')
      clear hb' x0 x1 x2 x3 x4 x5 x6 x7 y0 y1 y2 y3 y4 y5 y6 y7 z0 z1 z2 z3 z4 z5 z6 z7
      obtain ⟨_, ⟨x0, x1, x2, x3, x4, x5, x6, x7⟩, ⟨y0, y1, y2, y3, y4, y5, y6, y7⟩, ⟨z0, z1, z2, z3, z4, z5, z6, z7⟩⟩ := T41.out
      go_wp2_with fail
      refine Calls.mono (hal.out _) ?_
      rintro e w' ⟨rfl, hb'⟩
      have Tz := hid_ (T41.out.keep hb')
      clear hb' x0 x1 x2 x3 x4 x5 x6 x7 y0 y1 y2 y3 y4 y5 y6 y7 z0 z1 z2 z3 z4 z5 z6 z7
      go_wp2_with fail
      go_ret
      exact ⟨rfl, Tz.out.1⟩

set_option maxRecDepth 100000 in
theorem lifted (os : Os) (started : os.Started) (H : Type) (enc : TypeId × Value → H) :
    ReturnsInHanded {} Try.checked os 11 .any (Rows.spanTotalSpec.pre6 enc Try.prog Try.f11 Rows.spanTotalRow.domain false) (Rows.spanTotalSpec.post enc Try.prog Try.f11 false true false false) := by
  refine returnsInHanded_of_change (C := Try.checked) own started (by kernel_rfl) Try.func11
    (ChangeSpec.witness6 (enc := enc) (C := Try.checked) false ⟨#[], #[(.agg #[.int .u64 0, .int .u64 0, .int .u64 0, .int .u64 0, .int .u64 0, .string ⟨#[]⟩, .string ⟨#[]⟩, .bool false]), (.agg #[.int .u64 0, .int .u64 0, .int .u64 0, .int .u64 0, .int .u64 0, .string ⟨#[]⟩, .string ⟨#[]⟩, .bool false]), (.agg #[.int .u64 0, .int .u64 0, .int .u64 0, .int .u64 0, .int .u64 0, .string ⟨#[]⟩, .string ⟨#[]⟩, .bool false])], []⟩ 8 (by kernel_rfl) (by kernel_rfl) (by kernel_rfl) (by kernel_rfl)) ?_
  intro W base args ds gs before hval0 hW hcnd _
  have hval : ∀ (j : Nat) t v, Try.f11.params[j]? = some t → args[j]? = some v → Value.okWide Try.prog W .any base t v := hval0
  have hW' := hW
  obtain ⟨p, q, hA0, hV, rfl, hfz, hnd⟩ := hW
  have hA : DataW.TrodAll enc Try.prog W 0 (fun _ => true) true Try.f11.params.toList args.toList ds p := hA0
  rw [Try.params11] at hA hval
  obtain ⟨v0, vs0, d0, ds0, p0, q0, hargs, rfl, rfl, h0, r0⟩ := trodAll_cons hA
  obtain ⟨v1, vs1, d1, ds1, p1, q1, rfl, rfl, rfl, h1, r1⟩ := trodAll_cons r0
  obtain ⟨v2, vs2, d2, ds2, p2, q2, rfl, rfl, rfl, h2, r2⟩ := trodAll_cons r1
  obtain ⟨rfl, rfl, rfl⟩ := trodAll_nil r2
  obtain rfl : args = #[v0, v1, v2] := by cases args; simp_all
  obtain ⟨rfl, rfl⟩ := trodVars_none hV
  have k0 := h0
  have lt0 : ∀ x ∈ p0, x.block < W.heap.size := by obtain ⟨m, hm⟩ := k0; exact DataW.trod_lt m _ _ _ hm
  have w0 : SpanV W v0 := open_spanV (hval 0 28 v0 rfl rfl) h0
  have k1 := h1
  have lt1 : ∀ x ∈ p1, x.block < W.heap.size := by obtain ⟨m, hm⟩ := k1; exact DataW.trod_lt m _ _ _ hm
  have w1 : SpanV W v1 := open_spanV (hval 1 28 v1 rfl rfl) h1
  have k2 := h2
  have lt2 : ∀ x ∈ p2, x.block < W.heap.size := by obtain ⟨m, hm⟩ := k2; exact DataW.trod_lt m _ _ _ hm
  have w2 : SpanV W v2 := open_spanV (hval 2 28 v2 rfl rfl) h2
  clear hA0 hval0
  refine (walk v0 v1 v2 W w0 w1 w2).mono fun e W' ⟨he, bel⟩ => ?_
  subst he
  exact ⟨_, rfl, _, _, _, [], _, [], hW', trodAll_mk1 (shut_bool Try.underlying4 _), (trodAll_cons_mk (Below.trod laidOut (by kernel_rfl) (of_decide_eq_true (by kernel_rfl)) k0 bel lt0) (trodAll_cons_mk (Below.trod laidOut (by kernel_rfl) (of_decide_eq_true (by kernel_rfl)) k1 bel lt1) (trodAll_cons_mk (Below.trod laidOut (by kernel_rfl) (of_decide_eq_true (by kernel_rfl)) k2 bel lt2) trodAll_mk0))), rfl, bel.frame _, fun h => by cases h⟩

theorem over : Rows.spanTotalRow.holds Try.pinned (OpenSpec.ofChange Rows.spanTotalSpec) :=
  OpenClaim.holds_of_wide 11 Try.f11 rfl rfl rfl rfl rfl rfl rfl ⟨rfl, rfl, rfl, rfl, rfl⟩ rfl rfl rfl rfl rfl (by kernel_rfl) Try.func11 (by kernel_rfl)
    (of_decide_eq_true (by kernel_rfl)) (by unfold Func.isWrapper; first | (rw [if_pos (by decide +kernel)]; kernel_rfl) | (rw [if_neg (by decide +kernel)]; exact ⟨rfl, rfl⟩))
    (fun os started H enc _ => lifted os started H enc)

theorem proved : Rows.SpanTotalSaid := over
#print axioms proved
end Go.Proofs.Ytfnjfjghajcdkaa.spanTotal
