/-
  Registers as data: which are right, and what a ballot and a verdict do to one.
-/
import Derived.Test.YthjhofmjhmnddaaGreatMGAB
set_option linter.unusedSimpArgs false
set_option linter.unusedVariables false
namespace Go.Proofs.YthjhofmjhmnddaaGreat
open Go.RowKit Rg Bl
namespace Re
structure RegD where
 p : BalD
 t : BalD
 v : Int
instance : Inhabited RegD := ⟨⟨⟨0, 0⟩, ⟨0, 0⟩, 0⟩⟩
abbrev zeroR : RegD := ⟨⟨0, 0⟩, ⟨0, 0⟩, 0⟩
abbrev regVal (r : RegD) : Value := .agg #[.int .u64 (r.p.pos : Nat), .int .u64 (r.p.id : Nat), .int .u64 (r.t.pos : Nat), .int .u64 (r.t.id : Nat), .int .i64 r.v]
abbrev regCells (r : RegD) : Array Value := #[.int .u64 (r.p.pos : Nat), .int .u64 (r.p.id : Nat), .int .u64 (r.t.pos : Nat), .int .u64 (r.t.id : Nat), .int .i64 r.v]
def noneB (r : RegD) : Bool := sameB r.t ⟨0, 0⟩
def propB (v : Int) : Bool := decide (1 ≤ v) && decide (v ≤ 3)
def rightR (r : RegD) : Bool := !lessB r.p r.t && (if noneB r then decide (r.v = 0) else propB r.v)
def lateB (r : RegD) (b : BalD) : Bool := decide (b.pos = 0) || lessB b r.p
def takesB (r : RegD) (b : BalD) (v : Int) : Bool := !lateB r b && (propB v && !(sameB b r.t && decide (v ≠ r.v)))
def prepD (r : RegD) (b : BalD) : RegD := if lateB r b then r else ⟨b, r.t, r.v⟩
def accD (r : RegD) (b : BalD) (v : Int) : RegD := if takesB r b v then ⟨b, b, v⟩ else r
def sameR (r s : RegD) : Bool := sameB r.p s.p && (sameB r.t s.t && decide (r.v = s.v))
theorem sameB_self (a : BalD) : sameB a a = true := (sameB_iff a a).2 rfl
theorem sameR_self (r : RegD) : sameR r r = true := by
 unfold sameR
 rw [sameB_self, sameB_self]
 simp
theorem sameR_iff (r s : RegD) : sameR r s = true ↔ r = s := by
 obtain ⟨a, b, c⟩ := r
 obtain ⟨d, e, f⟩ := s
 unfold sameR
 rw [Bool.and_eq_true, Bool.and_eq_true, sameB_iff, sameB_iff, decide_eq_true_eq]
 constructor
 ·rintro ⟨rfl, rfl, rfl⟩; rfl
 ·intro h; injection h with h1 h2 h3; exact ⟨h1, h2, h3⟩
theorem prep_yes {r : RegD} {b : BalD} (h : lateB r b = false) : prepD r b = ⟨b, r.t, r.v⟩ := by unfold prepD; rw [h]; rfl
theorem prep_no {r : RegD} {b : BalD} (h : lateB r b = true) : prepD r b = r := by unfold prepD; rw [h]; rfl
theorem acc_yes {r : RegD} {b : BalD} {v : Int} (h : takesB r b v = true) : accD r b v = ⟨b, b, v⟩ := by unfold accD; rw [h]; rfl
theorem acc_no {r : RegD} {b : BalD} {v : Int} (h : takesB r b v = false) : accD r b v = r := by unfold accD; rw [h]; rfl
theorem late_iff (r : RegD) (b : BalD) : lateB r b = false ↔ b.pos ≠ 0 ∧ lessB b r.p = false := by
 unfold lateB
 rw [Bool.or_eq_false_iff, decide_eq_false_iff_not]
theorem takes_iff (r : RegD) (b : BalD) (v : Int) : takesB r b v = true ↔ lateB r b = false ∧ (1 ≤ v ∧ v ≤ 3) ∧ (b = r.t → v = r.v) := by
 unfold takesB propB
 rw [Bool.and_eq_true, Bool.and_eq_true, Bool.not_eq_true', Bool.not_eq_true', Bool.and_eq_true, decide_eq_true_eq, decide_eq_true_eq, Bool.and_eq_false_iff, decide_eq_false_iff_not]
 refine and_congr Iff.rfl (and_congr Iff.rfl ?_)
 constructor
 ·rintro (h | h) e
  ·rw [(sameB_iff _ _).2 e] at h; cases h
  ·exact Classical.not_not.1 h
 ·intro h
  by_cases e : b = r.t
  ·exact .inr (fun hn => hn (h e))
  ·left
   rcases hs : sameB b r.t with _ | _
   ·rfl
   ·exact absurd ((sameB_iff _ _).1 hs) e
theorem right_iff (r : RegD) : rightR r = true ↔ lessB r.p r.t = false ∧ (r.t = ⟨0, 0⟩ → r.v = 0) ∧ (r.t ≠ ⟨0, 0⟩ → 1 ≤ r.v ∧ r.v ≤ 3) := by
 unfold rightR noneB
 rw [Bool.and_eq_true, Bool.not_eq_true']
 refine and_congr Iff.rfl ?_
 rcases hs : sameB r.t ⟨0, 0⟩ with _ | _
 ·have hne : r.t ≠ ⟨0, 0⟩ := fun e => by rw [(sameB_iff _ _).2 e] at hs; cases hs
  rw [if_neg (by decide)]
  unfold propB
  rw [Bool.and_eq_true, decide_eq_true_eq, decide_eq_true_eq]
  exact ⟨fun h => ⟨fun e => absurd e hne, fun _ => h⟩, fun h => h.2 hne⟩
 ·have he := (sameB_iff _ _).1 hs
  rw [if_pos rfl, decide_eq_true_eq]
  exact ⟨fun h => ⟨fun _ => h, fun e => absurd he e⟩, fun h => h.1 he⟩
theorem prep_right {r : RegD} {b : BalD} (h : rightR r = true) : rightR (prepD r b) = true := by
 unfold prepD
 rcases hl : lateB r b with _ | _
 ·rw [if_neg (by decide)]
  obtain ⟨h1, h2, h3⟩ := (right_iff r).1 h
  refine (right_iff _).2 ⟨?_, h2, h3⟩
  exact le_on ((late_iff r b).1 hl).2 h1
 ·rw [if_pos rfl]; exact h
theorem acc_right {r : RegD} {b : BalD} {v : Int} (h : rightR r = true) : rightR (accD r b v) = true := by
 unfold accD
 rcases hl : takesB r b v with _ | _
 ·rw [if_neg (by decide)]; exact h
 ·rw [if_pos rfl]
  obtain ⟨h1, h2, h3⟩ := (takes_iff r b v).1 hl
  have hb := ((late_iff r b).1 h1).1
  refine (right_iff _).2 ⟨less_self b, fun e => ?_, fun _ => h2⟩
  have e : b = ⟨0, 0⟩ := e
  rw [e] at hb
  exact absurd rfl hb
end Re
end Go.Proofs.YthjhofmjhmnddaaGreat
/-
 What the program's Right, Prepare and Accept answer.
-/
namespace Go.Proofs.YthjhofmjhmnddaaGreat
open Go.RowKit Rg Bl
namespace Re
theorem propose_any (v : Int) (W : World) : Calls Tryz.prog 101 #[.int .i64 v] W (RetB W.heap.size W (.bool (propB v))) := by
 unfold propB
 by_cases h1 : 1 ≤ v
 ·have e1 : decide (1 ≤ v) = true := decide_eq_true h1
  have e2 : decide (v ≥ 1) = true := decide_eq_true h1
  by_cases h2 : v ≤ 3
  ·have e3 : decide (v ≤ 3) = true := decide_eq_true h2
   rw [e1, e3]
   clear h1 h2
   go_enter Tryz.func101, Tryz.ntmps101
   go_wp2_with fail
   go_ret
   exact retB_mk rfl (Below.refl _ _)
  ·have e3 : decide (v ≤ 3) = false := decide_eq_false h2
   rw [e1, e3]
   clear h1 h2
   go_enter Tryz.func101, Tryz.ntmps101
   go_wp2_with fail
   go_ret
   exact retB_mk rfl (Below.refl _ _)
 ·have e1 : decide (1 ≤ v) = false := decide_eq_false h1
  have e2 : decide (v ≥ 1) = false := decide_eq_false h1
  rw [e1]
  clear h1
  go_enter Tryz.func101, Tryz.ntmps101
  go_wp2_with fail
  go_ret
  exact retB_mk rfl (Below.refl _ _)
theorem zeroB_eql (b : BalD) (w : World) : (binOp .eql 35 (.agg #[.int .u64 (b.pos : Nat), .int .u64 (b.id : Nat)]) (.agg #[.int .u64 0, .int .u64 0])).run Tryz.prog w = .ok (.bool (sameB b ⟨0, 0⟩)) w := bal_eql b ⟨0, 0⟩ w
set_option maxRecDepth 20000 in
set_option maxHeartbeats 2000000 in
theorem untaken_any (r : RegD) (W : World) : Calls Tryz.prog 127 #[regVal r] W (RetB W.heap.size W (.bool (noneB r))) := by
 have H := hid_ (fun w => zeroB_eql r.t w)
 have hn : noneB r = sameB r.t ⟨0, 0⟩ := rfl
 rw [hn]
 generalize sameB r.t ⟨0, 0⟩ = k at *
 have kn := H.out
 clear hn
 go_enter Tryz.func127, Tryz.ntmps127
 go_wp2_with fail
 go_ret
 exact retB_mk rfl ((Below.refl _ _).alloc (Nat.le_refl _) _)
set_option maxRecDepth 20000 in
set_option maxHeartbeats 2000000 in
theorem refuses_any (r : RegD) (b : BalD) (W : World) : Calls Tryz.prog 100 #[regVal r, ptVal b] W (RetB W.heap.size W (.bool (lateB r b))) := by
 have HL := hid_ (fun (W : World) => less_any b r.p W)
 have HB := hid_ (((Below.refl W.heap.size W).alloc (Nat.le_refl _) (.cells (regCells r) 54)).alloc (by simp) (.cells #[.int .u64 (b.pos : Nat), .int .u64 (b.id : Nat)] 35))
 unfold lateB
 generalize lessB b r.p = l at *
 by_cases h0 : b.pos = 0
 ·have e1 : (b.pos == 0) = true := by rw [beq_iff_eq]; exact h0
  have e2 : (((b.pos : Nat) : Int) == 0) = true := by rw [beq_iff_eq]; omega
  rw [decide_eq_true h0]
  clear h0
  go_enter Tryz.func100, Tryz.ntmps100
  go_wp2_with fail
  go_ret
  exact retB_mk rfl HB.out
 ·have e1 : (b.pos == 0) = false := by rw [beq_eq_false_iff_ne]; exact h0
  have e2 : (((b.pos : Nat) : Int) == 0) = false := by rw [beq_eq_false_iff_ne]; omega
  rw [decide_eq_false h0]
  clear h0
  go_enter Tryz.func100, Tryz.ntmps100
  go_wp2_with fail
  (with_reducible refine Calls.mono (HL.out _) ?_)
  rintro e w1 ⟨rfl, hb⟩
  have HB1 := hid_ (HB.out.trans (hb.mono HB.out.size))
  clear hb
  go_wp2_with fail
  go_ret
  exact retB_mk rfl HB1.out
set_option maxRecDepth 20000 in
set_option maxHeartbeats 2000000 in
theorem contra_any (r : RegD) (b : BalD) (v : Int) (W : World) : Calls Tryz.prog 102 #[regVal r, ptVal b, .int .i64 v] W (RetB W.heap.size W (.bool (sameB b r.t && decide (v ≠ r.v)))) := by
 have HK := hid_ (fun w => bal_eql b r.t w)
 have HB := hid_ (((Below.refl W.heap.size W).alloc (Nat.le_refl _) (.cells (regCells r) 54)).alloc (by simp) (.cells #[.int .u64 (b.pos : Nat), .int .u64 (b.id : Nat)] 35))
 have kn := HK.out
 rcases hs : sameB b r.t with _ | _
 ·rw [hs] at kn
  clear HK hs
  go_enter Tryz.func102, Tryz.ntmps102
  go_wp2_with fail
  go_ret
  exact retB_mk rfl HB.out
 ·rw [hs] at kn
  have hv : (v != r.v) = decide (v ≠ r.v) := by
   by_cases h : v = r.v
   ·rw [h]; simp
   ·rw [decide_eq_true h]; simpa using h
  rw [← hv]
  clear HK hs hv
  go_enter Tryz.func102, Tryz.ntmps102
  go_wp2_with fail
  go_ret
  exact retB_mk (by simp) HB.out
set_option maxRecDepth 20000 in
set_option maxHeartbeats 2000000 in
theorem right_any (r : RegD) (W : World) : Calls Tryz.prog 91 #[regVal r] W (RetB W.heap.size W (.bool (rightR r))) := by
 have HL := hid_ (fun (W : World) => less_any r.p r.t W)
 have HU := hid_ (fun (W : World) => untaken_any r W)
 have HP := hid_ (fun (W : World) => propose_any r.v W)
 have HW := hid_ (whole_new W 54 (regCells r))
 have HB := hid_ ((Below.refl W.heap.size W).alloc (Nat.le_refl _) (.cells (regCells r) 54))
 unfold rightR
 generalize propB r.v = q at *
 rcases hl : lessB r.p r.t with _ | _
 ·rw [hl] at HL
  clear hl
  rcases hn : noneB r with _ | _
  ·rw [hn] at HU
   clear hn
   go_enter Tryz.func91, Tryz.ntmps91
   go_wp2_with fail
   (with_reducible refine Calls.mono (HL.out _) ?_)
   rintro e w1 ⟨rfl, hb⟩
   have HB1 := hid_ (HB.out.trans (hb.mono HB.out.size))
   have HW1 := hid_ (HW.out.below hb HW.out.lt)
   clear hb
   have y0 := HW1.out.cell 0 (.int .u64 (r.p.pos : Nat)) rfl
   have y1 := HW1.out.cell 1 (.int .u64 (r.p.id : Nat)) rfl
   have y2 := HW1.out.cell 2 (.int .u64 (r.t.pos : Nat)) rfl
   have y3 := HW1.out.cell 3 (.int .u64 (r.t.id : Nat)) rfl
   have y4 := HW1.out.cell 4 (.int .i64 r.v) rfl
   go_wp2_with fail
   (with_reducible refine Calls.mono (HU.out _) ?_)
   rintro e w2 ⟨rfl, hb⟩
   have HB2 := hid_ (HB1.out.trans (hb.mono HB1.out.size))
   have HW2 := hid_ (HW1.out.below hb HW1.out.lt)
   clear hb y0 y1 y2 y3 y4
   have y4 := HW2.out.cell 4 (.int .i64 r.v) rfl
   go_wp2_with fail
   (with_reducible refine Calls.mono (HP.out _) ?_)
   rintro e w3 ⟨rfl, hb⟩
   have HB3 := hid_ (HB2.out.trans (hb.mono HB2.out.size))
   clear hb y4
   go_wp2_with fail
   go_ret
   exact retB_mk (by simp) HB3.out
  ·rw [hn] at HU
   clear hn
   have hv : (r.v == 0) = decide (r.v = 0) := by
    by_cases h : r.v = 0
    ·rw [h]; rfl
    ·rw [decide_eq_false h]; simpa using h
   rw [if_pos rfl, ← hv]
   clear hv
   go_enter Tryz.func91, Tryz.ntmps91
   go_wp2_with fail
   (with_reducible refine Calls.mono (HL.out _) ?_)
   rintro e w1 ⟨rfl, hb⟩
   have HB1 := hid_ (HB.out.trans (hb.mono HB.out.size))
   have HW1 := hid_ (HW.out.below hb HW.out.lt)
   clear hb
   have y0 := HW1.out.cell 0 (.int .u64 (r.p.pos : Nat)) rfl
   have y1 := HW1.out.cell 1 (.int .u64 (r.p.id : Nat)) rfl
   have y2 := HW1.out.cell 2 (.int .u64 (r.t.pos : Nat)) rfl
   have y3 := HW1.out.cell 3 (.int .u64 (r.t.id : Nat)) rfl
   have y4 := HW1.out.cell 4 (.int .i64 r.v) rfl
   go_wp2_with fail
   (with_reducible refine Calls.mono (HU.out _) ?_)
   rintro e w2 ⟨rfl, hb⟩
   have HB2 := hid_ (HB1.out.trans (hb.mono HB1.out.size))
   have HW2 := hid_ (HW1.out.below hb HW1.out.lt)
   clear hb y0 y1 y2 y3 y4
   have y4 := HW2.out.cell 4 (.int .i64 r.v) rfl
   go_wp2_with fail
   go_ret
   exact retB_mk (by simp) HB2.out
 ·rw [hl] at HL
  clear hl HU
  generalize (if noneB r = true then decide (r.v = 0) else q) = z at *
  go_enter Tryz.func91, Tryz.ntmps91
  go_wp2_with fail
  (with_reducible refine Calls.mono (HL.out _) ?_)
  rintro e w1 ⟨rfl, hb⟩
  have HB1 := hid_ (HB.out.trans (hb.mono HB.out.size))
  clear hb
  go_wp2_with fail
  go_ret
  exact retB_mk (by simp) HB1.out
end Re
end Go.Proofs.YthjhofmjhmnddaaGreat
/-
 What Prepare and Accept make of a register, of the program and of the document.
-/
namespace Go.Proofs.YthjhofmjhmnddaaGreat
open Go.RowKit Rg Bl
namespace Re
theorem whole_set5 {w : World} {g : Nat} {t : TypeId} {a b c d e : Value} (h : Whole w g t #[a, b, c, d, e]) (a' b' c' d' e' : Value) : Whole (((((w.setCell ⟨g, 0, none⟩ a').setCell ⟨g, 1, none⟩ b').setCell ⟨g, 2, none⟩ c').setCell ⟨g, 3, none⟩ d').setCell ⟨g, 4, none⟩ e') g t #[a', b', c', d', e'] := ((((h.store 0 a').store 1 b').store 2 c').store 3 d').store 4 e'
theorem below_set5 {B : Nat} {w W : World} {g : Nat} (h : Below B w W) (hg : B ≤ g) (a b c d e : Value) : Below B w (((((W.setCell ⟨g, 0, none⟩ a).setCell ⟨g, 1, none⟩ b).setCell ⟨g, 2, none⟩ c).setCell ⟨g, 3, none⟩ d).setCell ⟨g, 4, none⟩ e) :=
 ((((h.setCell (p := ⟨g, 0, none⟩) hg a).setCell (p := ⟨g, 1, none⟩) hg b).setCell (p := ⟨g, 2, none⟩) hg c).setCell (p := ⟨g, 3, none⟩) hg d).setCell (p := ⟨g, 4, none⟩) hg e
set_option maxRecDepth 20000 in
set_option maxHeartbeats 4000000 in
theorem prepare_any (r : RegD) (b : BalD) (W : World) : Calls Tryz.prog 68 #[regVal r, ptVal b] W (RetB W.heap.size W (.tuple #[regVal (prepD r b), .bool (!lateB r b)])) := by
 have HR := hid_ (fun (W : World) => refuses_any r b W)
 have HB := hid_ ((((Below.refl W.heap.size W).alloc (Nat.le_refl _) (.cells (regCells r) 54)).alloc (by simp) (.cells #[.int .u64 (b.pos : Nat), .int .u64 (b.id : Nat)] 35)).alloc (by simp; omega) (.cells #[.int .u64 0, .int .u64 0, .int .u64 0, .int .u64 0, .int .i64 0] 54))
 have HW := hid_ (((whole_new W 54 (regCells r)).alloc (.cells #[.int .u64 (b.pos : Nat), .int .u64 (b.id : Nat)] 35)).alloc (.cells #[.int .u64 0, .int .u64 0, .int .u64 0, .int .u64 0, .int .i64 0] 54))
 have HX := hid_ ((whole_at (W.alloc (.cells (regCells r) 54)) (W.heap.size + 1) 35 #[.int .u64 (b.pos : Nat), .int .u64 (b.id : Nat)] (by simp)).alloc (.cells #[.int .u64 0, .int .u64 0, .int .u64 0, .int .u64 0, .int .i64 0] 54))
 have HY := hid_ (whole_at ((W.alloc (.cells (regCells r) 54)).alloc (.cells #[.int .u64 (b.pos : Nat), .int .u64 (b.id : Nat)] 35)) (W.heap.size + 1 + 1) 54 #[.int .u64 0, .int .u64 0, .int .u64 0, .int .u64 0, .int .i64 0] (by simp))
 rcases hl : lateB r b with _ | _
 ·rw [hl] at HR
  have HP := hid_ (prep_yes hl)
  rw [HP.out]
  clear hl
  go_enter Tryz.func68, Tryz.ntmps68
  go_wp2_with fail
  (with_reducible refine Calls.mono (HR.out _) ?_)
  rintro e w1 ⟨rfl, hb⟩
  have HB1 := hid_ (HB.out.trans (hb.mono HB.out.size))
  have HW1 := hid_ (HW.out.below hb HW.out.lt)
  have HX1 := hid_ (HX.out.below hb HX.out.lt)
  have HY1 := hid_ (HY.out.below hb HY.out.lt)
  clear hb
  have y0 := HW1.out.cell 0 (.int .u64 (r.p.pos : Nat)) rfl
  have y1 := HW1.out.cell 1 (.int .u64 (r.p.id : Nat)) rfl
  have y2 := HW1.out.cell 2 (.int .u64 (r.t.pos : Nat)) rfl
  have y3 := HW1.out.cell 3 (.int .u64 (r.t.id : Nat)) rfl
  have y4 := HW1.out.cell 4 (.int .i64 r.v) rfl
  have z0 := HX1.out.cell 0 (.int .u64 (b.pos : Nat)) rfl
  have z1 := HX1.out.cell 1 (.int .u64 (b.id : Nat)) rfl
  have f0 := fun i => HW1.out.free i
  have f1 := fun i => HY1.out.free i
  have u0 := HY1.out.cell 0 (.int .u64 0) rfl
  have u1 := HY1.out.cell 1 (.int .u64 0) rfl
  have u2 := HY1.out.cell 2 (.int .u64 0) rfl
  have u3 := HY1.out.cell 3 (.int .u64 0) rfl
  have u4 := HY1.out.cell 4 (.int .i64 0) rfl
  go_wp2_with fail
  exact bodyPost_ret (v := .tuple #[regVal ⟨b, r.t, r.v⟩, .bool true]) (by simp [results, Tryz.results68, go_sem, u0, u1, u2, u3, u4]) rfl (retB_mk (by simp) (below_set5 (below_set2 HB1.out (Nat.le_refl _) _ _) (by omega) _ _ _ _ _))
 ·rw [hl] at HR
  have HP := hid_ (prep_no hl)
  rw [HP.out]
  clear hl
  go_enter Tryz.func68, Tryz.ntmps68
  go_wp2_with fail
  (with_reducible refine Calls.mono (HR.out _) ?_)
  rintro e w1 ⟨rfl, hb⟩
  have HB1 := hid_ (HB.out.trans (hb.mono HB.out.size))
  have HW1 := hid_ (HW.out.below hb HW.out.lt)
  have HY1 := hid_ (HY.out.below hb HY.out.lt)
  clear hb
  have y0 := HW1.out.cell 0 (.int .u64 (r.p.pos : Nat)) rfl
  have y1 := HW1.out.cell 1 (.int .u64 (r.p.id : Nat)) rfl
  have y2 := HW1.out.cell 2 (.int .u64 (r.t.pos : Nat)) rfl
  have y3 := HW1.out.cell 3 (.int .u64 (r.t.id : Nat)) rfl
  have y4 := HW1.out.cell 4 (.int .i64 r.v) rfl
  have f1 := fun i => HY1.out.free i
  have u0 := HY1.out.cell 0 (.int .u64 0) rfl
  have u1 := HY1.out.cell 1 (.int .u64 0) rfl
  have u2 := HY1.out.cell 2 (.int .u64 0) rfl
  have u3 := HY1.out.cell 3 (.int .u64 0) rfl
  have u4 := HY1.out.cell 4 (.int .i64 0) rfl
  go_wp2_with fail
  exact bodyPost_ret (v := .tuple #[regVal r, .bool false]) (by simp [results, Tryz.results68, go_sem, u0, u1, u2, u3, u4]) rfl (retB_mk (by simp) (below_set5 HB1.out (by omega) _ _ _ _ _))
end Re
end Go.Proofs.YthjhofmjhmnddaaGreat
/-
 What Accept makes of a register; what the document's Prepare, Accept and Right say; a register as the other's.
-/
namespace Go.Proofs.YthjhofmjhmnddaaGreat
open Go.RowKit Rg Bl
namespace Re
theorem ne_dec (v u : Int) : (v != u) = decide (v ≠ u) := by
 by_cases h : v = u
 ·rw [h]; simp
 ·rw [decide_eq_true h]; simpa using h
set_option maxRecDepth 20000 in
set_option maxHeartbeats 4000000 in
theorem accept_any (r : RegD) (b : BalD) (v : Int) (W : World) : Calls Tryz.prog 67 #[regVal r, ptVal b, .int .i64 v] W (RetB W.heap.size W (.tuple #[regVal (accD r b v), .bool (takesB r b v)])) := by
 have HR := hid_ (fun (W : World) => refuses_any r b W)
 have HP := hid_ (fun (W : World) => propose_any v W)
 have HC := hid_ (fun (W : World) => contra_any r b v W)
 have HB := hid_ ((((Below.refl W.heap.size W).alloc (Nat.le_refl _) (.cells (regCells r) 54)).alloc (by simp) (.cells #[.int .u64 (b.pos : Nat), .int .u64 (b.id : Nat)] 35)).alloc (by simp; omega) (.cells #[.int .u64 0, .int .u64 0, .int .u64 0, .int .u64 0, .int .i64 0] 54))
 have HW := hid_ (((whole_new W 54 (regCells r)).alloc (.cells #[.int .u64 (b.pos : Nat), .int .u64 (b.id : Nat)] 35)).alloc (.cells #[.int .u64 0, .int .u64 0, .int .u64 0, .int .u64 0, .int .i64 0] 54))
 have HX := hid_ ((whole_at (W.alloc (.cells (regCells r) 54)) (W.heap.size + 1) 35 #[.int .u64 (b.pos : Nat), .int .u64 (b.id : Nat)] (by simp)).alloc (.cells #[.int .u64 0, .int .u64 0, .int .u64 0, .int .u64 0, .int .i64 0] 54))
 have HY := hid_ (whole_at ((W.alloc (.cells (regCells r) 54)).alloc (.cells #[.int .u64 (b.pos : Nat), .int .u64 (b.id : Nat)] 35)) (W.heap.size + 1 + 1) 54 #[.int .u64 0, .int .u64 0, .int .u64 0, .int .u64 0, .int .i64 0] (by simp))
 have HY0 := hid_ (show takesB r b v = (!lateB r b && (propB v && !(sameB b r.t && decide (v ≠ r.v)))) from rfl)
 have HYes := hid_ (fun h => acc_yes (r := r) (b := b) (v := v) h)
 have HNo := hid_ (fun h => acc_no (r := r) (b := b) (v := v) h)
 generalize (sameB b r.t && decide (v ≠ r.v)) = q at *
 generalize propB v = m at *
 generalize lateB r b = l at *
 cases l
 ·cases m
  ·have HE := hid_ (show takesB r b v = false from HY0.out)
   rw [HNo.out HE.out, HE.out]
   clear HYes HNo HY0 HE
   go_enter Tryz.func67, Tryz.ntmps67
   go_wp2_with fail
   (with_reducible refine Calls.mono (HR.out _) ?_)
   rintro e w1 ⟨rfl, hb⟩
   have HB1 := hid_ (HB.out.trans (hb.mono HB.out.size))
   have HW1 := hid_ (HW.out.below hb HW.out.lt)
   have HX1 := hid_ (HX.out.below hb HX.out.lt)
   have HY1 := hid_ (HY.out.below hb HY.out.lt)
   clear hb
   have y0 := HW1.out.cell 0 (.int .u64 (r.p.pos : Nat)) rfl
   have y1 := HW1.out.cell 1 (.int .u64 (r.p.id : Nat)) rfl
   have y2 := HW1.out.cell 2 (.int .u64 (r.t.pos : Nat)) rfl
   have y3 := HW1.out.cell 3 (.int .u64 (r.t.id : Nat)) rfl
   have y4 := HW1.out.cell 4 (.int .i64 r.v) rfl
   have z0 := HX1.out.cell 0 (.int .u64 (b.pos : Nat)) rfl
   have z1 := HX1.out.cell 1 (.int .u64 (b.id : Nat)) rfl
   have f0 := fun i => HW1.out.free i
   have f1 := fun i => HY1.out.free i
   have u0 := HY1.out.cell 0 (.int .u64 0) rfl
   have u1 := HY1.out.cell 1 (.int .u64 0) rfl
   have u2 := HY1.out.cell 2 (.int .u64 0) rfl
   have u3 := HY1.out.cell 3 (.int .u64 0) rfl
   have u4 := HY1.out.cell 4 (.int .i64 0) rfl
   go_wp2_with fail
   (with_reducible refine Calls.mono (HP.out _) ?_)
   rintro e w2 ⟨rfl, hb⟩
   have HB2 := hid_ (HB1.out.trans (hb.mono HB1.out.size))
   have HW2 := hid_ (HW1.out.below hb HW1.out.lt)
   have HX2 := hid_ (HX1.out.below hb HX1.out.lt)
   have HY2 := hid_ (HY1.out.below hb HY1.out.lt)
   clear hb
   clear y0 y1 y2 y3 y4 z0 z1 f0 f1 u0 u1 u2 u3 u4
   have y0 := HW2.out.cell 0 (.int .u64 (r.p.pos : Nat)) rfl
   have y1 := HW2.out.cell 1 (.int .u64 (r.p.id : Nat)) rfl
   have y2 := HW2.out.cell 2 (.int .u64 (r.t.pos : Nat)) rfl
   have y3 := HW2.out.cell 3 (.int .u64 (r.t.id : Nat)) rfl
   have y4 := HW2.out.cell 4 (.int .i64 r.v) rfl
   have z0 := HX2.out.cell 0 (.int .u64 (b.pos : Nat)) rfl
   have z1 := HX2.out.cell 1 (.int .u64 (b.id : Nat)) rfl
   have f0 := fun i => HW2.out.free i
   have f1 := fun i => HY2.out.free i
   have u0 := HY2.out.cell 0 (.int .u64 0) rfl
   have u1 := HY2.out.cell 1 (.int .u64 0) rfl
   have u2 := HY2.out.cell 2 (.int .u64 0) rfl
   have u3 := HY2.out.cell 3 (.int .u64 0) rfl
   have u4 := HY2.out.cell 4 (.int .i64 0) rfl
   go_wp2_with fail
   exact bodyPost_ret (v := .tuple #[regVal r, .bool false]) (by simp [results, Tryz.results67, go_sem, u0, u1, u2, u3, u4]) rfl (retB_mk (by simp) (below_set5 HB2.out (by omega) _ _ _ _ _))
  ·cases q
   ·have HE := hid_ (show takesB r b v = true from HY0.out)
    rw [HYes.out HE.out, HE.out]
    clear HYes HNo HY0 HE
    go_enter Tryz.func67, Tryz.ntmps67
    go_wp2_with fail
    (with_reducible refine Calls.mono (HR.out _) ?_)
    rintro e w1 ⟨rfl, hb⟩
    have HB1 := hid_ (HB.out.trans (hb.mono HB.out.size))
    have HW1 := hid_ (HW.out.below hb HW.out.lt)
    have HX1 := hid_ (HX.out.below hb HX.out.lt)
    have HY1 := hid_ (HY.out.below hb HY.out.lt)
    clear hb
    have y0 := HW1.out.cell 0 (.int .u64 (r.p.pos : Nat)) rfl
    have y1 := HW1.out.cell 1 (.int .u64 (r.p.id : Nat)) rfl
    have y2 := HW1.out.cell 2 (.int .u64 (r.t.pos : Nat)) rfl
    have y3 := HW1.out.cell 3 (.int .u64 (r.t.id : Nat)) rfl
    have y4 := HW1.out.cell 4 (.int .i64 r.v) rfl
    have z0 := HX1.out.cell 0 (.int .u64 (b.pos : Nat)) rfl
    have z1 := HX1.out.cell 1 (.int .u64 (b.id : Nat)) rfl
    have f0 := fun i => HW1.out.free i
    have f1 := fun i => HY1.out.free i
    have u0 := HY1.out.cell 0 (.int .u64 0) rfl
    have u1 := HY1.out.cell 1 (.int .u64 0) rfl
    have u2 := HY1.out.cell 2 (.int .u64 0) rfl
    have u3 := HY1.out.cell 3 (.int .u64 0) rfl
    have u4 := HY1.out.cell 4 (.int .i64 0) rfl
    go_wp2_with fail
    (with_reducible refine Calls.mono (HP.out _) ?_)
    rintro e w2 ⟨rfl, hb⟩
    have HB2 := hid_ (HB1.out.trans (hb.mono HB1.out.size))
    have HW2 := hid_ (HW1.out.below hb HW1.out.lt)
    have HX2 := hid_ (HX1.out.below hb HX1.out.lt)
    have HY2 := hid_ (HY1.out.below hb HY1.out.lt)
    clear hb
    clear y0 y1 y2 y3 y4 z0 z1 f0 f1 u0 u1 u2 u3 u4
    have y0 := HW2.out.cell 0 (.int .u64 (r.p.pos : Nat)) rfl
    have y1 := HW2.out.cell 1 (.int .u64 (r.p.id : Nat)) rfl
    have y2 := HW2.out.cell 2 (.int .u64 (r.t.pos : Nat)) rfl
    have y3 := HW2.out.cell 3 (.int .u64 (r.t.id : Nat)) rfl
    have y4 := HW2.out.cell 4 (.int .i64 r.v) rfl
    have z0 := HX2.out.cell 0 (.int .u64 (b.pos : Nat)) rfl
    have z1 := HX2.out.cell 1 (.int .u64 (b.id : Nat)) rfl
    have f0 := fun i => HW2.out.free i
    have f1 := fun i => HY2.out.free i
    have u0 := HY2.out.cell 0 (.int .u64 0) rfl
    have u1 := HY2.out.cell 1 (.int .u64 0) rfl
    have u2 := HY2.out.cell 2 (.int .u64 0) rfl
    have u3 := HY2.out.cell 3 (.int .u64 0) rfl
    have u4 := HY2.out.cell 4 (.int .i64 0) rfl
    go_wp2_with fail
    (with_reducible refine Calls.mono (HC.out _) ?_)
    rintro e w3 ⟨rfl, hb⟩
    have HB3 := hid_ (HB2.out.trans (hb.mono HB2.out.size))
    have HW3 := hid_ (HW2.out.below hb HW2.out.lt)
    have HX3 := hid_ (HX2.out.below hb HX2.out.lt)
    have HY3 := hid_ (HY2.out.below hb HY2.out.lt)
    clear hb
    clear y0 y1 y2 y3 y4 z0 z1 f0 f1 u0 u1 u2 u3 u4
    have y0 := HW3.out.cell 0 (.int .u64 (r.p.pos : Nat)) rfl
    have y1 := HW3.out.cell 1 (.int .u64 (r.p.id : Nat)) rfl
    have y2 := HW3.out.cell 2 (.int .u64 (r.t.pos : Nat)) rfl
    have y3 := HW3.out.cell 3 (.int .u64 (r.t.id : Nat)) rfl
    have y4 := HW3.out.cell 4 (.int .i64 r.v) rfl
    have z0 := HX3.out.cell 0 (.int .u64 (b.pos : Nat)) rfl
    have z1 := HX3.out.cell 1 (.int .u64 (b.id : Nat)) rfl
    have f0 := fun i => HW3.out.free i
    have f1 := fun i => HY3.out.free i
    have u0 := HY3.out.cell 0 (.int .u64 0) rfl
    have u1 := HY3.out.cell 1 (.int .u64 0) rfl
    have u2 := HY3.out.cell 2 (.int .u64 0) rfl
    have u3 := HY3.out.cell 3 (.int .u64 0) rfl
    have u4 := HY3.out.cell 4 (.int .i64 0) rfl
    go_wp2_with fail
    exact bodyPost_ret (v := .tuple #[regVal ⟨b, b, v⟩, .bool true]) (by simp [results, Tryz.results67, go_sem, u0, u1, u2, u3, u4]) rfl (retB_mk (by simp) (below_set5 HB3.out (by omega) _ _ _ _ _))
   ·have HE := hid_ (show takesB r b v = false from HY0.out)
    rw [HNo.out HE.out, HE.out]
    clear HYes HNo HY0 HE
    go_enter Tryz.func67, Tryz.ntmps67
    go_wp2_with fail
    (with_reducible refine Calls.mono (HR.out _) ?_)
    rintro e w1 ⟨rfl, hb⟩
    have HB1 := hid_ (HB.out.trans (hb.mono HB.out.size))
    have HW1 := hid_ (HW.out.below hb HW.out.lt)
    have HX1 := hid_ (HX.out.below hb HX.out.lt)
    have HY1 := hid_ (HY.out.below hb HY.out.lt)
    clear hb
    have y0 := HW1.out.cell 0 (.int .u64 (r.p.pos : Nat)) rfl
    have y1 := HW1.out.cell 1 (.int .u64 (r.p.id : Nat)) rfl
    have y2 := HW1.out.cell 2 (.int .u64 (r.t.pos : Nat)) rfl
    have y3 := HW1.out.cell 3 (.int .u64 (r.t.id : Nat)) rfl
    have y4 := HW1.out.cell 4 (.int .i64 r.v) rfl
    have z0 := HX1.out.cell 0 (.int .u64 (b.pos : Nat)) rfl
    have z1 := HX1.out.cell 1 (.int .u64 (b.id : Nat)) rfl
    have f0 := fun i => HW1.out.free i
    have f1 := fun i => HY1.out.free i
    have u0 := HY1.out.cell 0 (.int .u64 0) rfl
    have u1 := HY1.out.cell 1 (.int .u64 0) rfl
    have u2 := HY1.out.cell 2 (.int .u64 0) rfl
    have u3 := HY1.out.cell 3 (.int .u64 0) rfl
    have u4 := HY1.out.cell 4 (.int .i64 0) rfl
    go_wp2_with fail
    (with_reducible refine Calls.mono (HP.out _) ?_)
    rintro e w2 ⟨rfl, hb⟩
    have HB2 := hid_ (HB1.out.trans (hb.mono HB1.out.size))
    have HW2 := hid_ (HW1.out.below hb HW1.out.lt)
    have HX2 := hid_ (HX1.out.below hb HX1.out.lt)
    have HY2 := hid_ (HY1.out.below hb HY1.out.lt)
    clear hb
    clear y0 y1 y2 y3 y4 z0 z1 f0 f1 u0 u1 u2 u3 u4
    have y0 := HW2.out.cell 0 (.int .u64 (r.p.pos : Nat)) rfl
    have y1 := HW2.out.cell 1 (.int .u64 (r.p.id : Nat)) rfl
    have y2 := HW2.out.cell 2 (.int .u64 (r.t.pos : Nat)) rfl
    have y3 := HW2.out.cell 3 (.int .u64 (r.t.id : Nat)) rfl
    have y4 := HW2.out.cell 4 (.int .i64 r.v) rfl
    have z0 := HX2.out.cell 0 (.int .u64 (b.pos : Nat)) rfl
    have z1 := HX2.out.cell 1 (.int .u64 (b.id : Nat)) rfl
    have f0 := fun i => HW2.out.free i
    have f1 := fun i => HY2.out.free i
    have u0 := HY2.out.cell 0 (.int .u64 0) rfl
    have u1 := HY2.out.cell 1 (.int .u64 0) rfl
    have u2 := HY2.out.cell 2 (.int .u64 0) rfl
    have u3 := HY2.out.cell 3 (.int .u64 0) rfl
    have u4 := HY2.out.cell 4 (.int .i64 0) rfl
    go_wp2_with fail
    (with_reducible refine Calls.mono (HC.out _) ?_)
    rintro e w3 ⟨rfl, hb⟩
    have HB3 := hid_ (HB2.out.trans (hb.mono HB2.out.size))
    have HW3 := hid_ (HW2.out.below hb HW2.out.lt)
    have HX3 := hid_ (HX2.out.below hb HX2.out.lt)
    have HY3 := hid_ (HY2.out.below hb HY2.out.lt)
    clear hb
    clear y0 y1 y2 y3 y4 z0 z1 f0 f1 u0 u1 u2 u3 u4
    have y0 := HW3.out.cell 0 (.int .u64 (r.p.pos : Nat)) rfl
    have y1 := HW3.out.cell 1 (.int .u64 (r.p.id : Nat)) rfl
    have y2 := HW3.out.cell 2 (.int .u64 (r.t.pos : Nat)) rfl
    have y3 := HW3.out.cell 3 (.int .u64 (r.t.id : Nat)) rfl
    have y4 := HW3.out.cell 4 (.int .i64 r.v) rfl
    have z0 := HX3.out.cell 0 (.int .u64 (b.pos : Nat)) rfl
    have z1 := HX3.out.cell 1 (.int .u64 (b.id : Nat)) rfl
    have f0 := fun i => HW3.out.free i
    have f1 := fun i => HY3.out.free i
    have u0 := HY3.out.cell 0 (.int .u64 0) rfl
    have u1 := HY3.out.cell 1 (.int .u64 0) rfl
    have u2 := HY3.out.cell 2 (.int .u64 0) rfl
    have u3 := HY3.out.cell 3 (.int .u64 0) rfl
    have u4 := HY3.out.cell 4 (.int .i64 0) rfl
    go_wp2_with fail
    exact bodyPost_ret (v := .tuple #[regVal r, .bool false]) (by simp [results, Tryz.results67, go_sem, u0, u1, u2, u3, u4]) rfl (retB_mk (by simp) (below_set5 HB3.out (by omega) _ _ _ _ _))
 ·have HE := hid_ (show takesB r b v = false from HY0.out)
  rw [HNo.out HE.out, HE.out]
  clear HYes HNo HY0 HE
  go_enter Tryz.func67, Tryz.ntmps67
  go_wp2_with fail
  (with_reducible refine Calls.mono (HR.out _) ?_)
  rintro e w1 ⟨rfl, hb⟩
  have HB1 := hid_ (HB.out.trans (hb.mono HB.out.size))
  have HW1 := hid_ (HW.out.below hb HW.out.lt)
  have HX1 := hid_ (HX.out.below hb HX.out.lt)
  have HY1 := hid_ (HY.out.below hb HY.out.lt)
  clear hb
  have y0 := HW1.out.cell 0 (.int .u64 (r.p.pos : Nat)) rfl
  have y1 := HW1.out.cell 1 (.int .u64 (r.p.id : Nat)) rfl
  have y2 := HW1.out.cell 2 (.int .u64 (r.t.pos : Nat)) rfl
  have y3 := HW1.out.cell 3 (.int .u64 (r.t.id : Nat)) rfl
  have y4 := HW1.out.cell 4 (.int .i64 r.v) rfl
  have z0 := HX1.out.cell 0 (.int .u64 (b.pos : Nat)) rfl
  have z1 := HX1.out.cell 1 (.int .u64 (b.id : Nat)) rfl
  have f0 := fun i => HW1.out.free i
  have f1 := fun i => HY1.out.free i
  have u0 := HY1.out.cell 0 (.int .u64 0) rfl
  have u1 := HY1.out.cell 1 (.int .u64 0) rfl
  have u2 := HY1.out.cell 2 (.int .u64 0) rfl
  have u3 := HY1.out.cell 3 (.int .u64 0) rfl
  have u4 := HY1.out.cell 4 (.int .i64 0) rfl
  go_wp2_with fail
  exact bodyPost_ret (v := .tuple #[regVal r, .bool false]) (by simp [results, Tryz.results67, go_sem, u0, u1, u2, u3, u4]) rfl (retB_mk (by simp) (below_set5 HB1.out (by omega) _ _ _ _ _))
set_option maxRecDepth 20000 in
set_option maxHeartbeats 4000000 in
theorem rprepare_any (r : RegD) (b : BalD) (W : World) : Calls Tryz.prog 43 #[regVal r, ptVal b] W (RetB W.heap.size W (.tuple #[regVal (prepD r b), .bool (!lateB r b)])) := by
 have HR := hid_ (fun (W : World) => rless_any b r.p W)
 have HB := hid_ ((((Below.refl W.heap.size W).alloc (Nat.le_refl _) (.cells (regCells r) 64)).alloc (by simp) (.cells #[.int .u64 (b.pos : Nat), .int .u64 (b.id : Nat)] 35)).alloc (by simp; omega) (.cells #[.int .u64 0, .int .u64 0, .int .u64 0, .int .u64 0, .int .i64 0] 64))
 have HW := hid_ (((whole_new W 64 (regCells r)).alloc (.cells #[.int .u64 (b.pos : Nat), .int .u64 (b.id : Nat)] 35)).alloc (.cells #[.int .u64 0, .int .u64 0, .int .u64 0, .int .u64 0, .int .i64 0] 64))
 have HX := hid_ ((whole_at (W.alloc (.cells (regCells r) 64)) (W.heap.size + 1) 35 #[.int .u64 (b.pos : Nat), .int .u64 (b.id : Nat)] (by simp)).alloc (.cells #[.int .u64 0, .int .u64 0, .int .u64 0, .int .u64 0, .int .i64 0] 64))
 have HY := hid_ (whole_at ((W.alloc (.cells (regCells r) 64)).alloc (.cells #[.int .u64 (b.pos : Nat), .int .u64 (b.id : Nat)] 35)) (W.heap.size + 1 + 1) 64 #[.int .u64 0, .int .u64 0, .int .u64 0, .int .u64 0, .int .i64 0] (by simp))
 have HY0 := hid_ (show lateB r b = (decide (b.pos = 0) || lessB b r.p) from rfl)
 have HYes := hid_ (fun h => prep_yes (r := r) (b := b) h)
 have HNo := hid_ (fun h => prep_no (r := r) (b := b) h)
 generalize lessB b r.p = l at *
 cases l
 ·by_cases h0 : b.pos = 0
  ·have HE := hid_ (show lateB r b = true by rw [HY0.out, decide_eq_true h0]; rfl)
   have e1 : (b.pos == 0) = true := by rw [beq_iff_eq]; exact h0
   have e2 : (((b.pos : Nat) : Int) == 0) = true := by rw [beq_iff_eq]; omega
   rw [HNo.out HE.out, HE.out]
   clear HYes HNo HY0 HE h0
   go_enter Tryz.func43, Tryz.ntmps43
   go_wp2_with fail
   (with_reducible refine Calls.mono (HR.out _) ?_)
   rintro e w1 ⟨rfl, hb⟩
   have HB1 := hid_ (HB.out.trans (hb.mono HB.out.size))
   have HW1 := hid_ (HW.out.below hb HW.out.lt)
   have HX1 := hid_ (HX.out.below hb HX.out.lt)
   have HY1 := hid_ (HY.out.below hb HY.out.lt)
   clear hb
   have y0 := HW1.out.cell 0 (.int .u64 (r.p.pos : Nat)) rfl
   have y1 := HW1.out.cell 1 (.int .u64 (r.p.id : Nat)) rfl
   have y2 := HW1.out.cell 2 (.int .u64 (r.t.pos : Nat)) rfl
   have y3 := HW1.out.cell 3 (.int .u64 (r.t.id : Nat)) rfl
   have y4 := HW1.out.cell 4 (.int .i64 r.v) rfl
   have z0 := HX1.out.cell 0 (.int .u64 (b.pos : Nat)) rfl
   have z1 := HX1.out.cell 1 (.int .u64 (b.id : Nat)) rfl
   have f0 := fun i => HW1.out.free i
   have f1 := fun i => HY1.out.free i
   have u0 := HY1.out.cell 0 (.int .u64 0) rfl
   have u1 := HY1.out.cell 1 (.int .u64 0) rfl
   have u2 := HY1.out.cell 2 (.int .u64 0) rfl
   have u3 := HY1.out.cell 3 (.int .u64 0) rfl
   have u4 := HY1.out.cell 4 (.int .i64 0) rfl
   go_wp2_with fail
   exact bodyPost_ret (v := .tuple #[regVal r, .bool false]) (by simp [results, Tryz.results43, go_sem, u0, u1, u2, u3, u4]) rfl (retB_mk (by simp) (below_set5 HB1.out (by omega) _ _ _ _ _))
  ·have HE := hid_ (show lateB r b = false by rw [HY0.out, decide_eq_false h0]; rfl)
   have e1 : (b.pos == 0) = false := by rw [beq_eq_false_iff_ne]; exact h0
   have e2 : (((b.pos : Nat) : Int) == 0) = false := by rw [beq_eq_false_iff_ne]; omega
   rw [HYes.out HE.out, HE.out]
   clear HYes HNo HY0 HE h0
   go_enter Tryz.func43, Tryz.ntmps43
   go_wp2_with fail
   (with_reducible refine Calls.mono (HR.out _) ?_)
   rintro e w1 ⟨rfl, hb⟩
   have HB1 := hid_ (HB.out.trans (hb.mono HB.out.size))
   have HW1 := hid_ (HW.out.below hb HW.out.lt)
   have HX1 := hid_ (HX.out.below hb HX.out.lt)
   have HY1 := hid_ (HY.out.below hb HY.out.lt)
   clear hb
   have y0 := HW1.out.cell 0 (.int .u64 (r.p.pos : Nat)) rfl
   have y1 := HW1.out.cell 1 (.int .u64 (r.p.id : Nat)) rfl
   have y2 := HW1.out.cell 2 (.int .u64 (r.t.pos : Nat)) rfl
   have y3 := HW1.out.cell 3 (.int .u64 (r.t.id : Nat)) rfl
   have y4 := HW1.out.cell 4 (.int .i64 r.v) rfl
   have z0 := HX1.out.cell 0 (.int .u64 (b.pos : Nat)) rfl
   have z1 := HX1.out.cell 1 (.int .u64 (b.id : Nat)) rfl
   have f0 := fun i => HW1.out.free i
   have f1 := fun i => HY1.out.free i
   have u0 := HY1.out.cell 0 (.int .u64 0) rfl
   have u1 := HY1.out.cell 1 (.int .u64 0) rfl
   have u2 := HY1.out.cell 2 (.int .u64 0) rfl
   have u3 := HY1.out.cell 3 (.int .u64 0) rfl
   have u4 := HY1.out.cell 4 (.int .i64 0) rfl
   go_wp2_with fail
   exact bodyPost_ret (v := .tuple #[regVal ⟨b, r.t, r.v⟩, .bool true]) (by simp [results, Tryz.results43, go_sem, u0, u1, u2, u3, u4]) rfl (retB_mk (by simp) (below_set5 (below_set2 HB1.out (Nat.le_refl _) _ _) (by omega) _ _ _ _ _))
 ·have HE := hid_ (show lateB r b = true by rw [HY0.out]; simp)
  rw [HNo.out HE.out, HE.out]
  clear HYes HNo HY0 HE
  go_enter Tryz.func43, Tryz.ntmps43
  go_wp2_with fail
  (with_reducible refine Calls.mono (HR.out _) ?_)
  rintro e w1 ⟨rfl, hb⟩
  have HB1 := hid_ (HB.out.trans (hb.mono HB.out.size))
  have HW1 := hid_ (HW.out.below hb HW.out.lt)
  have HX1 := hid_ (HX.out.below hb HX.out.lt)
  have HY1 := hid_ (HY.out.below hb HY.out.lt)
  clear hb
  have y0 := HW1.out.cell 0 (.int .u64 (r.p.pos : Nat)) rfl
  have y1 := HW1.out.cell 1 (.int .u64 (r.p.id : Nat)) rfl
  have y2 := HW1.out.cell 2 (.int .u64 (r.t.pos : Nat)) rfl
  have y3 := HW1.out.cell 3 (.int .u64 (r.t.id : Nat)) rfl
  have y4 := HW1.out.cell 4 (.int .i64 r.v) rfl
  have z0 := HX1.out.cell 0 (.int .u64 (b.pos : Nat)) rfl
  have z1 := HX1.out.cell 1 (.int .u64 (b.id : Nat)) rfl
  have f0 := fun i => HW1.out.free i
  have f1 := fun i => HY1.out.free i
  have u0 := HY1.out.cell 0 (.int .u64 0) rfl
  have u1 := HY1.out.cell 1 (.int .u64 0) rfl
  have u2 := HY1.out.cell 2 (.int .u64 0) rfl
  have u3 := HY1.out.cell 3 (.int .u64 0) rfl
  have u4 := HY1.out.cell 4 (.int .i64 0) rfl
  go_wp2_with fail
  exact bodyPost_ret (v := .tuple #[regVal r, .bool false]) (by simp [results, Tryz.results43, go_sem, u0, u1, u2, u3, u4]) rfl (retB_mk (by simp) (below_set5 HB1.out (by omega) _ _ _ _ _))
set_option maxRecDepth 20000 in
set_option maxHeartbeats 4000000 in
theorem raccept_any (r : RegD) (b : BalD) (v : Int) (W : World) : Calls Tryz.prog 44 #[regVal r, ptVal b, .int .i64 v] W (RetB W.heap.size W (.tuple #[regVal (accD r b v), .bool (takesB r b v)])) := by
 have HR := hid_ (fun (W : World) => rless_any b r.p W)
 have HK := hid_ (fun w => bal_eql b r.t w)
 have HB := hid_ ((((Below.refl W.heap.size W).alloc (Nat.le_refl _) (.cells (regCells r) 64)).alloc (by simp) (.cells #[.int .u64 (b.pos : Nat), .int .u64 (b.id : Nat)] 35)).alloc (by simp; omega) (.cells #[.int .u64 0, .int .u64 0, .int .u64 0, .int .u64 0, .int .i64 0] 64))
 have HW := hid_ (((whole_new W 64 (regCells r)).alloc (.cells #[.int .u64 (b.pos : Nat), .int .u64 (b.id : Nat)] 35)).alloc (.cells #[.int .u64 0, .int .u64 0, .int .u64 0, .int .u64 0, .int .i64 0] 64))
 have HX := hid_ ((whole_at (W.alloc (.cells (regCells r) 64)) (W.heap.size + 1) 35 #[.int .u64 (b.pos : Nat), .int .u64 (b.id : Nat)] (by simp)).alloc (.cells #[.int .u64 0, .int .u64 0, .int .u64 0, .int .u64 0, .int .i64 0] 64))
 have HY := hid_ (whole_at ((W.alloc (.cells (regCells r) 64)).alloc (.cells #[.int .u64 (b.pos : Nat), .int .u64 (b.id : Nat)] 35)) (W.heap.size + 1 + 1) 64 #[.int .u64 0, .int .u64 0, .int .u64 0, .int .u64 0, .int .i64 0] (by simp))
 have HY0 := hid_ (show takesB r b v = (!(decide (b.pos = 0) || lessB b r.p) && ((decide (1 ≤ v) && decide (v ≤ 3)) && !(sameB b r.t && decide (v ≠ r.v)))) from rfl)
 have HYes := hid_ (fun h => acc_yes (r := r) (b := b) (v := v) h)
 have HNo := hid_ (fun h => acc_no (r := r) (b := b) (v := v) h)
 have kn := HK.out
 have knv := ne_dec v r.v
 generalize sameB b r.t = s at *
 generalize decide (v ≠ r.v) = q at *
 generalize lessB b r.p = l at *
 clear HK
 cases l
 ·by_cases h0 : b.pos = 0
  ·have HE := hid_ (show takesB r b v = false by rw [HY0.out, decide_eq_true h0]; simp)
   have e1 : (b.pos == 0) = true := by rw [beq_iff_eq]; exact h0
   have e2 : (((b.pos : Nat) : Int) == 0) = true := by rw [beq_iff_eq]; omega
   rw [HNo.out HE.out, HE.out]
   clear HYes HNo HY0 HE h0
   go_enter Tryz.func44, Tryz.ntmps44
   go_wp2_with fail
   (with_reducible refine Calls.mono (HR.out _) ?_)
   rintro e w1 ⟨rfl, hb⟩
   have HB1 := hid_ (HB.out.trans (hb.mono HB.out.size))
   have HW1 := hid_ (HW.out.below hb HW.out.lt)
   have HX1 := hid_ (HX.out.below hb HX.out.lt)
   have HY1 := hid_ (HY.out.below hb HY.out.lt)
   clear hb
   have y0 := HW1.out.cell 0 (.int .u64 (r.p.pos : Nat)) rfl
   have y1 := HW1.out.cell 1 (.int .u64 (r.p.id : Nat)) rfl
   have y2 := HW1.out.cell 2 (.int .u64 (r.t.pos : Nat)) rfl
   have y3 := HW1.out.cell 3 (.int .u64 (r.t.id : Nat)) rfl
   have y4 := HW1.out.cell 4 (.int .i64 r.v) rfl
   have z0 := HX1.out.cell 0 (.int .u64 (b.pos : Nat)) rfl
   have z1 := HX1.out.cell 1 (.int .u64 (b.id : Nat)) rfl
   have f0 := fun i => HW1.out.free i
   have f1 := fun i => HY1.out.free i
   have u0 := HY1.out.cell 0 (.int .u64 0) rfl
   have u1 := HY1.out.cell 1 (.int .u64 0) rfl
   have u2 := HY1.out.cell 2 (.int .u64 0) rfl
   have u3 := HY1.out.cell 3 (.int .u64 0) rfl
   have u4 := HY1.out.cell 4 (.int .i64 0) rfl
   go_wp2_with fail
   exact bodyPost_ret (v := .tuple #[regVal r, .bool false]) (by simp [results, Tryz.results44, go_sem, u0, u1, u2, u3, u4]) rfl (retB_mk (by simp) (below_set5 HB1.out (by omega) _ _ _ _ _))
  ·by_cases h1 : v < 1
   ·have HE := hid_ (show takesB r b v = false by rw [HY0.out, decide_eq_false (show ¬ 1 ≤ v by omega)]; simp)
    have v1 : decide (v < 1) = true := decide_eq_true (by omega)
    have e1 : (b.pos == 0) = false := by rw [beq_eq_false_iff_ne]; exact h0
    have e2 : (((b.pos : Nat) : Int) == 0) = false := by rw [beq_eq_false_iff_ne]; omega
    rw [HNo.out HE.out, HE.out]
    clear HYes HNo HY0 HE h0 h1
    go_enter Tryz.func44, Tryz.ntmps44
    go_wp2_with fail
    (with_reducible refine Calls.mono (HR.out _) ?_)
    rintro e w1 ⟨rfl, hb⟩
    have HB1 := hid_ (HB.out.trans (hb.mono HB.out.size))
    have HW1 := hid_ (HW.out.below hb HW.out.lt)
    have HX1 := hid_ (HX.out.below hb HX.out.lt)
    have HY1 := hid_ (HY.out.below hb HY.out.lt)
    clear hb
    have y0 := HW1.out.cell 0 (.int .u64 (r.p.pos : Nat)) rfl
    have y1 := HW1.out.cell 1 (.int .u64 (r.p.id : Nat)) rfl
    have y2 := HW1.out.cell 2 (.int .u64 (r.t.pos : Nat)) rfl
    have y3 := HW1.out.cell 3 (.int .u64 (r.t.id : Nat)) rfl
    have y4 := HW1.out.cell 4 (.int .i64 r.v) rfl
    have z0 := HX1.out.cell 0 (.int .u64 (b.pos : Nat)) rfl
    have z1 := HX1.out.cell 1 (.int .u64 (b.id : Nat)) rfl
    have f0 := fun i => HW1.out.free i
    have f1 := fun i => HY1.out.free i
    have u0 := HY1.out.cell 0 (.int .u64 0) rfl
    have u1 := HY1.out.cell 1 (.int .u64 0) rfl
    have u2 := HY1.out.cell 2 (.int .u64 0) rfl
    have u3 := HY1.out.cell 3 (.int .u64 0) rfl
    have u4 := HY1.out.cell 4 (.int .i64 0) rfl
    go_wp2_with fail
    exact bodyPost_ret (v := .tuple #[regVal r, .bool false]) (by simp [results, Tryz.results44, go_sem, u0, u1, u2, u3, u4]) rfl (retB_mk (by simp) (below_set5 HB1.out (by omega) _ _ _ _ _))
   ·by_cases h3 : 3 < v
    ·have HE := hid_ (show takesB r b v = false by rw [HY0.out, decide_eq_false (show ¬ v ≤ 3 by omega)]; simp)
     have v1 : decide (v < 1) = false := decide_eq_false (by omega)
     have v3 : decide (v > 3) = true := decide_eq_true (by omega)
     have v4 : decide (3 < v) = true := decide_eq_true (by omega)
     have e1 : (b.pos == 0) = false := by rw [beq_eq_false_iff_ne]; exact h0
     have e2 : (((b.pos : Nat) : Int) == 0) = false := by rw [beq_eq_false_iff_ne]; omega
     rw [HNo.out HE.out, HE.out]
     clear HYes HNo HY0 HE h0 h1 h3
     go_enter Tryz.func44, Tryz.ntmps44
     go_wp2_with fail
     (with_reducible refine Calls.mono (HR.out _) ?_)
     rintro e w1 ⟨rfl, hb⟩
     have HB1 := hid_ (HB.out.trans (hb.mono HB.out.size))
     have HW1 := hid_ (HW.out.below hb HW.out.lt)
     have HX1 := hid_ (HX.out.below hb HX.out.lt)
     have HY1 := hid_ (HY.out.below hb HY.out.lt)
     clear hb
     have y0 := HW1.out.cell 0 (.int .u64 (r.p.pos : Nat)) rfl
     have y1 := HW1.out.cell 1 (.int .u64 (r.p.id : Nat)) rfl
     have y2 := HW1.out.cell 2 (.int .u64 (r.t.pos : Nat)) rfl
     have y3 := HW1.out.cell 3 (.int .u64 (r.t.id : Nat)) rfl
     have y4 := HW1.out.cell 4 (.int .i64 r.v) rfl
     have z0 := HX1.out.cell 0 (.int .u64 (b.pos : Nat)) rfl
     have z1 := HX1.out.cell 1 (.int .u64 (b.id : Nat)) rfl
     have f0 := fun i => HW1.out.free i
     have f1 := fun i => HY1.out.free i
     have u0 := HY1.out.cell 0 (.int .u64 0) rfl
     have u1 := HY1.out.cell 1 (.int .u64 0) rfl
     have u2 := HY1.out.cell 2 (.int .u64 0) rfl
     have u3 := HY1.out.cell 3 (.int .u64 0) rfl
     have u4 := HY1.out.cell 4 (.int .i64 0) rfl
     go_wp2_with fail
     exact bodyPost_ret (v := .tuple #[regVal r, .bool false]) (by simp [results, Tryz.results44, go_sem, u0, u1, u2, u3, u4]) rfl (retB_mk (by simp) (below_set5 HB1.out (by omega) _ _ _ _ _))
    ·have v1 : decide (v < 1) = false := decide_eq_false (by omega)
     have v3 : decide (v > 3) = false := decide_eq_false (by omega)
     have v4 : decide (3 < v) = false := decide_eq_false (by omega)
     have e1 : (b.pos == 0) = false := by rw [beq_eq_false_iff_ne]; exact h0
     have e2 : (((b.pos : Nat) : Int) == 0) = false := by rw [beq_eq_false_iff_ne]; omega
     have HYx := hid_ (show takesB r b v = !(s && q) by rw [HY0.out, decide_eq_false h0, decide_eq_true (show 1 ≤ v by omega), decide_eq_true (show v ≤ 3 by omega)]; simp)
     clear h0 h1 h3 HY0
     cases s
     ·have HE := hid_ (show takesB r b v = true from HYx.out)
      rw [HYes.out HE.out, HE.out]
      clear HYes HNo HYx HE
      go_enter Tryz.func44, Tryz.ntmps44
      go_wp2_with fail
      (with_reducible refine Calls.mono (HR.out _) ?_)
      rintro e w1 ⟨rfl, hb⟩
      have HB1 := hid_ (HB.out.trans (hb.mono HB.out.size))
      have HW1 := hid_ (HW.out.below hb HW.out.lt)
      have HX1 := hid_ (HX.out.below hb HX.out.lt)
      have HY1 := hid_ (HY.out.below hb HY.out.lt)
      clear hb
      have y0 := HW1.out.cell 0 (.int .u64 (r.p.pos : Nat)) rfl
      have y1 := HW1.out.cell 1 (.int .u64 (r.p.id : Nat)) rfl
      have y2 := HW1.out.cell 2 (.int .u64 (r.t.pos : Nat)) rfl
      have y3 := HW1.out.cell 3 (.int .u64 (r.t.id : Nat)) rfl
      have y4 := HW1.out.cell 4 (.int .i64 r.v) rfl
      have z0 := HX1.out.cell 0 (.int .u64 (b.pos : Nat)) rfl
      have z1 := HX1.out.cell 1 (.int .u64 (b.id : Nat)) rfl
      have f0 := fun i => HW1.out.free i
      have f1 := fun i => HY1.out.free i
      have u0 := HY1.out.cell 0 (.int .u64 0) rfl
      have u1 := HY1.out.cell 1 (.int .u64 0) rfl
      have u2 := HY1.out.cell 2 (.int .u64 0) rfl
      have u3 := HY1.out.cell 3 (.int .u64 0) rfl
      have u4 := HY1.out.cell 4 (.int .i64 0) rfl
      go_wp2_with fail
      exact bodyPost_ret (v := .tuple #[regVal ⟨b, b, v⟩, .bool true]) (by simp [results, Tryz.results44, go_sem, u0, u1, u2, u3, u4]) rfl (retB_mk (by simp) (below_set5 HB1.out (by omega) _ _ _ _ _))
     ·cases q
      ·have HE := hid_ (show takesB r b v = true from HYx.out)
       rw [HYes.out HE.out, HE.out]
       clear HYes HNo HYx HE
       go_enter Tryz.func44, Tryz.ntmps44
       go_wp2_with fail
       (with_reducible refine Calls.mono (HR.out _) ?_)
       rintro e w1 ⟨rfl, hb⟩
       have HB1 := hid_ (HB.out.trans (hb.mono HB.out.size))
       have HW1 := hid_ (HW.out.below hb HW.out.lt)
       have HX1 := hid_ (HX.out.below hb HX.out.lt)
       have HY1 := hid_ (HY.out.below hb HY.out.lt)
       clear hb
       have y0 := HW1.out.cell 0 (.int .u64 (r.p.pos : Nat)) rfl
       have y1 := HW1.out.cell 1 (.int .u64 (r.p.id : Nat)) rfl
       have y2 := HW1.out.cell 2 (.int .u64 (r.t.pos : Nat)) rfl
       have y3 := HW1.out.cell 3 (.int .u64 (r.t.id : Nat)) rfl
       have y4 := HW1.out.cell 4 (.int .i64 r.v) rfl
       have z0 := HX1.out.cell 0 (.int .u64 (b.pos : Nat)) rfl
       have z1 := HX1.out.cell 1 (.int .u64 (b.id : Nat)) rfl
       have f0 := fun i => HW1.out.free i
       have f1 := fun i => HY1.out.free i
       have u0 := HY1.out.cell 0 (.int .u64 0) rfl
       have u1 := HY1.out.cell 1 (.int .u64 0) rfl
       have u2 := HY1.out.cell 2 (.int .u64 0) rfl
       have u3 := HY1.out.cell 3 (.int .u64 0) rfl
       have u4 := HY1.out.cell 4 (.int .i64 0) rfl
       go_wp2_with fail
       exact bodyPost_ret (v := .tuple #[regVal ⟨b, b, v⟩, .bool true]) (by simp [results, Tryz.results44, go_sem, u0, u1, u2, u3, u4]) rfl (retB_mk (by simp) (below_set5 HB1.out (by omega) _ _ _ _ _))
      ·have HE := hid_ (show takesB r b v = false from HYx.out)
       rw [HNo.out HE.out, HE.out]
       clear HYes HNo HYx HE
       go_enter Tryz.func44, Tryz.ntmps44
       go_wp2_with fail
       (with_reducible refine Calls.mono (HR.out _) ?_)
       rintro e w1 ⟨rfl, hb⟩
       have HB1 := hid_ (HB.out.trans (hb.mono HB.out.size))
       have HW1 := hid_ (HW.out.below hb HW.out.lt)
       have HX1 := hid_ (HX.out.below hb HX.out.lt)
       have HY1 := hid_ (HY.out.below hb HY.out.lt)
       clear hb
       have y0 := HW1.out.cell 0 (.int .u64 (r.p.pos : Nat)) rfl
       have y1 := HW1.out.cell 1 (.int .u64 (r.p.id : Nat)) rfl
       have y2 := HW1.out.cell 2 (.int .u64 (r.t.pos : Nat)) rfl
       have y3 := HW1.out.cell 3 (.int .u64 (r.t.id : Nat)) rfl
       have y4 := HW1.out.cell 4 (.int .i64 r.v) rfl
       have z0 := HX1.out.cell 0 (.int .u64 (b.pos : Nat)) rfl
       have z1 := HX1.out.cell 1 (.int .u64 (b.id : Nat)) rfl
       have f0 := fun i => HW1.out.free i
       have f1 := fun i => HY1.out.free i
       have u0 := HY1.out.cell 0 (.int .u64 0) rfl
       have u1 := HY1.out.cell 1 (.int .u64 0) rfl
       have u2 := HY1.out.cell 2 (.int .u64 0) rfl
       have u3 := HY1.out.cell 3 (.int .u64 0) rfl
       have u4 := HY1.out.cell 4 (.int .i64 0) rfl
       go_wp2_with fail
       exact bodyPost_ret (v := .tuple #[regVal r, .bool false]) (by simp [results, Tryz.results44, go_sem, u0, u1, u2, u3, u4]) rfl (retB_mk (by simp) (below_set5 HB1.out (by omega) _ _ _ _ _))
 ·have HE := hid_ (show takesB r b v = false by rw [HY0.out]; simp)
  rw [HNo.out HE.out, HE.out]
  clear HYes HNo HY0 HE 
  go_enter Tryz.func44, Tryz.ntmps44
  go_wp2_with fail
  (with_reducible refine Calls.mono (HR.out _) ?_)
  rintro e w1 ⟨rfl, hb⟩
  have HB1 := hid_ (HB.out.trans (hb.mono HB.out.size))
  have HW1 := hid_ (HW.out.below hb HW.out.lt)
  have HX1 := hid_ (HX.out.below hb HX.out.lt)
  have HY1 := hid_ (HY.out.below hb HY.out.lt)
  clear hb
  have y0 := HW1.out.cell 0 (.int .u64 (r.p.pos : Nat)) rfl
  have y1 := HW1.out.cell 1 (.int .u64 (r.p.id : Nat)) rfl
  have y2 := HW1.out.cell 2 (.int .u64 (r.t.pos : Nat)) rfl
  have y3 := HW1.out.cell 3 (.int .u64 (r.t.id : Nat)) rfl
  have y4 := HW1.out.cell 4 (.int .i64 r.v) rfl
  have z0 := HX1.out.cell 0 (.int .u64 (b.pos : Nat)) rfl
  have z1 := HX1.out.cell 1 (.int .u64 (b.id : Nat)) rfl
  have f0 := fun i => HW1.out.free i
  have f1 := fun i => HY1.out.free i
  have u0 := HY1.out.cell 0 (.int .u64 0) rfl
  have u1 := HY1.out.cell 1 (.int .u64 0) rfl
  have u2 := HY1.out.cell 2 (.int .u64 0) rfl
  have u3 := HY1.out.cell 3 (.int .u64 0) rfl
  have u4 := HY1.out.cell 4 (.int .i64 0) rfl
  go_wp2_with fail
  exact bodyPost_ret (v := .tuple #[regVal r, .bool false]) (by simp [results, Tryz.results44, go_sem, u0, u1, u2, u3, u4]) rfl (retB_mk (by simp) (below_set5 HB1.out (by omega) _ _ _ _ _))
end Re
end Go.Proofs.YthjhofmjhmnddaaGreat
