/-
  What a register answers, by the program and by the document; a register as the other's; the document's Right.
-/
import Derived.Test.YthjhofmjhmnddaaGreatMGAC
import Derived.Test.YthjhofmjhmnddaaGreatMGBD
import Derived.Test.YthjhofmjhmnddaaGreatMGBF
import Derived.Deep.CutRange
import Derived.Lib.QuietBelow
set_option linter.unusedSimpArgs false
set_option linter.unusedVariables false
namespace Go.Proofs.YthjhofmjhmnddaaGreat
open Go.RowKit Rg Bl
namespace Re
abbrev noS : PackS := ⟨none, 0, none, 0, none, 0⟩
def ansP (r : RegD) (trace : Nat) (b : BalD) (ok took : Bool) : PackD :=
 ⟨if took then 7 else 5, trace, b.pos, b.id, if ok then (if took then 0 else r.t.pos) else r.p.pos, if ok then (if took then 0 else r.t.id) else r.p.id, if ok && !took then r.v else 0, ok, [], [], []⟩
set_option maxRecDepth 20000 in
set_option maxHeartbeats 4000000 in
theorem answer_any (r : RegD) (trace : Nat) (b : BalD) (ok took : Bool) (W : World) : Calls Tryz.prog 39 #[regVal r, .int .u64 (trace : Nat), ptVal b, .bool ok, .bool took] W (RetB W.heap.size W (packVal (ansP r trace b ok took) noS)) := by
 cases ok
 ·cases took
  ·go_enter Tryz.func39, Tryz.ntmps39
   go_wp2_with fail
   exact bodyPost_ret (v := packVal (ansP r trace b false false) noS) (by simp [results, Tryz.results39, go_sem, ansP]) rfl (retB_mk rfl (by repeat (first | exact Below.refl _ _ | apply Below.drew | refine Below.setCell ?_ (by simp; try omega) _ | refine Below.alloc ?_ (by simp; try omega) _)))
  ·go_enter Tryz.func39, Tryz.ntmps39
   go_wp2_with fail
   exact bodyPost_ret (v := packVal (ansP r trace b false true) noS) (by simp [results, Tryz.results39, go_sem, ansP]) rfl (retB_mk rfl (by repeat (first | exact Below.refl _ _ | apply Below.drew | refine Below.setCell ?_ (by simp; try omega) _ | refine Below.alloc ?_ (by simp; try omega) _)))
 ·cases took
  ·go_enter Tryz.func39, Tryz.ntmps39
   go_wp2_with fail
   go_region
   go_wp2_with fail
   exact bodyPost_ret (v := packVal (ansP r trace b true false) noS) (by simp [results, Tryz.results39, go_sem, ansP]) rfl (retB_mk rfl (by repeat (first | exact Below.refl _ _ | apply Below.drew | refine Below.setCell ?_ (by simp; try omega) _ | refine Below.alloc ?_ (by simp; try omega) _)))
  ·go_enter Tryz.func39, Tryz.ntmps39
   go_wp2_with fail
   exact bodyPost_ret (v := packVal (ansP r trace b true true) noS) (by simp [results, Tryz.results39, go_sem, ansP]) rfl (retB_mk rfl (by repeat (first | exact Below.refl _ _ | apply Below.drew | refine Below.setCell ?_ (by simp; try omega) _ | refine Below.alloc ?_ (by simp; try omega) _)))
set_option maxRecDepth 20000 in
set_option maxHeartbeats 4000000 in
theorem ranswer_any (r : RegD) (trace : Nat) (b : BalD) (ok took : Bool) (W : World) : Calls Tryz.prog 46 #[regVal r, .int .u64 (trace : Nat), ptVal b, .bool ok, .bool took] W (RetB W.heap.size W (packVal (ansP r trace b ok took) noS)) := by
 cases ok
 ·cases took
  ·go_enter Tryz.func46, Tryz.ntmps46
   go_wp2_with fail
   exact bodyPost_ret (v := packVal (ansP r trace b false false) noS) (by simp [results, Tryz.results46, go_sem, ansP]) rfl (retB_mk rfl (by repeat (first | exact Below.refl _ _ | apply Below.drew | refine Below.setCell ?_ (by simp; try omega) _ | refine Below.alloc ?_ (by simp; try omega) _)))
  ·go_enter Tryz.func46, Tryz.ntmps46
   go_wp2_with fail
   exact bodyPost_ret (v := packVal (ansP r trace b false true) noS) (by simp [results, Tryz.results46, go_sem, ansP]) rfl (retB_mk rfl (by repeat (first | exact Below.refl _ _ | apply Below.drew | refine Below.setCell ?_ (by simp; try omega) _ | refine Below.alloc ?_ (by simp; try omega) _)))
 ·cases took
  ·go_enter Tryz.func46, Tryz.ntmps46
   go_wp2_with fail
   exact bodyPost_ret (v := packVal (ansP r trace b true false) noS) (by simp [results, Tryz.results46, go_sem, ansP]) rfl (retB_mk rfl (by repeat (first | exact Below.refl _ _ | apply Below.drew | refine Below.setCell ?_ (by simp; try omega) _ | refine Below.alloc ?_ (by simp; try omega) _)))
  ·go_enter Tryz.func46, Tryz.ntmps46
   go_wp2_with fail
   exact bodyPost_ret (v := packVal (ansP r trace b true true) noS) (by simp [results, Tryz.results46, go_sem, ansP]) rfl (retB_mk rfl (by repeat (first | exact Below.refl _ _ | apply Below.drew | refine Below.setCell ?_ (by simp; try omega) _ | refine Below.alloc ?_ (by simp; try omega) _)))
set_option maxRecDepth 20000 in
set_option maxHeartbeats 4000000 in
theorem back_any (r : RegD) (W : World) : Calls Tryz.prog 24 #[regVal r] W (RetB W.heap.size W (regVal r)) := by
 go_enter Tryz.func24, Tryz.ntmps24
 go_wp2_with fail
 exact bodyPost_ret (v := regVal r) (by simp [results, Tryz.results24, go_sem]) rfl (retB_mk rfl (by repeat (first | exact Below.refl _ _ | apply Below.drew | refine Below.setCell ?_ (by simp; try omega) _ | refine Below.alloc ?_ (by simp; try omega) _)))
end Re
end Go.Proofs.YthjhofmjhmnddaaGreat
/-
 A register that a law is given; the chapter's example; registers held against one another whole.
-/
namespace Go.Proofs.YthjhofmjhmnddaaGreat
open Go.RowKit Rg Bl Go.ChangeShapes Go.WideShapes
namespace Re
section
variable {H : Type} {enc : TypeId × Value → H} {w : World} {base : Nat} {spare : Nat → Bool} {held : Bool} {fuel : Nat}
def Wf (r : RegD) : Prop := Bl.Wf r.p ∧ Bl.Wf r.t ∧ -9223372036854775808 ≤ r.v ∧ r.v ≤ 9223372036854775807
def RegV (_w : World) (v : Value) : Prop := ∃ r : RegD, Wf r ∧ v = regVal r
end
set_option maxRecDepth 100000 in
theorem reg_equalIn (T : TypeId) (hT : T = 54 ∨ T = 64) (a b : RegD) (w : World) : (Op.equalIn 10000 T (regVal a) (regVal b)).run Tryz.prog w = .ok (sameR a b) w := by
 rcases hT with rfl | rfl
 ·rw [run_equalIn_agg w 9999 54 _ _ (by kernel_rfl) (by kernel_rfl)]
  simp [Program.fieldsOf, Tryz.underlying54, Tryz.underlying35, Op.eqFields, part, go_sem]
  simp only [Int.ofNat_inj]
  unfold sameR sameB
  repeat' split
  all_goals simp_all
 ·rw [run_equalIn_agg w 9999 64 _ _ (by kernel_rfl) (by kernel_rfl)]
  simp [Program.fieldsOf, Tryz.underlying64, Tryz.underlying35, Op.eqFields, part, go_sem]
  simp only [Int.ofNat_inj]
  unfold sameR sameB
  repeat' split
  all_goals simp_all
theorem reg_eql (a b : RegD) (w : World) : (binOp .eql 54 (regVal a) (regVal b)).run Tryz.prog w = .ok (.bool (sameR a b)) w := by
 rw [run_eql_struct, reg_equalIn _ (.inl rfl)]
 rfl
theorem reg_neq (a b : RegD) (w : World) : (binOp .neq 54 (regVal a) (regVal b)).run Tryz.prog w = .ok (.bool (!sameR a b)) w := by
 rw [run_neq_struct, reg_equalIn _ (.inl rfl)]
 rfl
end Re
end Go.Proofs.YthjhofmjhmnddaaGreat
/-
 The chapter's example.
-/
namespace Go.Proofs.YthjhofmjhmnddaaGreat
open Go.RowKit Rg Bl
namespace Re
end Re
end Go.Proofs.YthjhofmjhmnddaaGreat
/-
 Registers and ballots that a law holds in blocks of their own.
-/
namespace Go.Proofs.YthjhofmjhmnddaaGreat
open Go.RowKit Rg Bl
namespace Re
abbrev R5 (W : World) (g : Nat) (r : RegD) : Prop := W.cell? ⟨g, 0, none⟩ = some (.int .u64 (r.p.pos : Nat)) ∧ W.cell? ⟨g, 1, none⟩ = some (.int .u64 (r.p.id : Nat)) ∧ W.cell? ⟨g, 2, none⟩ = some (.int .u64 (r.t.pos : Nat)) ∧ W.cell? ⟨g, 3, none⟩ = some (.int .u64 (r.t.id : Nat)) ∧ W.cell? ⟨g, 4, none⟩ = some (.int .i64 r.v)
abbrev B2 (W : World) (g : Nat) (b : BalD) : Prop := W.cell? ⟨g, 0, none⟩ = some (.int .u64 (b.pos : Nat)) ∧ W.cell? ⟨g, 1, none⟩ = some (.int .u64 (b.id : Nat))
theorem r5_of {W : World} {g : Nat} {T : TypeId} {r : RegD} (h : Whole W g T (regCells r)) : R5 W g r := ⟨h.cell 0 _ rfl, h.cell 1 _ rfl, h.cell 2 _ rfl, h.cell 3 _ rfl, h.cell 4 _ rfl⟩
theorem r5_below {W W' : World} {g : Nat} {r : RegD} (h : R5 W g r) (hb : Below W.heap.size W W') : R5 W' g r := by
 obtain ⟨a, b, c, d, e⟩ := h
 exact ⟨by rw [hb.cell (lt_of_cell a)]; exact a, by rw [hb.cell (lt_of_cell b)]; exact b, by rw [hb.cell (lt_of_cell c)]; exact c, by rw [hb.cell (lt_of_cell d)]; exact d, by rw [hb.cell (lt_of_cell e)]; exact e⟩
theorem whole_past {w1 w' : World} {cs : Array Value} {T : TypeId} (hb : Below (w1.alloc (.cells cs T)).heap.size (w1.alloc (.cells cs T)) w') : Whole w' w1.heap.size T cs := (whole_new w1 T cs).below hb (whole_new w1 T cs).lt
theorem whole_pastD {w1 w' : World} {cs : Array Value} {T : TypeId} (hb : Below (w1.alloc (.cells cs T)).drew.heap.size (w1.alloc (.cells cs T)).drew w') : Whole w' w1.heap.size T cs := (Whole.drew (whole_new w1 T cs)).below hb (Whole.drew (whole_new w1 T cs)).lt
theorem whole_gone {w1 w' : World} {g : Nat} {cs : Array Value} {T : TypeId} (h : Whole w1 g T cs) (hb : Below w1.heap.size w1 w') : Whole w' g T cs := h.below hb h.lt
theorem chain0 {a b c : World} (h : Below a.heap.size a b) (k : Below b.heap.size b c) : Below a.heap.size a c := h.trans (k.mono h.size)
theorem chainD {a b c : World} (h : Below a.heap.size a b) (k : Below b.drew.heap.size b.drew c) : Below a.heap.size a c := (Below.drew h).trans (k.mono h.size)
theorem chainA {a b c : World} {o : Obj} (h : Below a.heap.size a b) (k : Below (b.alloc o).heap.size (b.alloc o) c) : Below a.heap.size a c := (h.alloc h.size o).trans (k.mono (h.alloc h.size o).size)
theorem chainAD {a b c : World} {o : Obj} (h : Below a.heap.size a b) (k : Below (b.alloc o).drew.heap.size (b.alloc o).drew c) : Below a.heap.size a c := (Below.drew (h.alloc h.size o)).trans (k.mono (h.alloc h.size o).size)
theorem chainDA {a b c : World} {o : Obj} (h : Below a.heap.size a b) (k : Below (b.drew.alloc o).heap.size (b.drew.alloc o) c) : Below a.heap.size a c := ((Below.drew h).alloc h.size o).trans (k.mono (h.alloc h.size o).size)
abbrev RbIn (w1 : World) (g : Nat) (r : RegD) (h : Nat) (b : BalD) (W : World) : Prop := Below w1.heap.size w1 W ∧ R5 W g r ∧ B2 W h b
def KeptR (w1 : World) (T : TypeId) (x : RegD) (k : Bool) (v v' : Value) (W : World) : Prop := ∃ g, v = .pointer (some ⟨g, 0, none⟩) ∧ v' = .bool k ∧ w1.heap.size ≤ g ∧ Whole W g T (regCells x) ∧ Below w1.heap.size w1 W
theorem keptR_mk {w1 W : World} {T : TypeId} {x : RegD} {k k' : Bool} {g : Nat} (h0 : k = k') (h : w1.heap.size ≤ g) (hw : Whole W g T (regCells x)) (hb : Below w1.heap.size w1 W) : KeptR w1 T x k (.pointer (some ⟨g, 0, none⟩)) (.bool k') W := ⟨g, rfl, by rw [h0], h, hw, hb⟩
abbrev StIn (w1 : World) (g : Nat) (r : RegD) (h : Nat) (b : BalD) (gx gy : Nat) (x : RegD) (gp gv : Nat) (q : RegD) (W : World) : Prop := RbIn w1 g r h b W ∧ R5 W gx x ∧ R5 W gy x ∧ R5 W gp q ∧ R5 W gv q
end Re
end Go.Proofs.YthjhofmjhmnddaaGreat
