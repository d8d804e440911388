/-
  What a register answers, by the program and by the document; a register as the other's; the document's Right.
-/
import Derived.Test.YtljlhaillmeedaaZGRF
import Derived.Test.YtljlhaillmeedaaZGRI
import Derived.Test.YtljlhaillmeedaaZGRM
import Derived.Deep.CutRange
import Derived.Lib.QuietBelow
namespace Go.Proofs.Ytljlhaillmeedaa
set_option linter.unusedSimpArgs false
set_option linter.unusedVariables false
open Go.RowKit Rg Bl
namespace Re
set_option linter.unusedSimpArgs false
set_option linter.unusedVariables false
abbrev noS : PackS := ⟨none, 0, none, 0, none, 0⟩
def ansP (r : RegD) (trace : Nat) (b : BalD) (ok took : Bool) : PackD :=
  ⟨if took then 7 else 5, trace, b.pos, b.id, if ok then (if took then 0 else r.t.pos) else r.p.pos, if ok then (if took then 0 else r.t.id) else r.p.id, if ok && !took then r.v else 0, ok, [], [], []⟩
set_option maxRecDepth 20000 in
set_option maxHeartbeats 4000000 in
theorem answer_any (r : RegD) (trace : Nat) (b : BalD) (ok took : Bool) (W : World) : Calls Try.prog 34 #[regVal r, .int .u64 (trace : Nat), ptVal b, .bool ok, .bool took] W (RetB W.heap.size W (packVal (ansP r trace b ok took) noS)) := by
  cases ok
  · cases took
    · go_enter Try.func34, Try.ntmps34
      go_wp2_with fail
      exact bodyPost_ret (v := packVal (ansP r trace b false false) noS) (by simp [results, Try.results34, go_sem, ansP]) rfl (retB_mk rfl (by repeat (first | exact Below.refl _ _ | apply Below.drew | refine Below.setCell ?_ (by simp; try omega) _ | refine Below.alloc ?_ (by simp; try omega) _)))
    · go_enter Try.func34, Try.ntmps34
      go_wp2_with fail
      exact bodyPost_ret (v := packVal (ansP r trace b false true) noS) (by simp [results, Try.results34, go_sem, ansP]) rfl (retB_mk rfl (by repeat (first | exact Below.refl _ _ | apply Below.drew | refine Below.setCell ?_ (by simp; try omega) _ | refine Below.alloc ?_ (by simp; try omega) _)))
  · cases took
    · go_enter Try.func34, Try.ntmps34
      go_wp2_with fail
      go_region
      go_wp2_with fail
      exact bodyPost_ret (v := packVal (ansP r trace b true false) noS) (by simp [results, Try.results34, go_sem, ansP]) rfl (retB_mk rfl (by repeat (first | exact Below.refl _ _ | apply Below.drew | refine Below.setCell ?_ (by simp; try omega) _ | refine Below.alloc ?_ (by simp; try omega) _)))
    · go_enter Try.func34, Try.ntmps34
      go_wp2_with fail
      exact bodyPost_ret (v := packVal (ansP r trace b true true) noS) (by simp [results, Try.results34, go_sem, ansP]) rfl (retB_mk rfl (by repeat (first | exact Below.refl _ _ | apply Below.drew | refine Below.setCell ?_ (by simp; try omega) _ | refine Below.alloc ?_ (by simp; try omega) _)))
set_option maxRecDepth 20000 in
set_option maxHeartbeats 4000000 in
theorem ranswer_any (r : RegD) (trace : Nat) (b : BalD) (ok took : Bool) (W : World) : Calls Try.prog 35 #[regVal r, .int .u64 (trace : Nat), ptVal b, .bool ok, .bool took] W (RetB W.heap.size W (packVal (ansP r trace b ok took) noS)) := by
  cases ok
  · cases took
    · go_enter Try.func35, Try.ntmps35
      go_wp2_with fail
      exact bodyPost_ret (v := packVal (ansP r trace b false false) noS) (by simp [results, Try.results35, go_sem, ansP]) rfl (retB_mk rfl (by repeat (first | exact Below.refl _ _ | apply Below.drew | refine Below.setCell ?_ (by simp; try omega) _ | refine Below.alloc ?_ (by simp; try omega) _)))
    · go_enter Try.func35, Try.ntmps35
      go_wp2_with fail
      exact bodyPost_ret (v := packVal (ansP r trace b false true) noS) (by simp [results, Try.results35, go_sem, ansP]) rfl (retB_mk rfl (by repeat (first | exact Below.refl _ _ | apply Below.drew | refine Below.setCell ?_ (by simp; try omega) _ | refine Below.alloc ?_ (by simp; try omega) _)))
  · cases took
    · go_enter Try.func35, Try.ntmps35
      go_wp2_with fail
      exact bodyPost_ret (v := packVal (ansP r trace b true false) noS) (by simp [results, Try.results35, go_sem, ansP]) rfl (retB_mk rfl (by repeat (first | exact Below.refl _ _ | apply Below.drew | refine Below.setCell ?_ (by simp; try omega) _ | refine Below.alloc ?_ (by simp; try omega) _)))
    · go_enter Try.func35, Try.ntmps35
      go_wp2_with fail
      exact bodyPost_ret (v := packVal (ansP r trace b true true) noS) (by simp [results, Try.results35, go_sem, ansP]) rfl (retB_mk rfl (by repeat (first | exact Below.refl _ _ | apply Below.drew | refine Below.setCell ?_ (by simp; try omega) _ | refine Below.alloc ?_ (by simp; try omega) _)))
set_option maxRecDepth 20000 in
set_option maxHeartbeats 4000000 in
theorem own_any (r : RegD) (W : World) : Calls Try.prog 26 #[regVal r] W (RetB W.heap.size W (regVal r)) := by
  go_enter Try.func26, Try.ntmps26
  go_wp2_with fail
  exact bodyPost_ret (v := regVal r) (by simp [results, Try.results26, go_sem]) rfl (retB_mk rfl (by repeat (first | exact Below.refl _ _ | apply Below.drew | refine Below.setCell ?_ (by simp; try omega) _ | refine Below.alloc ?_ (by simp; try omega) _)))
set_option maxRecDepth 20000 in
set_option maxHeartbeats 4000000 in
theorem back_any (r : RegD) (W : World) : Calls Try.prog 32 #[regVal r] W (RetB W.heap.size W (regVal r)) := by
  go_enter Try.func32, Try.ntmps32
  go_wp2_with fail
  exact bodyPost_ret (v := regVal r) (by simp [results, Try.results32, go_sem]) rfl (retB_mk rfl (by repeat (first | exact Below.refl _ _ | apply Below.drew | refine Below.setCell ?_ (by simp; try omega) _ | refine Below.alloc ?_ (by simp; try omega) _)))
set_option maxRecDepth 20000 in
set_option maxHeartbeats 4000000 in
theorem rright_any (r : RegD) (W : World) : Calls Try.prog 31 #[regVal r] W (RetB W.heap.size W (.bool (rightR r))) := by
  have HL := hid_ (fun (W : World) => rless_any r.p r.t W)
  have HK := hid_ (fun w => zeroB_eql r.t w)
  have HW := hid_ (whole_new W 53 (regCells r))
  have HB := hid_ ((Below.refl W.heap.size W).alloc (Nat.le_refl _) (.cells (regCells r) 53))
  have HE := hid_ (show rightR r = (!lessB r.p r.t && (if sameB r.t ⟨0, 0⟩ = true then decide (r.v = 0) else (decide (1 ≤ r.v) && decide (r.v ≤ 3)))) from rfl)
  have kn := HK.out
  generalize sameB r.t ⟨0, 0⟩ = s at *
  generalize lessB r.p r.t = l at *
  generalize rightR r = z at *
  clear HK
  cases l
  · have HE2 := hid_ (show z = (if s = true then decide (r.v = 0) else (decide (1 ≤ r.v) && decide (r.v ≤ 3))) by rw [HE.out]; rfl)
    clear HE
    by_cases h0 : r.v = 0
    · have e1 : decide (r.v ≥ 0) = true := decide_eq_true (by omega)
      have e2 : decide (0 ≤ r.v) = true := decide_eq_true (by omega)
      have e3 : decide (r.v ≤ 3) = true := decide_eq_true (by omega)
      have e4 : (r.v == 0) = true := by rw [beq_iff_eq]; exact h0
      have HF := hid_ (show (true == s) = z by rw [HE2.out, h0]; cases s <;> rfl)
      clear h0 HE2
      go_enter Try.func31, Try.ntmps31
      go_wp2_with fail
      (with_reducible refine Calls.mono (HL.out _) ?_)
      rintro e w1 ⟨rfl, hb⟩
      have HB1 := hid_ (HB.out.trans (hb.mono HB.out.size))
      have HW1 := hid_ (HW.out.below hb HW.out.lt)
      clear hb
      have y0 := HW1.out.cell 0 (.int .u64 (r.p.pos : Nat)) rfl
      have y1 := HW1.out.cell 1 (.int .u64 (r.p.id : Nat)) rfl
      have y2 := HW1.out.cell 2 (.int .u64 (r.t.pos : Nat)) rfl
      have y3 := HW1.out.cell 3 (.int .u64 (r.t.id : Nat)) rfl
      have y4 := HW1.out.cell 4 (.int .i64 r.v) rfl
      go_wp2_with fail
      go_ret
      exact retB_mk (by simp [← HF.out]) HB1.out
    · by_cases h1 : 1 ≤ r.v
      · have e1 : decide (r.v ≥ 0) = true := decide_eq_true (by omega)
        have e2 : decide (0 ≤ r.v) = true := decide_eq_true (by omega)
        have e4 : (r.v == 0) = false := by rw [beq_eq_false_iff_ne]; exact h0
        by_cases h3 : r.v ≤ 3
        · have e3 : decide (r.v ≤ 3) = true := decide_eq_true h3
          have HF := hid_ (show (false == s) = z by rw [HE2.out, decide_eq_false h0, decide_eq_true h1, e3]; cases s <;> rfl)
          clear h0 h1 h3 HE2
          go_enter Try.func31, Try.ntmps31
          go_wp2_with fail
          (with_reducible refine Calls.mono (HL.out _) ?_)
          rintro e w1 ⟨rfl, hb⟩
          have HB1 := hid_ (HB.out.trans (hb.mono HB.out.size))
          have HW1 := hid_ (HW.out.below hb HW.out.lt)
          clear hb
          have y0 := HW1.out.cell 0 (.int .u64 (r.p.pos : Nat)) rfl
          have y1 := HW1.out.cell 1 (.int .u64 (r.p.id : Nat)) rfl
          have y2 := HW1.out.cell 2 (.int .u64 (r.t.pos : Nat)) rfl
          have y3 := HW1.out.cell 3 (.int .u64 (r.t.id : Nat)) rfl
          have y4 := HW1.out.cell 4 (.int .i64 r.v) rfl
          go_wp2_with fail
          go_ret
          exact retB_mk (by simp [← HF.out]) HB1.out
        · have e3 : decide (r.v ≤ 3) = false := decide_eq_false h3
          have HF := hid_ (show false = z by rw [HE2.out, decide_eq_false h0, e3]; cases s <;> simp)
          clear h0 h1 h3 HE2
          go_enter Try.func31, Try.ntmps31
          go_wp2_with fail
          (with_reducible refine Calls.mono (HL.out _) ?_)
          rintro e w1 ⟨rfl, hb⟩
          have HB1 := hid_ (HB.out.trans (hb.mono HB.out.size))
          have HW1 := hid_ (HW.out.below hb HW.out.lt)
          clear hb
          have y0 := HW1.out.cell 0 (.int .u64 (r.p.pos : Nat)) rfl
          have y1 := HW1.out.cell 1 (.int .u64 (r.p.id : Nat)) rfl
          have y2 := HW1.out.cell 2 (.int .u64 (r.t.pos : Nat)) rfl
          have y3 := HW1.out.cell 3 (.int .u64 (r.t.id : Nat)) rfl
          have y4 := HW1.out.cell 4 (.int .i64 r.v) rfl
          go_wp2_with fail
          go_ret
          exact retB_mk (by simp [← HF.out]) HB1.out
      · have e1 : decide (r.v ≥ 0) = false := decide_eq_false (by omega)
        have e2 : decide (0 ≤ r.v) = false := decide_eq_false (by omega)
        have HF := hid_ (show false = z by rw [HE2.out, decide_eq_false h0, decide_eq_false h1]; cases s <;> simp)
        clear h0 h1 HE2
        go_enter Try.func31, Try.ntmps31
        go_wp2_with fail
        (with_reducible refine Calls.mono (HL.out _) ?_)
        rintro e w1 ⟨rfl, hb⟩
        have HB1 := hid_ (HB.out.trans (hb.mono HB.out.size))
        have HW1 := hid_ (HW.out.below hb HW.out.lt)
        clear hb
        have y0 := HW1.out.cell 0 (.int .u64 (r.p.pos : Nat)) rfl
        have y1 := HW1.out.cell 1 (.int .u64 (r.p.id : Nat)) rfl
        have y2 := HW1.out.cell 2 (.int .u64 (r.t.pos : Nat)) rfl
        have y3 := HW1.out.cell 3 (.int .u64 (r.t.id : Nat)) rfl
        have y4 := HW1.out.cell 4 (.int .i64 r.v) rfl
        go_wp2_with fail
        go_ret
        exact retB_mk (by simp [← HF.out]) HB1.out
  · have HF := hid_ (show false = z by rw [HE.out]; rfl)
    clear HE
    go_enter Try.func31, Try.ntmps31
    go_wp2_with fail
    (with_reducible refine Calls.mono (HL.out _) ?_)
    rintro e w1 ⟨rfl, hb⟩
    have HB1 := hid_ (HB.out.trans (hb.mono HB.out.size))
    have HW1 := hid_ (HW.out.below hb HW.out.lt)
    clear hb
    have y0 := HW1.out.cell 0 (.int .u64 (r.p.pos : Nat)) rfl
    have y1 := HW1.out.cell 1 (.int .u64 (r.p.id : Nat)) rfl
    have y2 := HW1.out.cell 2 (.int .u64 (r.t.pos : Nat)) rfl
    have y3 := HW1.out.cell 3 (.int .u64 (r.t.id : Nat)) rfl
    have y4 := HW1.out.cell 4 (.int .i64 r.v) rfl
    go_wp2_with fail
    go_ret
    exact retB_mk (by simp [← HF.out]) HB1.out
end Re
end Go.Proofs.Ytljlhaillmeedaa

/-
  A register that a law is given; the chapter's example; registers held against one another whole.
-/
namespace Go.Proofs.Ytljlhaillmeedaa
set_option linter.unusedSimpArgs false
set_option linter.unusedVariables false
open Go.RowKit Rg Bl Go.ChangeShapes Go.WideShapes
namespace Re
set_option linter.unusedSimpArgs false
set_option linter.unusedVariables false
theorem cells_v : Try.prog.cellsOf 51 = 1 := by kernel_rfl
theorem cells_reg : Try.prog.cellsOf 53 = 5 := by kernel_rfl
theorem five_cells {cs : List Value} (h : cs.length = 5) : ∃ a b c d e, cs = [a, b, c, d, e] := by
  match cs, h with
  | [a, b, c, d, e], _ => exact ⟨a, b, c, d, e, rfl⟩
section
variable {H : Type} {enc : TypeId × Value → H} {w : World} {base : Nat} {spare : Nat → Bool} {held : Bool} {fuel : Nat}
/-- A register whose numbers fit. -/
def Wf (r : RegD) : Prop := Bl.Wf r.p ∧ Bl.Wf r.t ∧ -9223372036854775808 ≤ r.v ∧ r.v ≤ 9223372036854775807
theorem reg_cells {cs : List Value} {x : DataW H × List MemPlace} (h : DataW.trod enc Try.prog w base spare held fuel 53 cs = some x) : ∃ r : RegD, Wf r ∧ cs = (regCells r).toList := by
  obtain ⟨xs, n, _, _, hlen, hxl, hf⟩ := DataW.trod_struct Try.underlying53 h
  rw [cells_reg] at hlen
  obtain ⟨a, b, c, d, e, rfl⟩ := five_cells hlen
  have hxl' : xs.length = 3 := hxl
  have h0 : DataW.trod enc Try.prog w base spare held n 50 (([a, b, c, d, e].drop 0).take (Try.prog.cellsOf 50)) = xs[0]? := hf 0 _ rfl
  have h1 : DataW.trod enc Try.prog w base spare held n 50 (([a, b, c, d, e].drop 2).take (Try.prog.cellsOf 50)) = xs[1]? := hf 1 _ rfl
  have h2 : DataW.trod enc Try.prog w base spare held n 51 (([a, b, c, d, e].drop 4).take (Try.prog.cellsOf 51)) = xs[2]? := hf 2 _ rfl
  rw [Bl.cells_bal] at h0 h1
  rw [cells_v] at h2
  rw [List.getElem?_eq_getElem (by omega)] at h0 h1 h2
  obtain ⟨s, hs, e0⟩ := bal_cells h0
  obtain ⟨t, ht, e1⟩ := bal_cells h1
  obtain ⟨n2, e2, _, w2⟩ := DataW.trod_int Try.underlying51 h2
  have h3 : -9223372036854775808 ≤ n2 ∧ n2 ≤ 9223372036854775807 := by simpa [Lit.wf, IntKind.min, IntKind.max, IntKind.bits, IntKind.signed] using w2
  simp [cfP] at e0 e1 e2
  obtain ⟨rfl, rfl⟩ := e0
  obtain ⟨rfl, rfl⟩ := e1
  exact ⟨⟨s, t, n2⟩, ⟨hs, ht, h3.1, h3.2⟩, by rw [e2]⟩
/-- What a register that came in is known to be. -/
def RegV (_w : World) (v : Value) : Prop := ∃ r : RegD, Wf r ∧ v = regVal r
set_option maxRecDepth 100000 in
theorem open_regV {v : Value} {d : DataW H} {p : List MemPlace} {x : Reach} {r : Nat}
    (hv : Value.okWide Try.prog w x r 53 v) (h : DataW.Trod enc Try.prog w base spare held 53 v d p) : RegV w v := by
  obtain ⟨cs, rfl, _⟩ := okWide_struct Try.underlying53 hv
  obtain ⟨fuel, hf⟩ := h
  obtain ⟨s, hs, hc⟩ := reg_cells hf
  refine ⟨s, hs, ?_⟩
  have : cs.toList = (regCells s).toList := by simpa [Value.cells] using hc
  have e : cs = regCells s := by
    apply Array.toList_inj.1
    exact this
  rw [e]
end
set_option maxRecDepth 100000 in
theorem reg_equalIn (T : TypeId) (hT : T = 54 ∨ T = 53) (a b : RegD) (w : World) : (Op.equalIn 10000 T (regVal a) (regVal b)).run Try.prog w = .ok (sameR a b) w := by
  rcases hT with rfl | rfl
  · rw [run_equalIn_agg w 9999 54 _ _ (by kernel_rfl) (by kernel_rfl)]
    simp [Program.fieldsOf, Try.underlying54, Try.underlying50, Op.eqFields, part, go_sem]
    simp only [Int.ofNat_inj]
    unfold sameR sameB
    repeat' split
    all_goals simp_all
  · rw [run_equalIn_agg w 9999 53 _ _ (by kernel_rfl) (by kernel_rfl)]
    simp [Program.fieldsOf, Try.underlying53, Try.underlying50, Op.eqFields, part, go_sem]
    simp only [Int.ofNat_inj]
    unfold sameR sameB
    repeat' split
    all_goals simp_all
theorem reg_eql (a b : RegD) (w : World) : (binOp .eql 54 (regVal a) (regVal b)).run Try.prog w = .ok (.bool (sameR a b)) w := by
  rw [run_eql_struct, reg_equalIn _ (.inl rfl)]
  rfl
theorem reg_neq (a b : RegD) (w : World) : (binOp .neq 54 (regVal a) (regVal b)).run Try.prog w = .ok (.bool (!sameR a b)) w := by
  rw [run_neq_struct, reg_equalIn _ (.inl rfl)]
  rfl
theorem rreg_eql (a b : RegD) (w : World) : (binOp .eql 53 (regVal a) (regVal b)).run Try.prog w = .ok (.bool (sameR a b)) w := by
  rw [run_eql_struct, reg_equalIn _ (.inr rfl)]
  rfl
end Re
end Go.Proofs.Ytljlhaillmeedaa

/-
  The chapter's example.
-/
namespace Go.Proofs.Ytljlhaillmeedaa
set_option linter.unusedSimpArgs false
set_option linter.unusedVariables false
open Go.RowKit Rg Bl
namespace Re
set_option linter.unusedSimpArgs false
set_option linter.unusedVariables false
set_option maxRecDepth 20000 in
set_option maxHeartbeats 4000000 in
theorem regalive_any (w : World) : Calls Try.prog 36 #[] w (RetB w.heap.size w (.bool true)) := by
  have HP := hid_ (fun (W : World) => show Calls Try.prog 25 #[.agg #[.int .u64 0, .int .u64 0, .int .u64 0, .int .u64 0, .int .i64 0], .agg #[.int .u64 3, .int .u64 1]] W (RetB W.heap.size W (.tuple #[.agg #[.int .u64 3, .int .u64 1, .int .u64 0, .int .u64 0, .int .i64 0], .bool true])) from prepare_any ⟨⟨0, 0⟩, ⟨0, 0⟩, 0⟩ ⟨3, 1⟩ W)
  have HQ := hid_ (fun (W : World) => show Calls Try.prog 25 #[.agg #[.int .u64 3, .int .u64 1, .int .u64 0, .int .u64 0, .int .i64 0], .agg #[.int .u64 2, .int .u64 1]] W (RetB W.heap.size W (.tuple #[.agg #[.int .u64 3, .int .u64 1, .int .u64 0, .int .u64 0, .int .i64 0], .bool false])) from prepare_any ⟨⟨3, 1⟩, ⟨0, 0⟩, 0⟩ ⟨2, 1⟩ W)
  have HC := hid_ (fun (W : World) => show Calls Try.prog 28 #[.agg #[.int .u64 3, .int .u64 1, .int .u64 0, .int .u64 0, .int .i64 0], .agg #[.int .u64 3, .int .u64 1], .int .i64 1] W (RetB W.heap.size W (.tuple #[.agg #[.int .u64 3, .int .u64 1, .int .u64 3, .int .u64 1, .int .i64 1], .bool true])) from accept_any ⟨⟨3, 1⟩, ⟨0, 0⟩, 0⟩ ⟨3, 1⟩ 1 W)
  have HR := hid_ (fun (W : World) => show Calls Try.prog 30 #[.agg #[.int .u64 3, .int .u64 1, .int .u64 3, .int .u64 1, .int .i64 1]] W (RetB W.heap.size W (.bool true)) from right_any ⟨⟨3, 1⟩, ⟨3, 1⟩, 1⟩ W)
  go_enter Try.func36, Try.ntmps36
  go_wp2_with fail
  (with_reducible refine Calls.mono (HP.out _) ?_)
  rintro e w1 ⟨rfl, hb⟩
  have HB1 := hid_ (Below.alloc ((Below.refl w.heap.size w).trans (hb.mono (Below.refl w.heap.size w).size)) ((Below.refl w.heap.size w).trans (hb.mono (Below.refl w.heap.size w).size)).size (.cells #[.int .u64 3, .int .u64 1, .int .u64 0, .int .u64 0, .int .i64 0] 54))
  have HW1 := hid_ (whole_new w1 54 #[.int .u64 3, .int .u64 1, .int .u64 0, .int .u64 0, .int .i64 0])
  clear hb
  go_wp2_with fail
  (with_reducible refine Calls.mono (HQ.out _) ?_)
  rintro e w2 ⟨rfl, hb⟩
  have HB2 := hid_ (Below.alloc (HB1.out.trans (hb.mono HB1.out.size)) (HB1.out.trans (hb.mono HB1.out.size)).size (.cells #[.int .u64 3, .int .u64 1, .int .u64 0, .int .u64 0, .int .i64 0] 54))
  have HW2 := hid_ (whole_new w2 54 #[.int .u64 3, .int .u64 1, .int .u64 0, .int .u64 0, .int .i64 0])
  have HA2 := hid_ ((HW1.out.below hb HW1.out.lt).alloc (.cells #[.int .u64 3, .int .u64 1, .int .u64 0, .int .u64 0, .int .i64 0] 54))
  clear hb
  have ha2_0 := HA2.out.cell 0 (.int .u64 3) rfl
  have ha2_1 := HA2.out.cell 1 (.int .u64 1) rfl
  have ha2_2 := HA2.out.cell 2 (.int .u64 0) rfl
  have ha2_3 := HA2.out.cell 3 (.int .u64 0) rfl
  have ha2_4 := HA2.out.cell 4 (.int .i64 0) rfl
  go_wp2_with fail
  (with_reducible refine Calls.mono (HC.out _) ?_)
  rintro e w3 ⟨rfl, hb⟩
  have HB3 := hid_ (Below.alloc (HB2.out.trans (hb.mono HB2.out.size)) (HB2.out.trans (hb.mono HB2.out.size)).size (.cells #[.int .u64 3, .int .u64 1, .int .u64 3, .int .u64 1, .int .i64 1] 54))
  have HW3 := hid_ (whole_new w3 54 #[.int .u64 3, .int .u64 1, .int .u64 3, .int .u64 1, .int .i64 1])
  have HA3 := hid_ ((HA2.out.below hb HA2.out.lt).alloc (.cells #[.int .u64 3, .int .u64 1, .int .u64 3, .int .u64 1, .int .i64 1] 54))
  clear hb
  clear ha2_0 ha2_1 ha2_2 ha2_3 ha2_4
  have hw3_0 := HW3.out.cell 0 (.int .u64 3) rfl
  have hw3_1 := HW3.out.cell 1 (.int .u64 1) rfl
  have hw3_2 := HW3.out.cell 2 (.int .u64 3) rfl
  have hw3_3 := HW3.out.cell 3 (.int .u64 1) rfl
  have hw3_4 := HW3.out.cell 4 (.int .i64 1) rfl
  go_wp2_with fail
  (with_reducible refine Calls.mono (HR.out _) ?_)
  rintro e w4 ⟨rfl, hb⟩
  have HB4 := hid_ (HB3.out.trans (hb.mono HB3.out.size))
  clear hb
  go_wp2_with fail
  go_ret
  exact retB_mk rfl HB4.out
end Re
end Go.Proofs.Ytljlhaillmeedaa

/-
  Registers and ballots that a law holds in blocks of their own.
-/
namespace Go.Proofs.Ytljlhaillmeedaa
set_option linter.unusedSimpArgs false
set_option linter.unusedVariables false
open Go.RowKit Rg Bl
namespace Re
set_option linter.unusedSimpArgs false
set_option linter.unusedVariables false
abbrev R5 (W : World) (g : Nat) (r : RegD) : Prop := W.cell? ⟨g, 0, none⟩ = some (.int .u64 (r.p.pos : Nat)) ∧ W.cell? ⟨g, 1, none⟩ = some (.int .u64 (r.p.id : Nat)) ∧ W.cell? ⟨g, 2, none⟩ = some (.int .u64 (r.t.pos : Nat)) ∧ W.cell? ⟨g, 3, none⟩ = some (.int .u64 (r.t.id : Nat)) ∧ W.cell? ⟨g, 4, none⟩ = some (.int .i64 r.v)
abbrev B2 (W : World) (g : Nat) (b : BalD) : Prop := W.cell? ⟨g, 0, none⟩ = some (.int .u64 (b.pos : Nat)) ∧ W.cell? ⟨g, 1, none⟩ = some (.int .u64 (b.id : Nat))
theorem r5_of {W : World} {g : Nat} {T : TypeId} {r : RegD} (h : Whole W g T (regCells r)) : R5 W g r := ⟨h.cell 0 _ rfl, h.cell 1 _ rfl, h.cell 2 _ rfl, h.cell 3 _ rfl, h.cell 4 _ rfl⟩
theorem b2_of {W : World} {g : Nat} {T : TypeId} {b : BalD} (h : Whole W g T #[.int .u64 (b.pos : Nat), .int .u64 (b.id : Nat)]) : B2 W g b := ⟨h.cell 0 _ rfl, h.cell 1 _ rfl⟩
theorem r5_below {W W' : World} {g : Nat} {r : RegD} (h : R5 W g r) (hb : Below W.heap.size W W') : R5 W' g r := by
  obtain ⟨a, b, c, d, e⟩ := h
  exact ⟨by rw [hb.cell (lt_of_cell a)]; exact a, by rw [hb.cell (lt_of_cell b)]; exact b, by rw [hb.cell (lt_of_cell c)]; exact c, by rw [hb.cell (lt_of_cell d)]; exact d, by rw [hb.cell (lt_of_cell e)]; exact e⟩
theorem b2_below {W W' : World} {g : Nat} {b : BalD} (h : B2 W g b) (hb : Below W.heap.size W W') : B2 W' g b := by
  obtain ⟨a, b⟩ := h
  exact ⟨by rw [hb.cell (lt_of_cell a)]; exact a, by rw [hb.cell (lt_of_cell b)]; exact b⟩
/-- A block that was new ahead of a call. -/
theorem whole_past {w1 w' : World} {cs : Array Value} {T : TypeId} (hb : Below (w1.alloc (.cells cs T)).heap.size (w1.alloc (.cells cs T)) w') : Whole w' w1.heap.size T cs := (whole_new w1 T cs).below hb (whole_new w1 T cs).lt
theorem whole_pastD {w1 w' : World} {cs : Array Value} {T : TypeId} (hb : Below (w1.alloc (.cells cs T)).drew.heap.size (w1.alloc (.cells cs T)).drew w') : Whole w' w1.heap.size T cs := (Whole.drew (whole_new w1 T cs)).below hb (Whole.drew (whole_new w1 T cs)).lt
theorem whole_gone {w1 w' : World} {g : Nat} {cs : Array Value} {T : TypeId} (h : Whole w1 g T cs) (hb : Below w1.heap.size w1 w') : Whole w' g T cs := h.below hb h.lt
theorem whole_goneD {w1 w' : World} {g : Nat} {cs : Array Value} {T : TypeId} (h : Whole w1 g T cs) (hb : Below w1.drew.heap.size w1.drew w') : Whole w' g T cs := (Whole.drew h).below hb (Whole.drew h).lt
theorem chain0 {a b c : World} (h : Below a.heap.size a b) (k : Below b.heap.size b c) : Below a.heap.size a c := h.trans (k.mono h.size)
theorem chainD {a b c : World} (h : Below a.heap.size a b) (k : Below b.drew.heap.size b.drew c) : Below a.heap.size a c := (Below.drew h).trans (k.mono h.size)
theorem chainA {a b c : World} {o : Obj} (h : Below a.heap.size a b) (k : Below (b.alloc o).heap.size (b.alloc o) c) : Below a.heap.size a c := (h.alloc h.size o).trans (k.mono (h.alloc h.size o).size)
theorem chainAD {a b c : World} {o : Obj} (h : Below a.heap.size a b) (k : Below (b.alloc o).drew.heap.size (b.alloc o).drew c) : Below a.heap.size a c := (Below.drew (h.alloc h.size o)).trans (k.mono (h.alloc h.size o).size)
theorem chainDA {a b c : World} {o : Obj} (h : Below a.heap.size a b) (k : Below (b.drew.alloc o).heap.size (b.drew.alloc o) c) : Below a.heap.size a c := ((Below.drew h).alloc h.size o).trans (k.mono (h.alloc h.size o).size)
/-- A register and a ballot. -/
abbrev RbIn (w1 : World) (g : Nat) (r : RegD) (h : Nat) (b : BalD) (W : World) : Prop := Below w1.heap.size w1 W ∧ R5 W g r ∧ B2 W h b
theorem rbIn_keep {w1 W W' : World} {g h : Nat} {r : RegD} {b : BalD} (k : RbIn w1 g r h b W) (hb : Below W.heap.size W W') : RbIn w1 g r h b W' :=
  ⟨k.1.trans (hb.mono k.1.size), r5_below k.2.1 hb, b2_below k.2.2 hb⟩
theorem rbIn_of {w1 W : World} {g h : Nat} {r : RegD} {b : BalD} (k : RbIn w1 g r h b w1) (hb : Below w1.heap.size w1 W) : RbIn w1 g r h b W :=
  ⟨hb, r5_below k.2.1 hb, b2_below k.2.2 hb⟩
/-- A result that a law keeps in a block of its own. -/
def KeptR (w1 : World) (T : TypeId) (x : RegD) (k : Bool) (v v' : Value) (W : World) : Prop := ∃ g, v = .pointer (some ⟨g, 0, none⟩) ∧ v' = .bool k ∧ w1.heap.size ≤ g ∧ Whole W g T (regCells x) ∧ Below w1.heap.size w1 W
theorem keptR_mk {w1 W : World} {T : TypeId} {x : RegD} {k k' : Bool} {g : Nat} (h0 : k = k') (h : w1.heap.size ≤ g) (hw : Whole W g T (regCells x)) (hb : Below w1.heap.size w1 W) : KeptR w1 T x k (.pointer (some ⟨g, 0, none⟩)) (.bool k') W := ⟨g, rfl, by rw [h0], h, hw, hb⟩
/-- What RegisterSteps holds. -/
abbrev StIn (w1 : World) (g : Nat) (r : RegD) (h : Nat) (b : BalD) (gx gy : Nat) (x : RegD) (gp gv : Nat) (q : RegD) (W : World) : Prop := RbIn w1 g r h b W ∧ R5 W gx x ∧ R5 W gy x ∧ R5 W gp q ∧ R5 W gv q
theorem stIn_of {w1 W : World} {g h gx gy gp gv : Nat} {r x q : RegD} {b : BalD} (k : StIn w1 g r h b gx gy x gp gv q w1) (hb : Below w1.heap.size w1 W) : StIn w1 g r h b gx gy x gp gv q W :=
  ⟨rbIn_of k.1 hb, r5_below k.2.1 hb, r5_below k.2.2.1 hb, r5_below k.2.2.2.1 hb, r5_below k.2.2.2.2 hb⟩
theorem packIn_no (w : World) (p : PackD) (h1 : p.spans = []) (h2 : p.members = []) (h3 : p.ids = []) : PackIn w p noS :=
  ⟨by rw [h1]; exact ⟨fun h => absurd rfl h, rfl, Nat.le_refl _, (show (0 : Nat) ≤ 9223372036854775807 by omega), fun _ => rfl⟩, by rw [h2]; exact MemRow.none w, by rw [h3]; exact Row.none w⟩
theorem same_ans (p : PackD) (h1 : p.spans = []) (h2 : p.members = []) (h3 : p.ids = []) : sameP p p = true := by
  unfold sameP scalF
  rw [h1, h2, h3]
  simp [eqB, eqF]
theorem answer_same (r : RegD) (tr : Nat) (b : BalD) (a4 a5 : Bool) (W : World) : Calls Try.prog 33 #[packVal (ansP r tr b a4 a5) noS, packVal (ansP r tr b a4 a5) noS] W (RetB W.heap.size W (.bool true)) := by
  have h := refsame_any (ansP r tr b a4 a5) (ansP r tr b a4 a5) noS noS W (packIn_no _ _ rfl rfl rfl) (packIn_no _ _ rfl rfl rfl)
  rw [same_ans _ rfl rfl rfl] at h
  exact h
end Re
end Go.Proofs.Ytljlhaillmeedaa
