/-
  SpanOrder: of any two spans and any list of at most 100 spans (above it nothing is asked) the program's Less and Same say what the reference's do, and its Sort gives the reference's list; no condition on the input.
  The frame round the walk is written by the guide's own program for this statement.
-/
import Derived.Test.YtnphbefnmbagfaaRows
import Derived.Test.YtnphbefnmbagfaaSpAlive
import Derived.Test.YtnphbefnmbagfaaSpanOpen
import Derived.Test.YtnphbefnmbagfaaSpSort
import Derived.Test.YtnphbefnmbagfaaSymAll
import Derived.Test.YtnphbefnmbagfaaRefSort
import Derived.WalkKit
import Derived.ProofKit
import Derived.OpenShut
import Derived.ShutString
import Derived.ChangeOld
import Derived.Below
namespace Go.Proofs.Ytnphbefnmbagfaa.spanOrder
open Go.ChangeShapes Go.WideShapes Go.ChangeAt Go.RowKit
open Go.ChangeMaps (open_string shut_string)
set_option linter.unusedVariables false

theorem own : ownKnob Try.prog.godebug = none := by kernel_rfl
theorem laidOut : laidOutB Try.prog = true := by kernel_rfl

/-- WHAT THE WALK IS TOLD OF A SLICE OF INTEGERS THAT CAME IN: it is nil; or it leads to a row of 'cap' cells, the numbers 'zs' (the first 'len' are its elements, the rest its spare room), each fitting its kind. -/
def IsRow (k : IntKind) (w : World) (a : Option Addr) (len cap : Nat) (zs : List Int) : Prop :=
  (a = none ∧ len = 0 ∧ cap = 0 ∧ zs = []) ∨
  ∃ x, a = some x ∧ len ≤ cap ∧ cap ≤ maxLen ∧ zs.length = cap ∧ (∀ i, i < zs.length → w.cell? (x.add i) = some (.int k (zs.getD i 0))) ∧ ∀ n ∈ zs, (Lit.int k n).wf = true

open Ru
attribute [local go_sem ↓] Go.wp_at_zero Go.wp_at_succ
/-- The two spans' blocks stand, and all that was there when the call began. -/
abbrev Two (w : World) (a b : SpanD) (W : World) : Prop :=
  Below w.heap.size w W ∧ W.cell? ⟨w.heap.size, 0, none⟩ = some (.int .u64 (a.trace : Nat)) ∧ W.cell? ⟨w.heap.size, 1, none⟩ = some (.int .u64 (a.id : Nat)) ∧ W.cell? ⟨w.heap.size, 2, none⟩ = some (.int .u64 (a.parent : Nat)) ∧
    W.cell? ⟨w.heap.size, 3, none⟩ = some (.int .u64 (a.start : Nat)) ∧ W.cell? ⟨w.heap.size, 4, none⟩ = some (.int .u64 (a.len : Nat)) ∧ W.cell? ⟨w.heap.size, 5, none⟩ = some (.string a.service) ∧ W.cell? ⟨w.heap.size, 6, none⟩ = some (.string a.name) ∧ W.cell? ⟨w.heap.size, 7, none⟩ = some (.bool a.fail) ∧
    W.cell? ⟨w.heap.size + 1, 0, none⟩ = some (.int .u64 (b.trace : Nat)) ∧ W.cell? ⟨w.heap.size + 1, 1, none⟩ = some (.int .u64 (b.id : Nat)) ∧ W.cell? ⟨w.heap.size + 1, 2, none⟩ = some (.int .u64 (b.parent : Nat)) ∧
    W.cell? ⟨w.heap.size + 1, 3, none⟩ = some (.int .u64 (b.start : Nat)) ∧ W.cell? ⟨w.heap.size + 1, 4, none⟩ = some (.int .u64 (b.len : Nat)) ∧ W.cell? ⟨w.heap.size + 1, 5, none⟩ = some (.string b.service) ∧ W.cell? ⟨w.heap.size + 1, 6, none⟩ = some (.string b.name) ∧ W.cell? ⟨w.heap.size + 1, 7, none⟩ = some (.bool b.fail)
theorem two_of {w W : World} {a b : SpanD} (h : Below w.heap.size w W) (h1 : Box W w.heap.size a) (h2 : Box W (w.heap.size + 1) b) : Two w a b W :=
  ⟨h, h1.c0, h1.c1, h1.c2, h1.c3, h1.c4, h1.c5, h1.c6, h1.c7, h2.c0, h2.c1, h2.c2, h2.c3, h2.c4, h2.c5, h2.c6, h2.c7⟩
theorem two_keep {w W W' : World} {a b : SpanD} (h : Two w a b W) (hb : Below W.heap.size W W') : Two w a b W' := by
  obtain ⟨h0, a0, a1, a2, a3, a4, a5, a6, a7, b0, b1, b2, b3, b4, b5, b6, b7⟩ := h
  exact two_of (h0.trans (hb.mono h0.size)) (Box.below ⟨a0, a1, a2, a3, a4, a5, a6, a7⟩ hb (lt_of_cell a0)) (Box.below ⟨b0, b1, b2, b3, b4, b5, b6, b7⟩ hb (lt_of_cell b0))
theorem two_new (w : World) (a b : SpanD) : Two w a b ((w.alloc (.cells (spanCells a) 28)).alloc (.cells (spanCells b) 28)) := by
  have hb2 := (Below.refl (w.heap.size + 1) (w.alloc (.cells (spanCells a) 28))).alloc (by simp) (.cells (spanCells b) 28)
  have b1 := (box_new w a 28).below hb2 (by omega)
  have b2 := box_new (w.alloc (.cells (spanCells a) 28)) b 28
  rw [show (w.alloc (.cells (spanCells a) 28)).heap.size = w.heap.size + 1 by simp] at b2
  exact two_of (((Below.refl _ _).alloc (Nat.le_refl _) _).alloc (by simp) _) b1 b2
set_option maxRecDepth 100000 in
set_option maxHeartbeats 8000000 in
theorem walk (v0 : Value) (v1 : Value) (v2 : Value) (w : World) (w0 : SpanV w v0) (w1 : SpanV w v1) (w2 : SpansV w v2) :
    Calls Try.prog 7 #[v0, v1, v2] w fun e w' => e = .returned (.bool true) ∧ Below w.heap.size w w' := by
  obtain ⟨a, _, rfl⟩ := w0
  obtain ⟨b, _, rfl⟩ := w1
  obtain ⟨A, n, c, ss, rfl, hss, _⟩ := w2
  have Hss := hid_ hss
  have ha := hid_ (fun W => alive_any W)
  have hnc := hss.cap
  have hcm := hss.max
  clear hss
  by_cases hb0 : 100 < n
  · have e1 : decide ((100 : Int) < (n : Int)) = true := by simp; omega
    go_enter Try.func7, Try.ntmps7
    go_wp2_with fail
    refine (ha.out _).mono ?_
    rintro e w' ⟨rfl, hbel⟩
    go_wp2_with fail
    go_ret
    exact ⟨rfl, (((Below.refl _ _).alloc (Nat.le_refl _) _).alloc (by simp) _).trans (hbel.mono (by simp; omega))⟩
  have e1 : decide ((100 : Int) < (n : Int)) = false := by simp; omega
  have hS := two_new w a b
  have kn := fun (W : World) => span_eql a b W
  have Hl := hid_ (fun W => less_any a b W)
  have Hrl := hid_ (fun W => refless_any a b W)
  have Hsm := hid_ (fun W => sameSpan_any a b W)
  have Hst := hid_ (fun (W : World) (h : Below w.heap.size w W) => sort_any merge_upto A n c ss W (Hss.out.below h) (by omega))
  have Hrs := hid_ (fun (W : World) (h : Below w.heap.size w W) => refsort_any A n c ss W (Hss.out.below h) (by omega))
  generalize lessF a b = lv at *
  generalize sameF a b = sv at *
  go_enter Try.func7, Try.ntmps7
  go_wp2_with fail
  go_region_held3 (Two w a b) (first | assumption | (refine two_keep (by assumption) (by assumption)) | (refine two_keep (by assumption) (Below.drew (Below.refl _ _))) | (refine two_keep (by assumption) (below_drewN (Below.refl _ _) _)))
    (first
      | (go_at_call 22; (with_reducible refine Calls.mono (Hl.out _) ?_); rintro e w' ⟨rfl, hb'⟩)
      | (go_at_call 23; (with_reducible refine Calls.mono (Hrl.out _) ?_); rintro e w' ⟨rfl, hb'⟩)
      | (go_at_call 24; (with_reducible refine Calls.mono (Hsm.out _) ?_); rintro e w' ⟨rfl, hb'⟩)
      | (go_at_call 26; (with_reducible refine Calls.mono (Hst.out _ ?_) ?_); (focus exact And.left (by assumption)); rintro e w' ⟨A1, c1, t1, rfl, hr1, hso1, hal1, hb'⟩)
      | (go_at_call 27; (with_reducible refine Calls.mono (Hrs.out _ ?_) ?_); (focus exact And.left (by assumption)); rintro e w' ⟨A2, c2, t2, rfl, hr2, hso2, hal2, hb'⟩)
      | (go_at_call 25; obtain rfl := sorted_one hso1 hso2 (hal1.symm.trans hal2); (with_reducible refine Calls.mono (refspans_true A1 A2 n c1 c2 t1 _ ?_ ?_) ?_); (focus (first | exact hr1 | exact hr1.below (by assumption) | exact (hr1.below (by assumption)).keep fun _ _ => rfl)); (focus (first | exact hr2 | exact hr2.below (by assumption) | exact (hr2.below (by assumption)).keep fun _ _ => rfl)); rintro e w' ⟨rfl, nk, rfl⟩)
      | (go_at_call 14; (with_reducible refine Calls.mono (ha.out _) ?_); rintro e w' ⟨rfl, hb'⟩)
      | fail)
  all_goals
    go_wp2_with fail
    go_ret
    refine ⟨rfl, ?_⟩
    exact And.left (by assumption)

set_option maxRecDepth 100000 in
theorem lifted (os : Os) (started : os.Started) (H : Type) (enc : TypeId × Value → H) :
    ReturnsInHanded {} Try.checked os 7 .any (Rows.spanOrderSpec.pre6 enc Try.prog Try.f7 Rows.spanOrderRow.domain false) (Rows.spanOrderSpec.post enc Try.prog Try.f7 false true false false) := by
  refine returnsInHanded_of_change (C := Try.checked) own started (by kernel_rfl) Try.func7
    (ChangeSpec.witness6 (enc := enc) (C := Try.checked) false ⟨#[], #[(.agg #[.int .u64 0, .int .u64 0, .int .u64 0, .int .u64 0, .int .u64 0, .string ⟨#[]⟩, .string ⟨#[]⟩, .bool false]), (.agg #[.int .u64 0, .int .u64 0, .int .u64 0, .int .u64 0, .int .u64 0, .string ⟨#[]⟩, .string ⟨#[]⟩, .bool false]), .slice none 0 0], []⟩ 8 (by kernel_rfl) (by kernel_rfl) (by kernel_rfl) (by kernel_rfl)) ?_
  intro W base args ds gs before hval0 hW hcnd _
  have hval : ∀ (j : Nat) t v, Try.f7.params[j]? = some t → args[j]? = some v → Value.okWide Try.prog W .any base t v := hval0
  have hW' := hW
  obtain ⟨p, q, hA0, hV, rfl, hfz, hnd⟩ := hW
  have hA : DataW.TrodAll enc Try.prog W 0 (fun _ => true) true Try.f7.params.toList args.toList ds p := hA0
  rw [Try.params7] at hA hval
  obtain ⟨v0, vs0, d0, ds0, p0, q0, hargs, rfl, rfl, h0, r0⟩ := trodAll_cons hA
  obtain ⟨v1, vs1, d1, ds1, p1, q1, rfl, rfl, rfl, h1, r1⟩ := trodAll_cons r0
  obtain ⟨v2, vs2, d2, ds2, p2, q2, rfl, rfl, rfl, h2, r2⟩ := trodAll_cons r1
  obtain ⟨rfl, rfl, rfl⟩ := trodAll_nil r2
  obtain rfl : args = #[v0, v1, v2] := by cases args; simp_all
  obtain ⟨rfl, rfl⟩ := trodVars_none hV
  have k0 := h0
  have lt0 : ∀ x ∈ p0, x.block < W.heap.size := by obtain ⟨m, hm⟩ := k0; exact DataW.trod_lt m _ _ _ hm
  have w0 : SpanV W v0 := open_spanV (hval 0 28 v0 rfl rfl) h0
  have k1 := h1
  have lt1 : ∀ x ∈ p1, x.block < W.heap.size := by obtain ⟨m, hm⟩ := k1; exact DataW.trod_lt m _ _ _ hm
  have w1 : SpanV W v1 := open_spanV (hval 1 28 v1 rfl rfl) h1
  have k2 := h2
  have lt2 : ∀ x ∈ p2, x.block < W.heap.size := by obtain ⟨m, hm⟩ := k2; exact DataW.trod_lt m _ _ _ hm
  have w2 : SpansV W v2 := open_spansV (hval 2 39 v2 rfl rfl) h2
  clear hA0 hval0
  refine (walk v0 v1 v2 W w0 w1 w2).mono fun e W' ⟨he, bel⟩ => ?_
  subst he
  exact ⟨_, rfl, _, _, _, [], _, [], hW', trodAll_mk1 (shut_bool Try.underlying4 _), (trodAll_cons_mk (Below.trod laidOut (by kernel_rfl) (of_decide_eq_true (by kernel_rfl)) k0 bel lt0) (trodAll_cons_mk (Below.trod laidOut (by kernel_rfl) (of_decide_eq_true (by kernel_rfl)) k1 bel lt1) (trodAll_cons_mk (Below.trod laidOut (by kernel_rfl) (of_decide_eq_true (by kernel_rfl)) k2 bel lt2) trodAll_mk0))), rfl, bel.frame _, fun h => by cases h⟩

theorem over : Rows.spanOrderRow.holds Try.pinned (OpenSpec.ofChange Rows.spanOrderSpec) :=
  OpenClaim.holds_of_wide 7 Try.f7 rfl rfl rfl rfl rfl rfl rfl ⟨rfl, rfl, rfl, rfl, rfl⟩ rfl rfl rfl rfl rfl (by kernel_rfl) Try.func7 (by kernel_rfl)
    (of_decide_eq_true (by kernel_rfl)) (by unfold Func.isWrapper; first | (rw [if_pos (by decide +kernel)]; kernel_rfl) | (rw [if_neg (by decide +kernel)]; exact ⟨rfl, rfl⟩))
    (fun os started H enc _ => lifted os started H enc)

theorem proved : Rows.SpanOrderSaid := over
#print axioms proved
end Go.Proofs.Ytnphbefnmbagfaa.spanOrder
