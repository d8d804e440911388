/-
  ViewRight: of whatever two lists of at most 200 members (of longer ones only the chapter's example is asked), two members and a number the program's Right, Newer, Find and Same answer what the document's do; no condition on the input.
  The frame round the walk is written by the guide's own program for this statement.
-/
import Derived.Test.YteoeghljoaiiiaaZViewOpen
import Derived.Test.YteoeghljoaiiiaaRows
import Derived.WalkKit
import Derived.ProofKit
import Derived.OpenShut
import Derived.ShutString
import Derived.ChangeOld
import Derived.Below
namespace Go.Proofs.Yteoeghljoaiiiaa.viewRight
set_option linter.unusedSimpArgs false
set_option linter.unusedVariables false
open Go.ChangeShapes Go.WideShapes Go.ChangeAt Go.RowKit
open Go.ChangeMaps (open_string shut_string)
set_option linter.unusedVariables false

theorem own : ownKnob Try.prog.godebug = none := by kernel_rfl
theorem laidOut : laidOutB Try.prog = true := by kernel_rfl

/-- WHAT THE WALK IS TOLD OF A SLICE OF INTEGERS THAT CAME IN: it is nil; or it leads to a row of 'cap' cells, the numbers 'zs' (the first 'len' are its elements, the rest its spare room), each fitting its kind. -/
def IsRow (k : IntKind) (w : World) (a : Option Addr) (len cap : Nat) (zs : List Int) : Prop :=
  (a = none ∧ len = 0 ∧ cap = 0 ∧ zs = []) ∨
  ∃ x, a = some x ∧ len ≤ cap ∧ cap ≤ maxLen ∧ zs.length = cap ∧ (∀ i, i < zs.length → w.cell? (x.add i) = some (.int k (zs.getD i 0))) ∧ ∀ n ∈ zs, (Lit.int k n).wf = true

open Ru Vw
attribute [local go_sem ↓] Go.wp_at_zero Go.wp_at_succ
attribute [local go_sem] undef
/-- What is read in the last statement. -/
structure InFour (w1 : World) (gx gy gm gn : Nat) (x y m : MemberD) (W : World) : Prop where
  bel : Below w1.heap.size w1 W
  fx : Whole W gx 79 #[.int .u64 (x.id : Nat), .int .u64 (x.inc : Nat), .int .i64 x.state]
  fy : Whole W gy 79 #[.int .u64 (y.id : Nat), .int .u64 (y.inc : Nat), .int .i64 y.state]
  fm : Whole W gm 79 #[.int .u64 (m.id : Nat), .int .u64 (m.inc : Nat), .int .i64 m.state]
  fn : Whole W gn 79 #[.int .u64 (m.id : Nat), .int .u64 (m.inc : Nat), .int .i64 m.state]
theorem InFour.next {w1 W W' : World} {gx gy gm gn : Nat} {x y m : MemberD} (h : InFour w1 gx gy gm gn x y m W) (hb : Below W.heap.size W W') : InFour w1 gx gy gm gn x y m W' :=
  ⟨h.bel.trans (hb.mono h.bel.size), h.fx.below hb h.fx.lt, h.fy.below hb h.fy.lt, h.fm.below hb h.fm.lt, h.fn.below hb h.fn.lt⟩
abbrev AtFour (w1 : World) (gx gy gm gn : Nat) (x y m : MemberD) (W : World) : Prop :=
  InFour w1 gx gy gm gn x y m W ∧ W.cell? ⟨gx, 0, none⟩ = some (.int .u64 (x.id : Nat)) ∧ W.cell? ⟨gx, 1, none⟩ = some (.int .u64 (x.inc : Nat)) ∧ W.cell? ⟨gx, 2, none⟩ = some (.int .i64 x.state) ∧
    W.cell? ⟨gy, 0, none⟩ = some (.int .u64 (y.id : Nat)) ∧ W.cell? ⟨gy, 1, none⟩ = some (.int .u64 (y.inc : Nat)) ∧ W.cell? ⟨gy, 2, none⟩ = some (.int .i64 y.state) ∧
    W.cell? ⟨gm, 0, none⟩ = some (.int .u64 (m.id : Nat)) ∧ W.cell? ⟨gm, 1, none⟩ = some (.int .u64 (m.inc : Nat)) ∧ W.cell? ⟨gm, 2, none⟩ = some (.int .i64 m.state) ∧
    W.cell? ⟨gn, 0, none⟩ = some (.int .u64 (m.id : Nat)) ∧ W.cell? ⟨gn, 1, none⟩ = some (.int .u64 (m.inc : Nat)) ∧ W.cell? ⟨gn, 2, none⟩ = some (.int .i64 m.state)
theorem atFour_of {w1 W : World} {gx gy gm gn : Nat} {x y m : MemberD} (h : InFour w1 gx gy gm gn x y m W) : AtFour w1 gx gy gm gn x y m W :=
  ⟨h, h.fx.cell 0 _ rfl, h.fx.cell 1 _ rfl, h.fx.cell 2 _ rfl, h.fy.cell 0 _ rfl, h.fy.cell 1 _ rfl, h.fy.cell 2 _ rfl, h.fm.cell 0 _ rfl, h.fm.cell 1 _ rfl, h.fm.cell 2 _ rfl, h.fn.cell 0 _ rfl, h.fn.cell 1 _ rfl, h.fn.cell 2 _ rfl⟩
theorem atFour_keep {w1 W W' : World} {gx gy gm gn : Nat} {x y m : MemberD} (h : AtFour w1 gx gy gm gn x y m W) (hb : Below W.heap.size W W') : AtFour w1 gx gy gm gn x y m W' := atFour_of (h.1.next hb)
/-- What Find answers, as data. -/
def memOf : Option MemberD → MemberD
  | some m => m
  | none => ⟨0, 0, 0⟩
theorem found_of (r : Option MemberD) : foundV r = .tuple #[memVal (memOf r), .bool r.isSome] := by cases r <;> rfl
set_option maxRecDepth 100000 in
set_option maxHeartbeats 16000000 in
theorem walk (v0 : Value) (v1 : Value) (v2 : Value) (v3 : Value) (a4 : Int) (w : World) (w0 : Vw.MemsV w v0) (w1 : Vw.MemsV w v1) (w2 : Vw.MemV w v2) (w3 : Vw.MemV w v3) (w4 : (Lit.int .u64 a4).wf = true) :
    Calls Try.prog 10 #[v0, v1, v2, v3, .int .u64 a4] w fun e w' => e = .returned (.bool true) ∧ Below w.heap.size w w' := by
  obtain ⟨A, n, c, a, rfl, ha, hwa⟩ := w0
  obtain ⟨A', n', c', b, rfl, hb, hwb⟩ := w1
  obtain ⟨x, hwx, rfl⟩ := w2
  obtain ⟨y, hwy, rfl⟩ := w3
  obtain ⟨id, rfl, hid⟩ := u64_of w4
  have HF1 := hid_ (fun (W : World) (h : Below w.heap.size w W) => vfind_any A n c a id W (ha.below h))
  have HF2 := hid_ (fun (W : World) (h : Below w.heap.size w W) => rfind_any A n c a id W (ha.below h))
  have HR1 := hid_ (fun (W : World) (h : Below w.heap.size w W) => vright_any A n c a W (ha.below h) hwa)
  have HR2 := hid_ (fun (W : World) (h : Below w.heap.size w W) => rright_any A n c a W (ha.below h))
  have HN1 := hid_ (fun (W : World) => vnewer_any x y W)
  have HN2 := hid_ (fun (W : World) => rnewer_any x y W)
  have HS1 := hid_ (fun (W : World) (h : Below w.heap.size w W) => vsame_any A A' n n' c c' a b W (ha.below h) (hb.below h))
  have HS2 := hid_ (fun (W : World) (h : Below w.heap.size w W) => rsame_any A A' n n' c c' a b W (ha.below h) (hb.below h))
  have HAl := hid_ (fun (W : World) => valive_any W)
  unfold FindPost at HF1 HF2
  rw [found_of] at HF1 HF2
  generalize memOf (getF a id) = m at *
  generalize (getF a id).isSome = is at *
  generalize kindP (rightV a) = kk at *
  generalize newerB x y = nw at *
  generalize eqF sameM a b = sm at *
  have k1 : (kk == kk) = true := by simp
  have k2 : (nw == nw) = true := by simp
  have k3 : (is == is) = true := by simp
  have k4 : (sm == sm) = true := by simp
  have k5 : sameM m m = true := (sameM_iff m m).2 rfl
  have kn := fun (a b : MemberD) (w : World) => mem_eql a b w
  obtain ⟨mi, mc, ms⟩ := m
  have HX := hid_ (((whole_new w 79 #[.int .u64 (x.id : Nat), .int .u64 (x.inc : Nat), .int .i64 x.state])).alloc (.cells #[.int .u64 (y.id : Nat), .int .u64 (y.inc : Nat), .int .i64 y.state] 79))
  have HY := hid_ (show Whole ((w.alloc (.cells #[.int .u64 (x.id : Nat), .int .u64 (x.inc : Nat), .int .i64 x.state] 79)).alloc (.cells #[.int .u64 (y.id : Nat), .int .u64 (y.inc : Nat), .int .i64 y.state] 79)) (w.heap.size + 1) 79 #[.int .u64 (y.id : Nat), .int .u64 (y.inc : Nat), .int .i64 y.state] from whole_at _ _ _ _ (by simp))
  have HB0 := hid_ (((Below.refl w.heap.size w).alloc (Nat.le_refl _) (.cells #[.int .u64 (x.id : Nat), .int .u64 (x.inc : Nat), .int .i64 x.state] 79)).alloc (by simp) (.cells #[.int .u64 (y.id : Nat), .int .u64 (y.inc : Nat), .int .i64 y.state] 79))
  clear ha hb hwa hwb hwx hwy w4 hid
  by_cases hbig0 : 200 < n
  · have q0 : decide ((n : Int) > 200) = true := decide_eq_true (by omega)
    have r0 : decide ((200 : Int) < (n : Int)) = true := decide_eq_true (by omega)
    have s0 : decide (200 < n) = true := decide_eq_true hbig0
    clear hbig0
    go_enter Try.func10, Try.ntmps10
    go_wp2_with fail
    refine Calls.mono (valive_any _) ?_
    rintro e wz ⟨rfl, hbz⟩
    have HBz := hid_ (HB0.out.trans (hbz.mono HB0.out.size))
    clear hbz
    go_wp2_with fail
    go_ret
    exact ⟨rfl, HBz.out⟩
  have q0 : decide ((n : Int) > 200) = false := decide_eq_false (by omega)
  have r0 : decide ((200 : Int) < (n : Int)) = false := decide_eq_false (by omega)
  have s0 : decide (200 < n) = false := decide_eq_false hbig0
  by_cases hbig1 : 200 < n'
  · have q1 : decide ((n' : Int) > 200) = true := decide_eq_true (by omega)
    have r1 : decide ((200 : Int) < (n' : Int)) = true := decide_eq_true (by omega)
    have s1 : decide (200 < n') = true := decide_eq_true hbig1
    clear hbig1
    go_enter Try.func10, Try.ntmps10
    go_wp2_with fail
    refine Calls.mono (valive_any _) ?_
    rintro e wz ⟨rfl, hbz⟩
    have HBz := hid_ (HB0.out.trans (hbz.mono HB0.out.size))
    clear hbz
    go_wp2_with fail
    go_ret
    exact ⟨rfl, HBz.out⟩
  have q1 : decide ((n' : Int) > 200) = false := decide_eq_false (by omega)
  have r1 : decide ((200 : Int) < (n' : Int)) = false := decide_eq_false (by omega)
  have s1 : decide (200 < n') = false := decide_eq_false hbig1
  go_enter Try.func10, Try.ntmps10
  go_wp2_with fail
  refine Calls.mono (HF1.out _ HB0.out) ?_
  rintro e w1 ⟨rfl, hb1⟩
  have HB1 := hid_ (HB0.out.trans (hb1.mono HB0.out.size))
  have HX1 := hid_ ((HX.out.below hb1 HX.out.lt).alloc (.cells #[.int .u64 (mi : Nat), .int .u64 (mc : Nat), .int .i64 ms] 79))
  have HY1 := hid_ ((HY.out.below hb1 HY.out.lt).alloc (.cells #[.int .u64 (mi : Nat), .int .u64 (mc : Nat), .int .i64 ms] 79))
  have HM1 := hid_ (whole_new w1 79 #[.int .u64 (mi : Nat), .int .u64 (mc : Nat), .int .i64 ms])
  have HB1a := hid_ (HB1.out.alloc HB1.out.size (.cells #[.int .u64 (mi : Nat), .int .u64 (mc : Nat), .int .i64 ms] 79))
  clear hb1
  go_wp2_with fail
  refine Calls.mono (HF2.out _ HB1a.out) ?_
  rintro e w2 ⟨rfl, hb2⟩
  have hin : InFour (w2.alloc (.cells #[.int .u64 (mi : Nat), .int .u64 (mc : Nat), .int .i64 ms] 79)) w.heap.size (w.heap.size + 1) w1.heap.size w2.heap.size x y ⟨mi, mc, ms⟩ (w2.alloc (.cells #[.int .u64 (mi : Nat), .int .u64 (mc : Nat), .int .i64 ms] 79)) :=
    ⟨Below.refl _ _, (HX1.out.below hb2 HX1.out.lt).alloc _, (HY1.out.below hb2 HY1.out.lt).alloc _, (HM1.out.below hb2 HM1.out.lt).alloc _, whole_new w2 _ _⟩
  have HIn := hid_ hin
  have HB2 := hid_ ((HB1a.out.trans (hb2.mono HB1a.out.size)).alloc (HB1a.out.trans (hb2.mono HB1a.out.size)).size (.cells #[.int .u64 (mi : Nat), .int .u64 (mc : Nat), .int .i64 ms] 79))
  clear hin hb2
  go_wp2_with fail
  generalize w2.alloc (.cells #[.int .u64 (mi : Nat), .int .u64 (mc : Nat), .int .i64 ms] 79) = wb at *
  generalize w1.heap.size = gm at *
  generalize w2.heap.size = gn at *
  have S0 := atFour_of HIn.out
  go_region_held3 (AtFour wb w.heap.size (w.heap.size + 1) gm gn x y ⟨mi, mc, ms⟩) (first | assumption | (refine atFour_keep (by assumption) (by assumption)) | (refine atFour_keep (by assumption) (Below.drew (Below.refl _ _))))
    (first
      | (go_at_call 48; (with_reducible refine Calls.mono (HR1.out _ ?_) ?_); (exact HB2.out.trans (Below.mono (InFour.bel (And.left (by assumption))) HB2.out.size)); rintro e w' ⟨rfl, hb'⟩)
      | (go_at_call 49; (with_reducible refine Calls.mono (HR2.out _ ?_) ?_); (exact HB2.out.trans (Below.mono (InFour.bel (And.left (by assumption))) HB2.out.size)); rintro e w' ⟨rfl, hb'⟩)
      | (go_at_call 50; (with_reducible refine Calls.mono (HN1.out _) ?_); rintro e w' ⟨rfl, hb'⟩)
      | (go_at_call 51; (with_reducible refine Calls.mono (HN2.out _) ?_); rintro e w' ⟨rfl, hb'⟩)
      | (go_at_call 52; (with_reducible refine Calls.mono (HS1.out _ ?_) ?_); (exact HB2.out.trans (Below.mono (InFour.bel (And.left (by assumption))) HB2.out.size)); rintro e w' ⟨rfl, hb'⟩)
      | (go_at_call 53; (with_reducible refine Calls.mono (HS2.out _ ?_) ?_); (exact HB2.out.trans (Below.mono (InFour.bel (And.left (by assumption))) HB2.out.size)); rintro e w' ⟨rfl, hb'⟩)
      | (go_at_call 45; (with_reducible refine Calls.mono (HAl.out _) ?_); rintro e w' ⟨rfl, hb'⟩)
      | fail)
  have hbz := HB2.out.trans (Below.mono (InFour.bel (And.left (show AtFour wb w.heap.size (w.heap.size + 1) gm gn x y ⟨mi, mc, ms⟩ w' by assumption))) HB2.out.size)
  go_wp2_with fail
  go_ret
  exact ⟨rfl, hbz⟩

set_option maxRecDepth 100000 in
theorem lifted (os : Os) (started : os.Started) (H : Type) (enc : TypeId × Value → H) :
    ReturnsInHanded {} Try.checked os 10 .any (Rows.viewRightSpec.pre6 enc Try.prog Try.f10 Rows.viewRightRow.domain false) (Rows.viewRightSpec.post enc Try.prog Try.f10 false true false false) := by
  refine returnsInHanded_of_change (C := Try.checked) own started (by kernel_rfl) Try.func10
    (ChangeSpec.witness6 (enc := enc) (C := Try.checked) false ⟨#[], #[.slice none 0 0, .slice none 0 0, (.agg #[.int .u64 0, .int .u64 0, .int .i64 0]), (.agg #[.int .u64 0, .int .u64 0, .int .i64 0]), .int .u64 0], []⟩ 8 (by kernel_rfl) (by kernel_rfl) (by kernel_rfl) (by kernel_rfl)) ?_
  intro W base args ds gs before hval0 hW hcnd _
  have hval : ∀ (j : Nat) t v, Try.f10.params[j]? = some t → args[j]? = some v → Value.okWide Try.prog W .any base t v := hval0
  have hW' := hW
  obtain ⟨p, q, hA0, hV, rfl, hfz, hnd⟩ := hW
  have hA : DataW.TrodAll enc Try.prog W 0 (fun _ => true) true Try.f10.params.toList args.toList ds p := hA0
  rw [Try.params10] at hA hval
  obtain ⟨v0, vs0, d0, ds0, p0, q0, hargs, rfl, rfl, h0, r0⟩ := trodAll_cons hA
  obtain ⟨v1, vs1, d1, ds1, p1, q1, rfl, rfl, rfl, h1, r1⟩ := trodAll_cons r0
  obtain ⟨v2, vs2, d2, ds2, p2, q2, rfl, rfl, rfl, h2, r2⟩ := trodAll_cons r1
  obtain ⟨v3, vs3, d3, ds3, p3, q3, rfl, rfl, rfl, h3, r3⟩ := trodAll_cons r2
  obtain ⟨v4, vs4, d4, ds4, p4, q4, rfl, rfl, rfl, h4, r4⟩ := trodAll_cons r3
  obtain ⟨rfl, rfl, rfl⟩ := trodAll_nil r4
  obtain rfl : args = #[v0, v1, v2, v3, v4] := by cases args; simp_all
  obtain ⟨rfl, rfl⟩ := trodVars_none hV
  have k0 := h0
  have lt0 : ∀ x ∈ p0, x.block < W.heap.size := by obtain ⟨m, hm⟩ := k0; exact DataW.trod_lt m _ _ _ hm
  have w0 : Vw.MemsV W v0 := Vw.open_memsV (hval 0 77 v0 rfl rfl) h0
  have k1 := h1
  have lt1 : ∀ x ∈ p1, x.block < W.heap.size := by obtain ⟨m, hm⟩ := k1; exact DataW.trod_lt m _ _ _ hm
  have w1 : Vw.MemsV W v1 := Vw.open_memsV (hval 1 77 v1 rfl rfl) h1
  have k2 := h2
  have lt2 : ∀ x ∈ p2, x.block < W.heap.size := by obtain ⟨m, hm⟩ := k2; exact DataW.trod_lt m _ _ _ hm
  have w2 : Vw.MemV W v2 := Vw.open_memV (hval 2 79 v2 rfl rfl) h2
  have k3 := h3
  have lt3 : ∀ x ∈ p3, x.block < W.heap.size := by obtain ⟨m, hm⟩ := k3; exact DataW.trod_lt m _ _ _ hm
  have w3 : Vw.MemV W v3 := Vw.open_memV (hval 3 79 v3 rfl rfl) h3
  obtain ⟨a4, rfl, rfl, rfl, w4⟩ := open_int Try.underlying60 (hval 4 60 v4 rfl rfl) h4
  clear hA0 hval0
  refine (walk v0 v1 v2 v3 a4 W w0 w1 w2 w3 w4).mono fun e W' ⟨he, bel⟩ => ?_
  subst he
  exact ⟨_, rfl, _, _, _, [], _, [], hW', trodAll_mk1 (shut_bool Try.underlying4 _), (trodAll_cons_mk (Below.trod laidOut (by kernel_rfl) (of_decide_eq_true (by kernel_rfl)) k0 bel lt0) (trodAll_cons_mk (Below.trod laidOut (by kernel_rfl) (of_decide_eq_true (by kernel_rfl)) k1 bel lt1) (trodAll_cons_mk (Below.trod laidOut (by kernel_rfl) (of_decide_eq_true (by kernel_rfl)) k2 bel lt2) (trodAll_cons_mk (Below.trod laidOut (by kernel_rfl) (of_decide_eq_true (by kernel_rfl)) k3 bel lt3) (trodAll_cons_mk (shut_int Try.underlying60 w4) trodAll_mk0))))), rfl, bel.frame _, fun h => by cases h⟩

theorem over : Rows.viewRightRow.holds Try.pinned (OpenSpec.ofChange Rows.viewRightSpec) :=
  OpenClaim.holds_of_wide 10 Try.f10 rfl rfl rfl rfl rfl rfl rfl ⟨rfl, rfl, rfl, rfl, rfl⟩ rfl rfl rfl rfl rfl (by kernel_rfl) Try.func10 (by kernel_rfl)
    (of_decide_eq_true (by kernel_rfl)) (by unfold Func.isWrapper; first | (rw [if_pos (by decide +kernel)]; kernel_rfl) | (rw [if_neg (by decide +kernel)]; exact ⟨rfl, rfl⟩))
    (fun os started H enc _ => lifted os started H enc)

theorem proved : Rows.ViewRightSaid := over
#print axioms proved
end Go.Proofs.Yteoeghljoaiiiaa.viewRight
