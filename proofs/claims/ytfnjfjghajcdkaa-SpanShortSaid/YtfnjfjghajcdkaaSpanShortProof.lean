/-
  SpanShort: of any span whose texts have at most 1000 bytes each (above it nothing is asked), its bytes cut off at any place are told to be too short; no condition on the input.
  The frame round the walk is written by the guide's own program for this statement.
-/
import Derived.Test.YtfnjfjghajcdkaaRows
import Derived.Test.YtfnjfjghajcdkaaSpAlive
import Derived.Test.YtfnjfjghajcdkaaSpanOpen
import Derived.Test.YtfnjfjghajcdkaaSpCutAll
import Derived.Test.YtfnjfjghajcdkaaSpanBackMath
import Derived.Test.YtfnjfjghajcdkaaSpanEq
import Derived.WalkKit
import Derived.ProofKit
import Derived.OpenShut
import Derived.ShutString
import Derived.ChangeOld
import Derived.Below
namespace Go.Proofs.Ytfnjfjghajcdkaa.spanShort
open Go.ChangeShapes Go.WideShapes Go.ChangeAt Go.RowKit
open Go.ChangeMaps (open_string shut_string)
set_option linter.unusedVariables false

theorem own : ownKnob Try.prog.godebug = none := by kernel_rfl
theorem laidOut : laidOutB Try.prog = true := by kernel_rfl

/-- WHAT THE WALK IS TOLD OF A SLICE OF INTEGERS THAT CAME IN: it is nil; or it leads to a row of 'cap' cells, the numbers 'zs' (the first 'len' are its elements, the rest its spare room), each fitting its kind. -/
def IsRow (k : IntKind) (w : World) (a : Option Addr) (len cap : Nat) (zs : List Int) : Prop :=
  (a = none ∧ len = 0 ∧ cap = 0 ∧ zs = []) ∨
  ∃ x, a = some x ∧ len ≤ cap ∧ cap ≤ maxLen ∧ zs.length = cap ∧ (∀ i, i < zs.length → w.cell? (x.add i) = some (.int k (zs.getD i 0))) ∧ ∀ n ∈ zs, (Lit.int k n).wf = true

open Ru
abbrev zeroVal : Value := .agg #[.int .u64 0, .int .u64 0, .int .u64 0, .int .u64 0, .int .u64 0, .string ⟨#[]⟩, .string ⟨#[]⟩, .bool false]
theorem cut_told {w w' : World} {l : List UInt8} {k : Int} {e : Ending} (h : SpanCutPost w l e w') (hc : cutSpanF l = (k, SpanD.zero, [])) :
    ∃ A c, e = .returned (.tuple #[zeroVal, .slice A 0 c, .int .i64 k]) ∧ Below w.heap.size w w' := by
  obtain ⟨A, n, c, he, hs, hb⟩ := h
  rw [hc] at he hs
  obtain rfl : n = 0 := by rw [← hs.len]; rfl
  exact ⟨A, c, he, hb⟩
theorem zero_eql (w : World) : (binOp .eql 28 zeroVal zeroVal).run Try.prog w = .ok (.bool true) w := by
  have := span_eql SpanD.zero SpanD.zero w
  rw [sameF_self] at this
  exact this
set_option maxHeartbeats 2000000 in
theorem walk (v0 : Value) (a1 : Int) (w : World) (w0 : SpanV w v0) (w1 : (Lit.int .i64 a1).wf = true) :
    Calls Try.prog 10 #[v0, .int .i64 a1] w fun e w' => e = .returned (.bool true) ∧ Below w.heap.size w w' := by
  obtain ⟨s, hs, rfl⟩ := w0
  have ha := hid_ (fun W => alive_any W)
  have hz1 := hs.service
  have hz2 := hs.name
  have HS := hid_ hs
  have hX0 := hid_ (box_new w s 28)
  have hwf : -9223372036854775808 ≤ a1 ∧ a1 ≤ 9223372036854775807 := by simpa [Lit.wf, IntKind.min, IntKind.max, IntKind.bits, IntKind.signed] using w1
  obtain ⟨hw1, hw2⟩ := hwf
  clear hs w1
  by_cases hb1 : 1000 < s.name.size
  · have e2 : decide ((1000 : Int) < (s.name.size : Int)) = true := by simp; omega
    go_enter Try.func10, Try.ntmps10
    go_wp2_with fail
    refine (ha.out _).mono ?_
    rintro e w' ⟨rfl, hbel⟩
    go_wp2_with fail
    go_ret
    exact ⟨rfl, ((Below.refl _ _).alloc (Nat.le_refl _) _).trans (hbel.mono (by simp))⟩
  have e2 : decide ((1000 : Int) < (s.name.size : Int)) = false := by simp; omega
  by_cases hb2 : 1000 < s.service.size
  · have e3 : decide ((1000 : Int) < (s.service.size : Int)) = true := by simp; omega
    go_enter Try.func10, Try.ntmps10
    go_wp2_with fail
    refine (ha.out _).mono ?_
    rintro e w' ⟨rfl, hbel⟩
    go_wp2_with fail
    go_ret
    exact ⟨rfl, ((Below.refl _ _).alloc (Nat.le_refl _) _).trans (hbel.mono (by simp))⟩
  have e3 : decide ((1000 : Int) < (s.service.size : Int)) = false := by simp; omega
  have Hp := hid_ (put_any none 0 0 [] s (w.alloc (.cells (spanCells s) 28)) (Sl.none _) (by omega) HS.out)
  go_enter Try.func10, Try.ntmps10
  go_wp2_with fail
  refine Calls.mono Hp.out ?_
  rintro e w1 (⟨hk, rfl, hb⟩ | ⟨hk, A1, n1, c1, rfl, ho, hb⟩)
  · have Hb1 := hid_ (((Below.refl w.heap.size w).alloc (Nat.le_refl _) (.cells (spanCells s) 28)).trans (hb.mono (by simp)))
    have hkb : (rightF s != 0) = true := by rw [bne_iff_ne]; exact hk
    have Hk := hid_ hk
    clear hb hk
    go_wp2_with fail
    refine (ha.out _).mono ?_
    rintro e w4 ⟨rfl, hb4⟩
    go_wp2_with fail
    go_ret
    exact ⟨rfl, Hb1.out.trans (hb4.mono Hb1.out.size)⟩
  have Hb1 := hid_ (((Below.refl w.heap.size w).alloc (Nat.le_refl _) (.cells (spanCells s) 28)).trans (hb.mono (by simp)))
  have hs1 := ho.sl
  rw [List.nil_append] at hs1
  have hlen := hs1.len
  have hcap := hs1.cap
  have hmax := hs1.max
  have Hk := hid_ hk
  have Hs1 := hid_ hs1
  have hn1 : n1 ≤ 2100 := by rw [← hlen, putF_length]; omega
  have Hlen := hid_ hlen
  clear hb hk ho hs1 hlen
  by_cases hneg : a1 < 0
  · have e4 : decide (a1 < 0) = true := decide_eq_true hneg
    go_wp2_with fail
    refine (ha.out _).mono ?_
    rintro e w4 ⟨rfl, hb4⟩
    go_wp2_with fail
    go_ret
    exact ⟨rfl, Hb1.out.trans (hb4.mono Hb1.out.size)⟩
  have e4 : decide (a1 < 0) = false := decide_eq_false hneg
  obtain ⟨j, rfl⟩ := Int.eq_ofNat_of_zero_le (show 0 ≤ a1 by omega)
  by_cases hge : n1 ≤ j
  · go_wp2_with fail
    refine (ha.out _).mono ?_
    rintro e w4 ⟨rfl, hb4⟩
    go_wp2_with fail
    go_ret
    exact ⟨rfl, Hb1.out.trans (hb4.mono Hb1.out.size)⟩
  have hlt : j < n1 := by omega
  have Hc := hid_ (cut_any A1 j c1 ((putF s).take j) w1 (Hs1.out.upto j (by omega)) (by omega))
  have Hshort := hid_ (cutSpan_take Hk.out (k := j) (by rw [Hlen.out]; exact hlt))
  have kz := fun w => zero_eql w
  go_wp2_with fail
  refine Calls.mono Hc.out ?_
  intro e w2 hpost
  obtain ⟨A2, c2, rfl, hb2⟩ := cut_told hpost Hshort.out
  have Hb2 := hid_ (Hb1.out.trans (hb2.mono Hb1.out.size))
  clear hpost hb2
  go_wp2_with fail
  refine (ha.out _).mono ?_
  rintro e w4 ⟨rfl, hb4⟩
  go_wp2_with fail
  go_ret
  exact ⟨rfl, (Hb2.out.alloc Hb2.out.size _).trans (hb4.mono (by have := Hb2.out.size; simp; omega))⟩

set_option maxRecDepth 100000 in
theorem lifted (os : Os) (started : os.Started) (H : Type) (enc : TypeId × Value → H) :
    ReturnsInHanded {} Try.checked os 10 .any (Rows.spanShortSpec.pre6 enc Try.prog Try.f10 Rows.spanShortRow.domain false) (Rows.spanShortSpec.post enc Try.prog Try.f10 false true false false) := by
  refine returnsInHanded_of_change (C := Try.checked) own started (by kernel_rfl) Try.func10
    (ChangeSpec.witness6 (enc := enc) (C := Try.checked) false ⟨#[], #[(.agg #[.int .u64 0, .int .u64 0, .int .u64 0, .int .u64 0, .int .u64 0, .string ⟨#[]⟩, .string ⟨#[]⟩, .bool false]), .int .i64 0], []⟩ 8 (by kernel_rfl) (by kernel_rfl) (by kernel_rfl) (by kernel_rfl)) ?_
  intro W base args ds gs before hval0 hW hcnd _
  have hval : ∀ (j : Nat) t v, Try.f10.params[j]? = some t → args[j]? = some v → Value.okWide Try.prog W .any base t v := hval0
  have hW' := hW
  obtain ⟨p, q, hA0, hV, rfl, hfz, hnd⟩ := hW
  have hA : DataW.TrodAll enc Try.prog W 0 (fun _ => true) true Try.f10.params.toList args.toList ds p := hA0
  rw [Try.params10] at hA hval
  obtain ⟨v0, vs0, d0, ds0, p0, q0, hargs, rfl, rfl, h0, r0⟩ := trodAll_cons hA
  obtain ⟨v1, vs1, d1, ds1, p1, q1, rfl, rfl, rfl, h1, r1⟩ := trodAll_cons r0
  obtain ⟨rfl, rfl, rfl⟩ := trodAll_nil r1
  obtain rfl : args = #[v0, v1] := by cases args; simp_all
  obtain ⟨rfl, rfl⟩ := trodVars_none hV
  have k0 := h0
  have lt0 : ∀ x ∈ p0, x.block < W.heap.size := by obtain ⟨m, hm⟩ := k0; exact DataW.trod_lt m _ _ _ hm
  have w0 : SpanV W v0 := open_spanV (hval 0 28 v0 rfl rfl) h0
  obtain ⟨a1, rfl, rfl, rfl, w1⟩ := open_int Try.underlying3 (hval 1 3 v1 rfl rfl) h1
  clear hA0 hval0
  refine (walk v0 a1 W w0 w1).mono fun e W' ⟨he, bel⟩ => ?_
  subst he
  exact ⟨_, rfl, _, _, _, [], _, [], hW', trodAll_mk1 (shut_bool Try.underlying4 _), (trodAll_cons_mk (Below.trod laidOut (by kernel_rfl) (of_decide_eq_true (by kernel_rfl)) k0 bel lt0) (trodAll_cons_mk (shut_int Try.underlying3 w1) trodAll_mk0)), rfl, bel.frame _, fun h => by cases h⟩

theorem over : Rows.spanShortRow.holds Try.pinned (OpenSpec.ofChange Rows.spanShortSpec) :=
  OpenClaim.holds_of_wide 10 Try.f10 rfl rfl rfl rfl rfl rfl rfl ⟨rfl, rfl, rfl, rfl, rfl⟩ rfl rfl rfl rfl rfl (by kernel_rfl) Try.func10 (by kernel_rfl)
    (of_decide_eq_true (by kernel_rfl)) (by unfold Func.isWrapper; first | (rw [if_pos (by decide +kernel)]; kernel_rfl) | (rw [if_neg (by decide +kernel)]; exact ⟨rfl, rfl⟩))
    (fun os started H enc _ => lifted os started H enc)

theorem proved : Rows.SpanShortSaid := over
#print axioms proved
end Go.Proofs.Ytfnjfjghajcdkaa.spanShort
