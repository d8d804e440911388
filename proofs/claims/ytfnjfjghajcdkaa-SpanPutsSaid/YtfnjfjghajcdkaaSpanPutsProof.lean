/-
  SpanPuts: of any dst of at most 5000 bytes and any span whose texts have at most 1000 bytes each (above it nothing is asked) the program's Put answers what the reference's answers; no condition on the input.
  The frame round the walk is written by the guide's own program for this statement.
-/
import Derived.Test.YtfnjfjghajcdkaaRows
import Derived.Test.YtfnjfjghajcdkaaSpAlive
import Derived.Test.YtfnjfjghajcdkaaSpanOpen
import Derived.Test.YtfnjfjghajcdkaaSame
import Derived.WalkKit
import Derived.ProofKit
import Derived.OpenShut
import Derived.ShutString
import Derived.ChangeOld
import Derived.Below
namespace Go.Proofs.Ytfnjfjghajcdkaa.spanPuts
open Go.ChangeShapes Go.WideShapes Go.ChangeAt Go.RowKit
open Go.ChangeMaps (open_string shut_string)
set_option linter.unusedVariables false

theorem own : ownKnob Try.prog.godebug = none := by kernel_rfl
theorem laidOut : laidOutB Try.prog = true := by kernel_rfl

/-- WHAT THE WALK IS TOLD OF A SLICE OF INTEGERS THAT CAME IN: it is nil; or it leads to a row of 'cap' cells, the numbers 'zs' (the first 'len' are its elements, the rest its spare room), each fitting its kind. -/
def IsRow (k : IntKind) (w : World) (a : Option Addr) (len cap : Nat) (zs : List Int) : Prop :=
  (a = none ∧ len = 0 ∧ cap = 0 ∧ zs = []) ∨
  ∃ x, a = some x ∧ len ≤ cap ∧ cap ≤ maxLen ∧ zs.length = cap ∧ (∀ i, i < zs.length → w.cell? (x.add i) = some (.int k (zs.getD i 0))) ∧ ∀ n ∈ zs, (Lit.int k n).wf = true

open Ru
set_option maxHeartbeats 2000000 in
theorem walk (a0 : Option Addr) (len0 cap0 : Nat) (z0 : List Int) (v1 : Value) (w : World) (w0 : IsRow .u8 w a0 len0 cap0 z0) (w1 : SpanV w v1) :
    Calls Try.prog 5 #[.slice a0 len0 cap0, v1] w fun e w' => e = .returned (.bool true) ∧ Below w.heap.size w w' := by
  obtain ⟨l0, hs0⟩ := sl_of_row w0
  obtain ⟨s, hs, rfl⟩ := w1
  have H0 := hid_ hs0
  have ha := hid_ (fun W => alive_any W)
  have hz1 := hs.service
  have hz2 := hs.name
  have HS := hid_ hs
  have hX0 := hid_ (box_new w s 28)
  clear w0 hs0 hs
  by_cases hb0 : 5000 < len0
  · have e1 : decide ((5000 : Int) < (len0 : Int)) = true := by simp; omega
    go_enter Try.func5, Try.ntmps5
    go_wp2_with fail
    refine (ha.out _).mono ?_
    rintro e w' ⟨rfl, hbel⟩
    go_wp2_with fail
    go_ret
    exact ⟨rfl, ((Below.refl _ _).alloc (Nat.le_refl _) _).trans (hbel.mono (by simp))⟩
  have e1 : decide ((5000 : Int) < (len0 : Int)) = false := by simp; omega
  by_cases hb1 : 1000 < s.name.size
  · have e2 : decide ((1000 : Int) < (s.name.size : Int)) = true := by simp; omega
    go_enter Try.func5, Try.ntmps5
    go_wp2_with fail
    refine (ha.out _).mono ?_
    rintro e w' ⟨rfl, hbel⟩
    go_wp2_with fail
    go_ret
    exact ⟨rfl, ((Below.refl _ _).alloc (Nat.le_refl _) _).trans (hbel.mono (by simp))⟩
  have e2 : decide ((1000 : Int) < (s.name.size : Int)) = false := by simp; omega
  by_cases hb2 : 1000 < s.service.size
  · have e3 : decide ((1000 : Int) < (s.service.size : Int)) = true := by simp; omega
    go_enter Try.func5, Try.ntmps5
    go_wp2_with fail
    refine (ha.out _).mono ?_
    rintro e w' ⟨rfl, hbel⟩
    go_wp2_with fail
    go_ret
    exact ⟨rfl, ((Below.refl _ _).alloc (Nat.le_refl _) _).trans (hbel.mono (by simp))⟩
  have e3 : decide ((1000 : Int) < (s.service.size : Int)) = false := by simp; omega
  have Hp := hid_ (put_any a0 len0 cap0 l0 s (w.alloc (.cells (spanCells s) 28)) (H0.out.below ((Below.refl _ _).alloc (Nat.le_refl _) _)) (by omega) HS.out)
  have Hq := hid_ (fun W (h : Below w.heap.size w W) => refput_any a0 len0 cap0 l0 s W (H0.out.below h) (by omega) HS.out)
  go_enter Try.func5, Try.ntmps5
  go_wp2_with fail
  refine Calls.mono Hp.out ?_
  rintro e w1 (⟨hk, rfl, hb⟩ | ⟨hk, A1, n1, c1, rfl, ho, hb⟩)
  · have Hx1 := hid_ (hX0.out.below hb (by simp))
    have Hb1 := hid_ (((Below.refl w.heap.size w).alloc (Nat.le_refl _) (.cells (spanCells s) 28)).trans (hb.mono (by simp)))
    obtain ⟨x0, x1, x2, x3, x4, x5, x6, x7⟩ := Hx1.out
    have Hk := hid_ hk
    clear hb hk
    go_wp2_with fail
    refine Calls.mono (Hq.out _ Hb1.out) ?_
    rintro e w2 (⟨_, rfl, hb2⟩ | ⟨hk2, _⟩)
    rotate_left
    · exact absurd hk2 Hk.out
    have Hb2 := hid_ (Hb1.out.trans (hb2.mono Hb1.out.size))
    have Hsm := hid_ (same_below none none 0 0 0 [] w2 (Sl.none _) (Sl.none _))
    have ek : (rightF s == rightF s) = true := by simp
    clear x0 x1 x2 x3 x4 x5 x6 x7 hb2
    go_wp2_with fail
    refine Calls.mono Hsm.out ?_
    rintro e w3 ⟨rfl, hb3⟩
    have Hb3 := hid_ (Hb2.out.trans (hb3.mono Hb2.out.size))
    clear hb3
    go_wp2_with fail
    refine (ha.out _).mono ?_
    rintro e w4 ⟨rfl, hb4⟩
    go_wp2_with fail
    go_ret
    exact ⟨rfl, Hb3.out.trans (hb4.mono Hb3.out.size)⟩
  · have Hx1 := hid_ (hX0.out.below hb (by simp))
    have Hb1 := hid_ (((Below.refl w.heap.size w).alloc (Nat.le_refl _) (.cells (spanCells s) 28)).trans (hb.mono (by simp)))
    obtain ⟨x0, x1, x2, x3, x4, x5, x6, x7⟩ := Hx1.out
    have Hk := hid_ hk
    have Ho1 := hid_ ho.sl
    clear hb hk ho
    go_wp2_with fail
    refine Calls.mono (Hq.out _ Hb1.out) ?_
    rintro e w2 (⟨hk2, _⟩ | ⟨_, A2, n2, c2, rfl, ho2, hb2⟩)
    · exact absurd Hk.out hk2
    have Hb2 := hid_ (Hb1.out.trans (hb2.mono Hb1.out.size))
    obtain rfl : n1 = n2 := by rw [← Ho1.out.len, ← ho2.sl.len]
    have Hsm := hid_ (same_below _ _ _ _ _ _ w2 (Ho1.out.below hb2) ho2.sl)
    clear x0 x1 x2 x3 x4 x5 x6 x7 hb2 ho2
    go_wp2_with fail
    refine Calls.mono Hsm.out ?_
    rintro e w3 ⟨rfl, hb3⟩
    have Hb3 := hid_ (Hb2.out.trans (hb3.mono Hb2.out.size))
    clear hb3
    go_wp2_with fail
    refine (ha.out _).mono ?_
    rintro e w4 ⟨rfl, hb4⟩
    go_wp2_with fail
    go_ret
    exact ⟨rfl, Hb3.out.trans (hb4.mono Hb3.out.size)⟩

set_option maxRecDepth 100000 in
theorem lifted (os : Os) (started : os.Started) (H : Type) (enc : TypeId × Value → H) :
    ReturnsInHanded {} Try.checked os 5 .any (Rows.spanPutsSpec.pre6 enc Try.prog Try.f5 Rows.spanPutsRow.domain false) (Rows.spanPutsSpec.post enc Try.prog Try.f5 false true false false) := by
  refine returnsInHanded_of_change (C := Try.checked) own started (by kernel_rfl) Try.func5
    (ChangeSpec.witness6 (enc := enc) (C := Try.checked) false ⟨#[], #[.slice none 0 0, (.agg #[.int .u64 0, .int .u64 0, .int .u64 0, .int .u64 0, .int .u64 0, .string ⟨#[]⟩, .string ⟨#[]⟩, .bool false])], []⟩ 8 (by kernel_rfl) (by kernel_rfl) (by kernel_rfl) (by kernel_rfl)) ?_
  intro W base args ds gs before hval0 hW hcnd _
  have hval : ∀ (j : Nat) t v, Try.f5.params[j]? = some t → args[j]? = some v → Value.okWide Try.prog W .any base t v := hval0
  have hW' := hW
  obtain ⟨p, q, hA0, hV, rfl, hfz, hnd⟩ := hW
  have hA : DataW.TrodAll enc Try.prog W 0 (fun _ => true) true Try.f5.params.toList args.toList ds p := hA0
  rw [Try.params5] at hA hval
  obtain ⟨v0, vs0, d0, ds0, p0, q0, hargs, rfl, rfl, h0, r0⟩ := trodAll_cons hA
  obtain ⟨v1, vs1, d1, ds1, p1, q1, rfl, rfl, rfl, h1, r1⟩ := trodAll_cons r0
  obtain ⟨rfl, rfl, rfl⟩ := trodAll_nil r1
  obtain rfl : args = #[v0, v1] := by cases args; simp_all
  obtain ⟨rfl, rfl⟩ := trodVars_none hV
  obtain ⟨a0, len0, cap0, rfl⟩ := okWide_slice Try.underlying31 (hval 0 31 v0 rfl rfl)
  have k0 := h0
  have lt0 : ∀ x ∈ p0, x.block < W.heap.size := by obtain ⟨m, hm⟩ := k0; exact DataW.trod_lt m _ _ _ hm
  obtain ⟨z0, w0⟩ : ∃ zs, IsRow .u8 W a0 len0 cap0 zs := by
    obtain ⟨fuel, hf⟩ := h0
    rcases open_ints Try.underlying31 Try.underlying5 (by kernel_rfl) hf with ⟨hcs, _⟩ | ⟨x, l, c, zs, hcs, _, hl, hm, hz, _, hcell, hwz⟩
    · simp [Value.cells] at hcs
      obtain ⟨rfl, rfl, rfl⟩ := hcs
      exact ⟨[], .inl ⟨rfl, rfl, rfl, rfl⟩⟩
    · simp [Value.cells] at hcs
      obtain ⟨rfl, rfl, rfl⟩ := hcs
      exact ⟨zs, .inr ⟨_, rfl, hl, hm, by simpa using hz, hcell, hwz⟩⟩
  have k1 := h1
  have lt1 : ∀ x ∈ p1, x.block < W.heap.size := by obtain ⟨m, hm⟩ := k1; exact DataW.trod_lt m _ _ _ hm
  have w1 : SpanV W v1 := open_spanV (hval 1 28 v1 rfl rfl) h1
  clear hA0 hval0
  refine (walk a0 len0 cap0 z0 v1 W w0 w1).mono fun e W' ⟨he, bel⟩ => ?_
  subst he
  exact ⟨_, rfl, _, _, _, [], _, [], hW', trodAll_mk1 (shut_bool Try.underlying4 _), (trodAll_cons_mk (Below.trod laidOut (by kernel_rfl) (of_decide_eq_true (by kernel_rfl)) k0 bel lt0) (trodAll_cons_mk (Below.trod laidOut (by kernel_rfl) (of_decide_eq_true (by kernel_rfl)) k1 bel lt1) trodAll_mk0)), rfl, bel.frame _, fun h => by cases h⟩

theorem over : Rows.spanPutsRow.holds Try.pinned (OpenSpec.ofChange Rows.spanPutsSpec) :=
  OpenClaim.holds_of_wide 5 Try.f5 rfl rfl rfl rfl rfl rfl rfl ⟨rfl, rfl, rfl, rfl, rfl⟩ rfl rfl rfl rfl rfl (by kernel_rfl) Try.func5 (by kernel_rfl)
    (of_decide_eq_true (by kernel_rfl)) (by unfold Func.isWrapper; first | (rw [if_pos (by decide +kernel)]; kernel_rfl) | (rw [if_neg (by decide +kernel)]; exact ⟨rfl, rfl⟩))
    (fun os started H enc _ => lifted os started H enc)

theorem proved : Rows.SpanPutsSaid := over
#print axioms proved
end Go.Proofs.Ytfnjfjghajcdkaa.spanPuts
