/-
  FrameTurned: of data of up to 8192 bytes (above it nothing is asked) a byte of the frame that is turned, but of its length, is seen as a bad frame; no condition on the input.
  The frame round the walk is written by the guide's own program for this statement.
-/
import Derived.Test.YtooodafmglhfoaaRows
import Derived.Test.YtooodafmglhfoaaFrameRef
import Derived.Test.YtooodafmglhfoaaSame
import Derived.Test.YtooodafmglhfoaaFrameAlive
import Derived.WalkKit
import Derived.ProofKit
import Derived.OpenShut
import Derived.ShutString
import Derived.ChangeOld
import Derived.Below
namespace Go.Proofs.Ytooodafmglhfoaa.frameTurned
open Go.ChangeShapes Go.WideShapes Go.ChangeAt Go.RowKit
open Go.ChangeMaps (open_string shut_string)
set_option linter.unusedVariables false

theorem own : ownKnob Try.prog.godebug = none := by kernel_rfl
theorem laidOut : laidOutB Try.prog = true := by kernel_rfl

/-- WHAT THE WALK IS TOLD OF A SLICE OF INTEGERS THAT CAME IN: it is nil; or it leads to a row of 'cap' cells, the numbers 'zs' (the first 'len' are its elements, the rest its spare room), each fitting its kind. -/
def IsRow (k : IntKind) (w : World) (a : Option Addr) (len cap : Nat) (zs : List Int) : Prop :=
  (a = none ∧ len = 0 ∧ cap = 0 ∧ zs = []) ∨
  ∃ x, a = some x ∧ len ≤ cap ∧ cap ≤ maxLen ∧ zs.length = cap ∧ (∀ i, i < zs.length → w.cell? (x.add i) = some (.int k (zs.getD i 0))) ∧ ∀ n ∈ zs, (Lit.int k n).wf = true

open Crc Fm
set_option maxHeartbeats 2000000 in
theorem walk (a0 : Option Addr) (len0 cap0 : Nat) (z0 : List Int) (a1 : Int) (a2 : Int) (w : World) (w0 : IsRow .u8 w a0 len0 cap0 z0) (w1 : (Lit.int .i64 a1).wf = true) (w2 : (Lit.int .u8 a2).wf = true) :
    Calls Try.prog 7 #[.slice a0 len0 cap0, .int .i64 a1, .int .u8 a2] w fun e w' => e = .returned (.bool true) ∧ Below w.heap.size w w' := by
  obtain ⟨l0, hs0⟩ := sl_of_row w0
  have H0 := hid_ hs0
  have ha := hid_ (fun W => alive_any W)
  clear w0 hs0
  by_cases hb0 : 8192 < len0
  · have e2 : decide ((8192 : Int) < (len0 : Int)) = true := by simp; omega
    go_enter Try.func7, Try.ntmps7
    go_wp2_with fail
    refine (ha.out _).mono ?_
    rintro e w' ⟨rfl, hbel⟩
    go_wp2
    go_ret
    exact ⟨rfl, hbel⟩
  have e2 : decide ((8192 : Int) < (len0 : Int)) = false := by simp; omega
  by_cases ht : a2 = 0
  · have e3 : (a2 == 0) = true := by simp [ht]
    have Ht := hid_ ht
    clear ht
    go_enter Try.func7, Try.ntmps7
    go_wp2_with fail
    refine (ha.out _).mono ?_
    rintro e w' ⟨rfl, hbel⟩
    go_wp2
    go_ret
    exact ⟨rfl, hbel⟩
  have e3 : (a2 == 0) = false := by simpa using ht
  have hat : -9223372036854775808 ≤ a1 ∧ a1 ≤ 9223372036854775807 := by simpa [Lit.wf, IntKind.min, IntKind.max, IntKind.bits, IntKind.signed] using w1
  obtain ⟨hat1, hat2⟩ := hat
  obtain ⟨x, rfl⟩ := byte_of w2
  have hx0 := hid_ (show x ≠ 0 by rintro rfl; exact ht rfl)
  have Hp := hid_ (put_nil a0 len0 cap0 l0 w H0.out (by omega))
  have Hlen := hid_ H0.out.len
  clear ht w1 w2
  by_cases h4 : a1 < 4
  · have e4 : decide (a1 < 4) = true := by simp; omega
    go_enter Try.func7, Try.ntmps7
    go_wp2_with fail
    refine Hp.out.mono ?_
    rintro e w1 ⟨A1, c1, rfl, hs1, hb1⟩
    have Hb1 := hid_ hb1
    clear hs1 hb1
    go_wp2_with fail
    refine (ha.out _).mono ?_
    rintro e w' ⟨rfl, hbel⟩
    go_wp2
    go_ret
    exact ⟨rfl, Hb1.out.trans (hbel.mono Hb1.out.size)⟩
  have e4 : decide (a1 < 4) = false := by simp; omega
  obtain ⟨j, rfl⟩ := Int.eq_ofNat_of_zero_le (show 0 ≤ a1 by omega)
  by_cases hj : len0 + 8 ≤ j
  · have e5 : decide (((len0 : Int) + 8) ≤ (j : Int)) = true := by simp; omega
    go_enter Try.func7, Try.ntmps7
    go_wp2_with fail
    refine Hp.out.mono ?_
    rintro e w1 ⟨A1, c1, rfl, hs1, hb1⟩
    have Hb1 := hid_ hb1
    clear hs1 hb1
    go_wp2_with fail
    refine (ha.out _).mono ?_
    rintro e w' ⟨rfl, hbel⟩
    go_wp2
    go_ret
    exact ⟨rfl, Hb1.out.trans (hbel.mono Hb1.out.size)⟩
  have e5 : decide (((len0 : Int) + 8) ≤ (j : Int)) = false := by simp; omega
  have hjf : j < (framed l0).length := by rw [framed_length, Hlen.out]; omega
  have Hseen := hid_ (cut_turned l0 (by rw [Hlen.out]; omega) j (by omega) hjf x hx0.out)
  have hxb := byte_xor (framed l0)[j] x
  have Hlit := hid_ (fun W : World => own_lit W [] #[] rfl 0 rfl (by omega) w.heap.size)
  go_enter Try.func7, Try.ntmps7
  go_wp2_with fail
  refine Hp.out.mono ?_
  rintro e w1 ⟨A1, c1, rfl, hs1, hb1⟩
  have Hs1 := hid_ hs1
  have Hb1 := hid_ hb1
  clear hs1 hb1
  go_wp2_with (at_builtin; (refine wpList_bytes rfl (.tmp 43) (.tmp 44) rfl w.heap.size _ 0 _ _ rfl (Hlit.out w1 Hb1.out.size) _ _ c1 (framed l0) rfl (Hs1.out.sl.below ((Below.refl _ _).alloc (Nat.le_refl _) _)) (len0 + 8) (framed l0) (by omega) rfl (by omega) (by have := Hb1.out.size; simp; omega) ?_); intro A2 c2 w2 ho' hb'; have Hb2 := hid_ ((Hb1.out.alloc Hb1.out.size _).trans hb'); have Ho2 := hid_ ho'; clear ho' hb'; obtain ⟨g, rfl, hg, hg2⟩ := Ho2.out.place (by omega); obtain ⟨hc, hf, ho3', hb3'⟩ := Ho2.out.store hg j hjf ((framed l0)[j] ^^^ x); have Ho3 := hid_ ho3'; have Hb3 := hid_ (Hb2.out.trans hb3'); clear ho3' hb3')
  refine (cut_any _ _ _ _ _ Ho3.out.sl (by omega)).mono ?_
  rintro e w3 ⟨B1, m1, d1, B2, m2, d2, rfl, _, _, hb3⟩
  rw [Hseen.out]
  have Hb4 := hid_ (Below.trans Hb3.out (hb3.mono Hb3.out.size))
  clear hb3
  go_wp2_with fail
  refine (ha.out _).mono ?_
  rintro e w' ⟨rfl, hbel⟩
  go_wp2
  go_ret
  exact ⟨rfl, Hb4.out.trans (hbel.mono Hb4.out.size)⟩

set_option maxRecDepth 100000 in
theorem lifted (os : Os) (started : os.Started) (H : Type) (enc : TypeId × Value → H) :
    ReturnsInHanded {} Try.checked os 7 .any (Rows.frameTurnedSpec.pre6 enc Try.prog Try.f7 Rows.frameTurnedRow.domain false) (Rows.frameTurnedSpec.post enc Try.prog Try.f7 false true false false) := by
  refine returnsInHanded_of_change (C := Try.checked) own started (by kernel_rfl) Try.func7
    (ChangeSpec.witness6 (enc := enc) (C := Try.checked) false ⟨#[], #[.slice none 0 0, .int .i64 0, .int .u8 0], []⟩ 8 (by kernel_rfl) (by kernel_rfl) (by kernel_rfl) (by kernel_rfl)) ?_
  intro W base args ds gs before hval0 hW hcnd _
  have hval : ∀ (j : Nat) t v, Try.f7.params[j]? = some t → args[j]? = some v → Value.okWide Try.prog W .any base t v := hval0
  have hW' := hW
  obtain ⟨p, q, hA0, hV, rfl, hfz, hnd⟩ := hW
  have hA : DataW.TrodAll enc Try.prog W 0 (fun _ => true) true Try.f7.params.toList args.toList ds p := hA0
  rw [Try.params7] at hA hval
  obtain ⟨v0, vs0, d0, ds0, p0, q0, hargs, rfl, rfl, h0, r0⟩ := trodAll_cons hA
  obtain ⟨v1, vs1, d1, ds1, p1, q1, rfl, rfl, rfl, h1, r1⟩ := trodAll_cons r0
  obtain ⟨v2, vs2, d2, ds2, p2, q2, rfl, rfl, rfl, h2, r2⟩ := trodAll_cons r1
  obtain ⟨rfl, rfl, rfl⟩ := trodAll_nil r2
  obtain rfl : args = #[v0, v1, v2] := by cases args; simp_all
  obtain ⟨rfl, rfl⟩ := trodVars_none hV
  obtain ⟨a0, len0, cap0, rfl⟩ := okWide_slice Try.underlying22 (hval 0 22 v0 rfl rfl)
  have k0 := h0
  have lt0 : ∀ x ∈ p0, x.block < W.heap.size := by obtain ⟨m, hm⟩ := k0; exact DataW.trod_lt m _ _ _ hm
  obtain ⟨z0, w0⟩ : ∃ zs, IsRow .u8 W a0 len0 cap0 zs := by
    obtain ⟨fuel, hf⟩ := h0
    rcases open_ints Try.underlying22 Try.underlying5 (by kernel_rfl) hf with ⟨hcs, _⟩ | ⟨x, l, c, zs, hcs, _, hl, hm, hz, _, hcell, hwz⟩
    · simp [Value.cells] at hcs
      obtain ⟨rfl, rfl, rfl⟩ := hcs
      exact ⟨[], .inl ⟨rfl, rfl, rfl, rfl⟩⟩
    · simp [Value.cells] at hcs
      obtain ⟨rfl, rfl, rfl⟩ := hcs
      exact ⟨zs, .inr ⟨_, rfl, hl, hm, by simpa using hz, hcell, hwz⟩⟩
  obtain ⟨a1, rfl, rfl, rfl, w1⟩ := open_int Try.underlying3 (hval 1 3 v1 rfl rfl) h1
  obtain ⟨a2, rfl, rfl, rfl, w2⟩ := open_int Try.underlying5 (hval 2 5 v2 rfl rfl) h2
  clear hA0 hval0
  refine (walk a0 len0 cap0 z0 a1 a2 W w0 w1 w2).mono fun e W' ⟨he, bel⟩ => ?_
  subst he
  exact ⟨_, rfl, _, _, _, [], _, [], hW', trodAll_mk1 (shut_bool Try.underlying4 _), (trodAll_cons_mk (Below.trod laidOut (by kernel_rfl) (of_decide_eq_true (by kernel_rfl)) k0 bel lt0) (trodAll_cons_mk (shut_int Try.underlying3 w1) (trodAll_cons_mk (shut_int Try.underlying5 w2) trodAll_mk0))), rfl, bel.frame _, fun h => by cases h⟩

theorem over : Rows.frameTurnedRow.holds Try.pinned (OpenSpec.ofChange Rows.frameTurnedSpec) :=
  OpenClaim.holds_of_wide 7 Try.f7 rfl rfl rfl rfl rfl rfl rfl ⟨rfl, rfl, rfl, rfl, rfl⟩ rfl rfl rfl rfl rfl (by kernel_rfl) Try.func7 (by kernel_rfl)
    (of_decide_eq_true (by kernel_rfl)) (by unfold Func.isWrapper; first | (rw [if_pos (by decide +kernel)]; kernel_rfl) | (rw [if_neg (by decide +kernel)]; exact ⟨rfl, rfl⟩))
    (fun os started H enc _ => lifted os started H enc)

theorem proved : Rows.FrameTurnedSaid := over
#print axioms proved
end Go.Proofs.Ytooodafmglhfoaa.frameTurned
