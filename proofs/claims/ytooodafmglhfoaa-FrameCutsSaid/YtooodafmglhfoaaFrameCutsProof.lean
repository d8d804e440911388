/-
  FrameCuts: of any bytes, up to 20000 (above it nothing is asked), the program's first frame, rest and kind are the reference's; no condition on the input.
  The frame round the walk is written by the guide's own program for this statement.
-/
import Derived.Test.YtooodafmglhfoaaRows
import Derived.Test.YtooodafmglhfoaaFrameRef
import Derived.Test.YtooodafmglhfoaaSame
import Derived.Test.YtooodafmglhfoaaFrameAlive
import Derived.WalkKit
import Derived.ProofKit
import Derived.OpenShut
import Derived.ShutString
import Derived.ChangeOld
import Derived.Below
namespace Go.Proofs.Ytooodafmglhfoaa.frameCuts
open Go.ChangeShapes Go.WideShapes Go.ChangeAt Go.RowKit
open Go.ChangeMaps (open_string shut_string)
set_option linter.unusedVariables false

theorem own : ownKnob Try.prog.godebug = none := by kernel_rfl
theorem laidOut : laidOutB Try.prog = true := by kernel_rfl

/-- WHAT THE WALK IS TOLD OF A SLICE OF INTEGERS THAT CAME IN: it is nil; or it leads to a row of 'cap' cells, the numbers 'zs' (the first 'len' are its elements, the rest its spare room), each fitting its kind. -/
def IsRow (k : IntKind) (w : World) (a : Option Addr) (len cap : Nat) (zs : List Int) : Prop :=
  (a = none ∧ len = 0 ∧ cap = 0 ∧ zs = []) ∨
  ∃ x, a = some x ∧ len ≤ cap ∧ cap ≤ maxLen ∧ zs.length = cap ∧ (∀ i, i < zs.length → w.cell? (x.add i) = some (.int k (zs.getD i 0))) ∧ ∀ n ∈ zs, (Lit.int k n).wf = true

open Crc Fm
set_option maxHeartbeats 2000000 in
theorem walk (a0 : Option Addr) (len0 cap0 : Nat) (z0 : List Int) (w : World) (w0 : IsRow .u8 w a0 len0 cap0 z0) :
    Calls Try.prog 4 #[.slice a0 len0 cap0] w fun e w' => e = .returned (.bool true) ∧ Below w.heap.size w w' := by
  obtain ⟨l0, hs0⟩ := sl_of_row w0
  have H0 := hid_ hs0
  have ha := hid_ (fun W => alive_any W)
  clear w0 hs0
  by_cases hb0 : 20000 < len0
  · go_enter Try.func4, Try.ntmps4
    go_wp2_with fail
    refine (ha.out _).mono ?_
    rintro e w' ⟨rfl, hbel⟩
    go_wp2
    go_ret
    exact ⟨rfl, hbel⟩
  have Hp := hid_ (cut_any a0 len0 cap0 l0 w H0.out (by omega))
  have Hq := hid_ (fun W (h : Below w.heap.size w W) => refcut_any a0 len0 cap0 l0 W (H0.out.below h))
  go_enter Try.func4, Try.ntmps4
  go_wp2_with fail
  refine Hp.out.mono ?_
  rintro e w1 ⟨A1, n1, c1, A2, n2, c2, rfl, hs1, hs2, hb1⟩
  have Hs1 := hid_ hs1
  have Hs2 := hid_ hs2
  have Hb1 := hid_ hb1
  clear hs1 hs2 hb1
  generalize hK : (cutF l0).1 = K
  have HK := hid_ hK
  clear hK
  have hkb : (K == K) = true := by simp
  go_wp2_with fail
  refine (Hq.out _ Hb1.out).mono ?_
  rintro e w2 ⟨A3, n3, c3, A4, n4, c4, rfl, hs3, hs4, _, _, hb2⟩
  rw [HK.out]
  obtain rfl : n3 = n1 := by rw [← hs3.len, ← Hs1.out.len]
  obtain rfl : n4 = n2 := by rw [← hs4.len, ← Hs2.out.len]
  have Hsm := hid_ (same_below _ _ _ _ _ _ w2 (Hs1.out.below hb2) hs3)
  have Hs2' := hid_ (Hs2.out.below hb2)
  have Hs4 := hid_ hs4
  have Hb2 := hid_ (Below.trans Hb1.out (hb2.mono Hb1.out.size))
  clear hs3 hs4 hb2
  go_wp2_with fail
  refine Hsm.out.mono ?_
  rintro e w3 ⟨rfl, hb3⟩
  have Hsn := hid_ (same_below _ _ _ _ _ _ w3 (Hs2'.out.below hb3) (Hs4.out.below hb3))
  have Hb3 := hid_ (Below.trans Hb2.out (hb3.mono Hb2.out.size))
  clear hb3
  go_wp2_with fail
  refine Hsn.out.mono ?_
  rintro e w4 ⟨rfl, hb4⟩
  have Hb4 := hid_ (Below.trans Hb3.out (hb4.mono Hb3.out.size))
  clear hb4
  go_wp2_with fail
  refine (ha.out _).mono ?_
  rintro e w5 ⟨rfl, hb5⟩
  go_wp2
  go_ret
  exact ⟨rfl, Hb4.out.trans (hb5.mono Hb4.out.size)⟩

set_option maxRecDepth 100000 in
theorem lifted (os : Os) (started : os.Started) (H : Type) (enc : TypeId × Value → H) :
    ReturnsInHanded {} Try.checked os 4 .any (Rows.frameCutsSpec.pre6 enc Try.prog Try.f4 Rows.frameCutsRow.domain false) (Rows.frameCutsSpec.post enc Try.prog Try.f4 false true false false) := by
  refine returnsInHanded_of_change (C := Try.checked) own started (by kernel_rfl) Try.func4
    (ChangeSpec.witness6 (enc := enc) (C := Try.checked) false ⟨#[], #[.slice none 0 0], []⟩ 8 (by kernel_rfl) (by kernel_rfl) (by kernel_rfl) (by kernel_rfl)) ?_
  intro W base args ds gs before hval0 hW hcnd _
  have hval : ∀ (j : Nat) t v, Try.f4.params[j]? = some t → args[j]? = some v → Value.okWide Try.prog W .any base t v := hval0
  have hW' := hW
  obtain ⟨p, q, hA0, hV, rfl, hfz, hnd⟩ := hW
  have hA : DataW.TrodAll enc Try.prog W 0 (fun _ => true) true Try.f4.params.toList args.toList ds p := hA0
  rw [Try.params4] at hA hval
  obtain ⟨v0, vs0, d0, ds0, p0, q0, hargs, rfl, rfl, h0, r0⟩ := trodAll_cons hA
  obtain ⟨rfl, rfl, rfl⟩ := trodAll_nil r0
  obtain rfl : args = #[v0] := by cases args; simp_all
  obtain ⟨rfl, rfl⟩ := trodVars_none hV
  obtain ⟨a0, len0, cap0, rfl⟩ := okWide_slice Try.underlying22 (hval 0 22 v0 rfl rfl)
  have k0 := h0
  have lt0 : ∀ x ∈ p0, x.block < W.heap.size := by obtain ⟨m, hm⟩ := k0; exact DataW.trod_lt m _ _ _ hm
  obtain ⟨z0, w0⟩ : ∃ zs, IsRow .u8 W a0 len0 cap0 zs := by
    obtain ⟨fuel, hf⟩ := h0
    rcases open_ints Try.underlying22 Try.underlying5 (by kernel_rfl) hf with ⟨hcs, _⟩ | ⟨x, l, c, zs, hcs, _, hl, hm, hz, _, hcell, hwz⟩
    · simp [Value.cells] at hcs
      obtain ⟨rfl, rfl, rfl⟩ := hcs
      exact ⟨[], .inl ⟨rfl, rfl, rfl, rfl⟩⟩
    · simp [Value.cells] at hcs
      obtain ⟨rfl, rfl, rfl⟩ := hcs
      exact ⟨zs, .inr ⟨_, rfl, hl, hm, by simpa using hz, hcell, hwz⟩⟩
  clear hA0 hval0
  refine (walk a0 len0 cap0 z0 W w0).mono fun e W' ⟨he, bel⟩ => ?_
  subst he
  exact ⟨_, rfl, _, _, _, [], _, [], hW', trodAll_mk1 (shut_bool Try.underlying4 _), (trodAll_cons_mk (Below.trod laidOut (by kernel_rfl) (of_decide_eq_true (by kernel_rfl)) k0 bel lt0) trodAll_mk0), rfl, bel.frame _, fun h => by cases h⟩

theorem over : Rows.frameCutsRow.holds Try.pinned (OpenSpec.ofChange Rows.frameCutsSpec) :=
  OpenClaim.holds_of_wide 4 Try.f4 rfl rfl rfl rfl rfl rfl rfl ⟨rfl, rfl, rfl, rfl, rfl⟩ rfl rfl rfl rfl rfl (by kernel_rfl) Try.func4 (by kernel_rfl)
    (of_decide_eq_true (by kernel_rfl)) (by unfold Func.isWrapper; first | (rw [if_pos (by decide +kernel)]; kernel_rfl) | (rw [if_neg (by decide +kernel)]; exact ⟨rfl, rfl⟩))
    (fun os started H enc _ => lifted os started H enc)

theorem proved : Rows.FrameCutsSaid := over
#print axioms proved
end Go.Proofs.Ytooodafmglhfoaa.frameCuts
