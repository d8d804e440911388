/-
  MessageEncodes: of any packet whose lists are short (of others nothing is asked) the program's bytes, or why there are none, are the reference's; no condition on the input.
  The frame round the walk is written by the guide's own program for this statement.
-/
import Derived.Test.YtnpbokbfkdncmaaGreatZGH
import Derived.Test.YtnpbokbfkdncmaaGreatZGM
import Derived.Test.YtnpbokbfkdncmaaGreatZMsAlive
import Derived.Test.YtnpbokbfkdncmaaGreatZRefEnc
import Derived.Test.YtnpbokbfkdncmaaGreatZSame01
import Derived.Test.YtnpbokbfkdncmaaGreatRows
import Derived.WalkKit
import Derived.ProofKit
import Derived.OpenShut
import Derived.ShutString
import Derived.ChangeOld
import Derived.Below
namespace Go.Proofs.YtnpbokbfkdncmaaGreat.messageEncodes
set_option linter.unusedSimpArgs false
set_option linter.unusedVariables false
open Go.ChangeShapes Go.WideShapes Go.ChangeAt Go.RowKit
open Go.ChangeMaps (open_string shut_string)
set_option linter.unusedVariables false

theorem own : ownKnob Tryz.prog.godebug = none := by kernel_rfl
theorem laidOut : laidOutB Tryz.prog = true := by kernel_rfl

/-- WHAT THE WALK IS TOLD OF A SLICE OF INTEGERS THAT CAME IN: it is nil; or it leads to a row of 'cap' cells, the numbers 'zs' (the first 'len' are its elements, the rest its spare room), each fitting its kind. -/
def IsRow (k : IntKind) (w : World) (a : Option Addr) (len cap : Nat) (zs : List Int) : Prop :=
  (a = none ∧ len = 0 ∧ cap = 0 ∧ zs = []) ∨
  ∃ x, a = some x ∧ len ≤ cap ∧ cap ≤ maxLen ∧ zs.length = cap ∧ (∀ i, i < zs.length → w.cell? (x.add i) = some (.int k (zs.getD i 0))) ∧ ∀ n ∈ zs, (Lit.int k n).wf = true

open Ru
set_option maxRecDepth 100000 in
set_option maxHeartbeats 8000000 in
theorem walk (v0 : Value) (w : World) (w0 : PacketV w v0) :
    Calls Tryz.prog 3 #[v0] w fun e w' => e = .returned (.bool true) ∧ Below w.heap.size w w' := by
  obtain ⟨p, s, rfl, hp, hw, -⟩ := w0
  have HltP := hid_ (fun (W : World) (hb : Below w.heap.size w W) => mslight_any p s W (hp.below hb) hw)
  have HeP := hid_ (fun (W : World) (hb : Below w.heap.size w W) (hm : lightF p = true) => encode_any p s W (hp.below hb) hw (by have := (light_few hm).1; omega))
  have HrP := hid_ (fun (W : World) (hb : Below w.heap.size w W) => refencode_any p s W (hp.below hb) hw)
  have Hal := hid_ (fun W => msalive_any W)
  have Ha := hid_ (show Below w.heap.size w (w.alloc (.cells (packCells p s) 30)) from (Below.refl w.heap.size w).alloc (Nat.le_refl _) _)
  have BP := hid_ (whole_new w 30 (packCells p s))
  clear hp hw
  cases hl : lightF p
  · rw [hl] at HltP
    clear hl
    go_enter Tryz.func3, Tryz.ntmps3
    go_wp2_with fail
    refine Calls.mono (HltP.out _ Ha.out) ?_
    rintro e w2 ⟨rfl, hb2⟩
    have Hb2 := hid_ (Ha.out.trans (hb2.mono Ha.out.size))
    clear hb2
    go_wp2_with fail
    refine Calls.mono (Hal.out _) ?_
    rintro e w3 ⟨rfl, hb3⟩
    have Hb3 := hid_ (Hb2.out.trans (hb3.mono Hb2.out.size))
    clear hb3
    go_wp2_with fail
    go_ret
    exact ⟨rfl, Hb3.out⟩
  have HlP := hid_ hl
  rw [hl] at HltP
  clear hl
  go_enter Tryz.func3, Tryz.ntmps3
  go_wp2_with fail
  refine Calls.mono (HltP.out _ Ha.out) ?_
  rintro e w2 ⟨rfl, hb2⟩
  have Hb2 := hid_ (Ha.out.trans (hb2.mono Ha.out.size))
  have BP2 := hid_ (BP.out.below hb2 BP.out.lt)
  clear hb2
  obtain ⟨x0, x1, x2, x3, x4, x5, x6, x7, x8, x9, x10⟩ := pack_facts BP2.out
  go_wp2_with fail
  refine Calls.mono (HeP.out _ Hb2.out HlP.out) ?_
  rintro e w3 (⟨hr, rfl, hb3⟩ | ⟨hr, A1, n1, c1, rfl, ho, hb3⟩)
  · have Hb3 := hid_ (Hb2.out.trans (hb3.mono Hb2.out.size))
    have BP3 := hid_ (BP2.out.below hb3 BP2.out.lt)
    clear hb3 x0 x1 x2 x3 x4 x5 x6 x7 x8 x9 x10
    obtain ⟨x0, x1, x2, x3, x4, x5, x6, x7, x8, x9, x10⟩ := pack_facts BP3.out
    go_wp2_with fail
    refine Calls.mono (HrP.out _ Hb3.out) ?_
    rintro e w4 (⟨-, rfl, hb4⟩ | ⟨hr2, -⟩)
    rotate_left
    · exact absurd (hr.symm.trans hr2) (by decide)
    have Hb4 := hid_ (Hb3.out.trans (hb4.mono Hb3.out.size))
    clear hb4
    go_wp2_with fail
    refine Calls.mono (same01_any none none 0 0 0 0 [] [] _ (Sl.none _) (Sl.none _)) ?_
    rintro e w5 ⟨rfl, hb5⟩
    have Hb5 := hid_ (Hb4.out.trans (hb5.mono Hb4.out.size))
    clear hb5
    have et : decide (([] : List UInt8) = []) = true := by decide
    rw [et]
    go_wp2_with fail
    refine Calls.mono (Hal.out _) ?_
    rintro e w6 ⟨rfl, hb6⟩
    have Hb6 := hid_ (Hb5.out.trans (hb6.mono Hb5.out.size))
    go_wp2_with fail
    go_ret
    exact ⟨rfl, Hb6.out⟩
  have Hb3 := hid_ (Hb2.out.trans (hb3.mono Hb2.out.size))
  have BP3 := hid_ (BP2.out.below hb3 BP2.out.lt)
  have Hs3 := hid_ ho.sl
  clear hb3 ho x0 x1 x2 x3 x4 x5 x6 x7 x8 x9 x10
  obtain ⟨x0, x1, x2, x3, x4, x5, x6, x7, x8, x9, x10⟩ := pack_facts BP3.out
  go_wp2_with fail
  refine Calls.mono (HrP.out _ Hb3.out) ?_
  rintro e w4 (⟨hr2, -⟩ | ⟨-, A2, n2, c2, rfl, ho, hb4⟩)
  · exact absurd (hr.symm.trans hr2) (by decide)
  have Hb4 := hid_ (Hb3.out.trans (hb4.mono Hb3.out.size))
  have Hs4 := hid_ (Hs3.out.below hb4)
  have Ht4 := hid_ ho.sl
  clear hb4 ho
  go_wp2_with fail
  refine Calls.mono (same01_any A1 A2 n1 n2 c1 c2 _ _ _ Hs4.out Ht4.out) ?_
  rintro e w5 ⟨rfl, hb5⟩
  have Hb5 := hid_ (Hb4.out.trans (hb5.mono Hb4.out.size))
  clear hb5
  rw [decide_eq_true rfl]
  go_wp2_with fail
  refine Calls.mono (Hal.out _) ?_
  rintro e w6 ⟨rfl, hb6⟩
  have Hb6 := hid_ (Hb5.out.trans (hb6.mono Hb5.out.size))
  go_wp2_with fail
  go_ret
  exact ⟨rfl, Hb6.out⟩

set_option maxRecDepth 100000 in
theorem lifted (os : Os) (started : os.Started) (H : Type) (enc : TypeId × Value → H) :
    ReturnsInHanded {} Tryz.checked os 3 .any (Rows.messageEncodesSpec.pre6 enc Tryz.prog Tryz.f3 Rows.messageEncodesRow.domain false) (Rows.messageEncodesSpec.post enc Tryz.prog Tryz.f3 false true false false) := by
  refine returnsInHanded_of_change (C := Tryz.checked) own started (by kernel_rfl) Tryz.func3
    (ChangeSpec.witness6 (enc := enc) (C := Tryz.checked) false ⟨#[], #[(.agg #[.int .i64 0, .int .u64 0, .int .u64 0, .int .u64 0, .int .u64 0, .int .u64 0, .int .i64 0, .bool false, .slice none 0 0, .slice none 0 0, .slice none 0 0])], []⟩ 8 (by kernel_rfl) (by kernel_rfl) (by kernel_rfl) (by kernel_rfl)) ?_
  intro W base args ds gs before hval0 hW hcnd _
  have hval : ∀ (j : Nat) t v, Tryz.f3.params[j]? = some t → args[j]? = some v → Value.okWide Tryz.prog W .any base t v := hval0
  have hW' := hW
  obtain ⟨p, q, hA0, hV, rfl, hfz, hnd⟩ := hW
  have hA : DataW.TrodAll enc Tryz.prog W 0 (fun _ => true) true Tryz.f3.params.toList args.toList ds p := hA0
  rw [Tryz.params3] at hA hval
  obtain ⟨v0, vs0, d0, ds0, p0, q0, hargs, rfl, rfl, h0, r0⟩ := trodAll_cons hA
  obtain ⟨rfl, rfl, rfl⟩ := trodAll_nil r0
  obtain rfl : args = #[v0] := by cases args; simp_all
  obtain ⟨rfl, rfl⟩ := trodVars_none hV
  have k0 := h0
  have lt0 : ∀ x ∈ p0, x.block < W.heap.size := by obtain ⟨m, hm⟩ := k0; exact DataW.trod_lt m _ _ _ hm
  have w0 : PacketV W v0 := open_packetV (hval 0 30 v0 rfl rfl) h0
  clear hA0 hval0
  refine (walk v0 W w0).mono fun e W' ⟨he, bel⟩ => ?_
  subst he
  exact ⟨_, rfl, _, _, _, [], _, [], hW', trodAll_mk1 (shut_bool Tryz.underlying4 _), (trodAll_cons_mk (Below.trod laidOut (by kernel_rfl) (of_decide_eq_true (by kernel_rfl)) k0 bel lt0) trodAll_mk0), rfl, bel.frame _, fun h => by cases h⟩

theorem over : Rows.messageEncodesRow.holds Tryz.pinned (OpenSpec.ofChange Rows.messageEncodesSpec) :=
  OpenClaim.holds_of_wide 3 Tryz.f3 rfl rfl rfl rfl rfl rfl rfl ⟨rfl, rfl, rfl, rfl, rfl⟩ rfl rfl rfl rfl rfl (by kernel_rfl) Tryz.func3 (by kernel_rfl)
    (of_decide_eq_true (by kernel_rfl)) (by unfold Func.isWrapper; first | (rw [if_pos (by decide +kernel)]; kernel_rfl) | (rw [if_neg (by decide +kernel)]; exact ⟨rfl, rfl⟩))
    (fun os started H enc _ => lifted os started H enc)

theorem proved : Rows.MessageEncodesSaid := over
#print axioms proved
end Go.Proofs.YtnpbokbfkdncmaaGreat.messageEncodes
