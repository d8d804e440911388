/-
  MessageFramed: of any bytes, put in a frame (of more than a frame holds nothing is asked), the program's packet, or why there is none, is the reference's; no condition on the input.
  The frame round the walk is written by the guide's own program for this statement.
-/
import Derived.Test.YtnpbokbfkdncmaaGreatZDecAny
import Derived.Test.YtnpbokbfkdncmaaGreatZGM
import Derived.Test.YtnpbokbfkdncmaaGreatZMsAlive
import Derived.Test.YtnpbokbfkdncmaaGreatZRDecAll
import Derived.Test.YtnpbokbfkdncmaaGreatZSame01
import Derived.Test.YtnpbokbfkdncmaaGreatRows
import Derived.WalkKit
import Derived.ProofKit
import Derived.OpenShut
import Derived.ShutString
import Derived.ChangeOld
import Derived.Below
namespace Go.Proofs.YtnpbokbfkdncmaaGreat.messageFramed
set_option linter.unusedSimpArgs false
set_option linter.unusedVariables false
open Go.ChangeShapes Go.WideShapes Go.ChangeAt Go.RowKit
open Go.ChangeMaps (open_string shut_string)
set_option linter.unusedVariables false

theorem own : ownKnob Tryz.prog.godebug = none := by kernel_rfl
theorem laidOut : laidOutB Tryz.prog = true := by kernel_rfl

/-- WHAT THE WALK IS TOLD OF A SLICE OF INTEGERS THAT CAME IN: it is nil; or it leads to a row of 'cap' cells, the numbers 'zs' (the first 'len' are its elements, the rest its spare room), each fitting its kind. -/
def IsRow (k : IntKind) (w : World) (a : Option Addr) (len cap : Nat) (zs : List Int) : Prop :=
  (a = none ∧ len = 0 ∧ cap = 0 ∧ zs = []) ∨
  ∃ x, a = some x ∧ len ≤ cap ∧ cap ≤ maxLen ∧ zs.length = cap ∧ (∀ i, i < zs.length → w.cell? (x.add i) = some (.int k (zs.getD i 0))) ∧ ∀ n ∈ zs, (Lit.int k n).wf = true

open Ru
theorem two_same (b : List UInt8) (s s' : PackS) (w : World) (h1 : PackIn w (decF b).2 s) (h2 : PackIn w (decF b).2 s') : Calls Tryz.prog 13 #[packVal (decF b).2 s, packVal (decF b).2 s'] w (BoolIs w true) := by
  have h := refsame_any (decF b).2 (decF b).2 s s' w h1 h2
  rw [sameP_self] at h
  exact h
set_option maxRecDepth 100000 in
set_option maxHeartbeats 8000000 in
theorem walk (a0 : Option Addr) (len0 cap0 : Nat) (z0 : List Int) (w : World) (w0 : IsRow .u8 w a0 len0 cap0 z0) :
    Calls Tryz.prog 5 #[.slice a0 len0 cap0] w fun e w' => e = .returned (.bool true) ∧ Below w.heap.size w w' := by
  obtain ⟨l0, hs⟩ := sl_of_row w0
  have Hal := hid_ (fun W => msalive_any W)
  have hs0 := hs
  have Hs := hid_ hs
  clear hs w0
  by_cases hn : 8192 < len0
  · have Hpl := hid_ (Fr.refput_large none a0 0 0 len0 cap0 w hn)
    go_enter Tryz.func5, Tryz.ntmps5
    go_wp2_with fail
    refine Calls.mono Hpl.out ?_
    rintro e w2 ⟨rfl, rfl⟩
    have e4 : ((4 : Int) != 0) = true := by decide
    go_wp2_with fail
    refine Calls.mono (Hal.out _) ?_
    rintro e w3 ⟨rfl, hb3⟩
    have Hb3 := hid_ hb3
    clear hb3
    go_wp2_with fail
    go_ret
    exact ⟨rfl, Hb3.out⟩
  have Hp := hid_ (Fr.refput_any none a0 0 0 len0 cap0 [] l0 w (Sl.none _) hs0 (by omega) (by omega))
  clear hs0
  go_enter Tryz.func5, Tryz.ntmps5
  go_wp2_with fail
  refine Calls.mono Hp.out ?_
  rintro e w0 ⟨A, c, rfl, ho, hb0⟩
  have Hb0 := hid_ hb0
  have hsl := ho.sl
  generalize ([] : List UInt8) ++ Fm.framed l0 = l at hsl
  have Hsl := hid_ hsl
  have Hd := hid_ (decode_any A _ c l w0 hsl (by omega))
  have Hr := hid_ (fun W (hb : Below w0.heap.size w0 W) => rdec_any A _ c l W (Hsl.out.below hb))
  unfold DecPost at Hd Hr
  have H2 := hid_ (fun s s' W h1 h2 => two_same l s s' W h1 h2)
  generalize (decF l).2 = p at *
  generalize (decF l).1 = k at *
  have e4 : ((0 : Int) != 0) = false := by decide
  clear ho hb0 hsl
  go_wp2_with fail
  refine Calls.mono Hd.out ?_
  rintro e w1 ⟨s, rfl, hi1, hb1⟩
  have Hb1 := hid_ (hb1.alloc hb1.size (.cells (packCells p s) 30))
  have Hi1 := hid_ (hi1.below ((Below.refl _ _).alloc (Nat.le_refl _) (.cells (packCells p s) 30)))
  have K1 := hid_ (whole_new w1 30 (packCells p s))
  clear hi1 hb1
  go_wp2_with fail
  refine Calls.mono (Hr.out _ Hb1.out) ?_
  rintro e w2 ⟨s', rfl, hi2, hb2⟩
  have Hb2 := hid_ ((Hb1.out.trans (hb2.mono Hb1.out.size)).alloc (Hb1.out.trans (hb2.mono Hb1.out.size)).size (.cells (packCells p s') 30))
  have Hi2 := hid_ (hi2.below ((Below.refl _ _).alloc (Nat.le_refl _) (.cells (packCells p s') 30)))
  have Hi1 := hid_ ((Hi1.out.below hb2).below ((Below.refl _ _).alloc (Nat.le_refl _) (.cells (packCells p s') 30)))
  have K2 := hid_ (K1.out.below hb2 K1.out.lt)
  have hlt := K2.out.lt
  obtain ⟨x0, x1, x2, x3, x4, x5, x6, x7, x8, x9, x10⟩ := pack_facts K2.out
  clear hi2 hb2
  have hkk : (k == k) = true := by simp
  go_wp2_with fail
  refine Calls.mono (H2.out s s' _ Hi1.out Hi2.out) ?_
  rintro e w3 ⟨rfl, hb3⟩
  have Hb3 := hid_ (Hb0.out.trans ((Hb2.out.trans (hb3.mono Hb2.out.size)).mono Hb0.out.size))
  clear hb3 x0 x1 x2 x3 x4 x5 x6 x7 x8 x9 x10
  go_wp2_with fail
  refine Calls.mono (Hal.out _) ?_
  rintro e w4 ⟨rfl, hb4⟩
  have Hb4 := hid_ (Hb3.out.trans (hb4.mono Hb3.out.size))
  clear hb4
  go_wp2_with fail
  go_ret
  exact ⟨rfl, Hb4.out⟩

set_option maxRecDepth 100000 in
theorem lifted (os : Os) (started : os.Started) (H : Type) (enc : TypeId × Value → H) :
    ReturnsInHanded {} Tryz.checked os 5 .any (Rows.messageFramedSpec.pre6 enc Tryz.prog Tryz.f5 Rows.messageFramedRow.domain false) (Rows.messageFramedSpec.post enc Tryz.prog Tryz.f5 false true false false) := by
  refine returnsInHanded_of_change (C := Tryz.checked) own started (by kernel_rfl) Tryz.func5
    (ChangeSpec.witness6 (enc := enc) (C := Tryz.checked) false ⟨#[], #[.slice none 0 0], []⟩ 8 (by kernel_rfl) (by kernel_rfl) (by kernel_rfl) (by kernel_rfl)) ?_
  intro W base args ds gs before hval0 hW hcnd _
  have hval : ∀ (j : Nat) t v, Tryz.f5.params[j]? = some t → args[j]? = some v → Value.okWide Tryz.prog W .any base t v := hval0
  have hW' := hW
  obtain ⟨p, q, hA0, hV, rfl, hfz, hnd⟩ := hW
  have hA : DataW.TrodAll enc Tryz.prog W 0 (fun _ => true) true Tryz.f5.params.toList args.toList ds p := hA0
  rw [Tryz.params5] at hA hval
  obtain ⟨v0, vs0, d0, ds0, p0, q0, hargs, rfl, rfl, h0, r0⟩ := trodAll_cons hA
  obtain ⟨rfl, rfl, rfl⟩ := trodAll_nil r0
  obtain rfl : args = #[v0] := by cases args; simp_all
  obtain ⟨rfl, rfl⟩ := trodVars_none hV
  obtain ⟨a0, len0, cap0, rfl⟩ := okWide_slice Tryz.underlying33 (hval 0 33 v0 rfl rfl)
  have k0 := h0
  have lt0 : ∀ x ∈ p0, x.block < W.heap.size := by obtain ⟨m, hm⟩ := k0; exact DataW.trod_lt m _ _ _ hm
  obtain ⟨z0, w0⟩ : ∃ zs, IsRow .u8 W a0 len0 cap0 zs := by
    obtain ⟨fuel, hf⟩ := h0
    rcases open_ints Tryz.underlying33 Tryz.underlying5 (by kernel_rfl) hf with ⟨hcs, _⟩ | ⟨x, l, c, zs, hcs, _, hl, hm, hz, _, hcell, hwz⟩
    · simp [Value.cells] at hcs
      obtain ⟨rfl, rfl, rfl⟩ := hcs
      exact ⟨[], .inl ⟨rfl, rfl, rfl, rfl⟩⟩
    · simp [Value.cells] at hcs
      obtain ⟨rfl, rfl, rfl⟩ := hcs
      exact ⟨zs, .inr ⟨_, rfl, hl, hm, by simpa using hz, hcell, hwz⟩⟩
  clear hA0 hval0
  refine (walk a0 len0 cap0 z0 W w0).mono fun e W' ⟨he, bel⟩ => ?_
  subst he
  exact ⟨_, rfl, _, _, _, [], _, [], hW', trodAll_mk1 (shut_bool Tryz.underlying4 _), (trodAll_cons_mk (Below.trod laidOut (by kernel_rfl) (of_decide_eq_true (by kernel_rfl)) k0 bel lt0) trodAll_mk0), rfl, bel.frame _, fun h => by cases h⟩

theorem over : Rows.messageFramedRow.holds Tryz.pinned (OpenSpec.ofChange Rows.messageFramedSpec) :=
  OpenClaim.holds_of_wide 5 Tryz.f5 rfl rfl rfl rfl rfl rfl rfl ⟨rfl, rfl, rfl, rfl, rfl⟩ rfl rfl rfl rfl rfl (by kernel_rfl) Tryz.func5 (by kernel_rfl)
    (of_decide_eq_true (by kernel_rfl)) (by unfold Func.isWrapper; first | (rw [if_pos (by decide +kernel)]; kernel_rfl) | (rw [if_neg (by decide +kernel)]; exact ⟨rfl, rfl⟩))
    (fun os started H enc _ => lifted os started H enc)

theorem proved : Rows.MessageFramedSaid := over
#print axioms proved
end Go.Proofs.YtnpbokbfkdncmaaGreat.messageFramed
