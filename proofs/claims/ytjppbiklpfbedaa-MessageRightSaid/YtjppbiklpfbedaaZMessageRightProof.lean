/-
  MessageRight: of any packet whose lists are short (at most 40 spans of short names, 100 members, 100 numbers; of others nothing is asked) the program's Right answers what the reference's does; no condition on the input.
  The frame round the walk is written by the guide's own program for this statement.
-/
import Derived.Test.YtjppbiklpfbedaaZGH
import Derived.Test.YtjppbiklpfbedaaZGM
import Derived.Test.YtjppbiklpfbedaaZMsAlive
import Derived.Test.YtjppbiklpfbedaaZRefPack
import Derived.Test.YtjppbiklpfbedaaRows
import Derived.WalkKit
import Derived.ProofKit
import Derived.OpenShut
import Derived.ShutString
import Derived.ChangeOld
import Derived.Below
namespace Go.Proofs.Ytjppbiklpfbedaa.messageRight
set_option linter.unusedSimpArgs false
set_option linter.unusedVariables false
open Go.ChangeShapes Go.WideShapes Go.ChangeAt Go.RowKit
open Go.ChangeMaps (open_string shut_string)
set_option linter.unusedVariables false

theorem own : ownKnob Try.prog.godebug = none := by kernel_rfl
theorem laidOut : laidOutB Try.prog = true := by kernel_rfl

/-- WHAT THE WALK IS TOLD OF A SLICE OF INTEGERS THAT CAME IN: it is nil; or it leads to a row of 'cap' cells, the numbers 'zs' (the first 'len' are its elements, the rest its spare room), each fitting its kind. -/
def IsRow (k : IntKind) (w : World) (a : Option Addr) (len cap : Nat) (zs : List Int) : Prop :=
  (a = none ∧ len = 0 ∧ cap = 0 ∧ zs = []) ∨
  ∃ x, a = some x ∧ len ≤ cap ∧ cap ≤ maxLen ∧ zs.length = cap ∧ (∀ i, i < zs.length → w.cell? (x.add i) = some (.int k (zs.getD i 0))) ∧ ∀ n ∈ zs, (Lit.int k n).wf = true

open Ru
attribute [local go_sem] undef
set_option maxRecDepth 100000 in
set_option maxHeartbeats 8000000 in
theorem walk (v0 : Value) (w : World) (w0 : PacketV w v0) :
    Calls Try.prog 3 #[v0] w fun e w' => e = .returned (.bool true) ∧ Below w.heap.size w w' := by
  obtain ⟨p, s, rfl, hp, hw, -⟩ := w0
  have Hlt := hid_ (fun (W : World) (hb : Below w.heap.size w W) => mslight_any p s W (hp.below hb) hw)
  have Hri := hid_ (fun (W : World) (hb : Below w.heap.size w W) (hm : lightF p = true) => packright_any p s W (hp.below hb) hw (by have := (light_few hm).1; omega))
  have Href := hid_ (fun (W : World) (hb : Below w.heap.size w W) => refpack_any p s W (hp.below hb) hw)
  have Hal := hid_ (fun W => msalive_any W)
  have B0 := hid_ (show packBox (w.alloc (.cells (packCells p s) 30)) w.heap.size p s from whole_new w _ _)
  have Ha := hid_ (show Below w.heap.size w (w.alloc (.cells (packCells p s) 30)) from (Below.refl _ _).alloc (Nat.le_refl _) _)
  have hlt0 := B0.out.lt
  have hIn := pIn_of B0.out
  simp only [packCells] at hIn Ha hlt0
  clear B0
  have Hm := hid_ (fun (h : lightF p = true) => h)
  clear hp hw
  generalize kindP (rightP p) = kk at *
  cases hl : lightF p
  · rw [hl] at Hlt
    clear hl Hri Hm
    go_enter Try.func3, Try.ntmps3
    go_wp2_with fail
    generalize w.alloc (.cells #[.int .i64 p.kind, .int .u64 (p.trace : Nat), .int .u64 (p.bn : Nat), .int .u64 (p.bnode : Nat), .int .u64 (p.sn : Nat), .int .u64 (p.snode : Nat), .int .i64 p.v, .bool p.ok, .slice s.a1 p.spans.length s.c1, .slice s.a2 p.members.length s.c2, .slice s.a3 p.ids.length s.c3] 30) = wb at *
    obtain ⟨-, y0, y1, y2, y3, y4, y5, y6, y7, y8, y9, y10⟩ := id hIn
    first | (go_region_law (first
        | (go_simp; go_at_call 14; (with_reducible refine Calls.mono (Hlt.out _ (Ha.out.drew)) ?_); rintro e w' ⟨rfl, hb'⟩; have h9 := Below.trans (Below.drew Ha.out) (Below.mono hb' Ha.out.size))
        | fail)) | fail
    all_goals
      go_wp2_with fail
    all_goals
      go_ret
      exact ⟨rfl, by assumption⟩
  · have Hri2 := hid_ (fun W hb => Hri.out W hb hl)
    rw [hl] at Hlt
    clear hl Hri Hm
    go_enter Try.func3, Try.ntmps3
    go_wp2_with fail
    generalize w.alloc (.cells #[.int .i64 p.kind, .int .u64 (p.trace : Nat), .int .u64 (p.bn : Nat), .int .u64 (p.bnode : Nat), .int .u64 (p.sn : Nat), .int .u64 (p.snode : Nat), .int .i64 p.v, .bool p.ok, .slice s.a1 p.spans.length s.c1, .slice s.a2 p.members.length s.c2, .slice s.a3 p.ids.length s.c3] 30) = wb at *
    go_region_held3 (PIn wb w.heap.size p s) (first | assumption | (refine pIn_keep hlt0 (by assumption) (by assumption)) | (refine pIn_keep hlt0 (by assumption) (Below.drew (Below.refl _ _))) | (refine pIn_keep hlt0 (by assumption) (Below.alloc (Below.refl _ _) (Nat.le_refl _) _)))
      (first
        | (go_at_call 14; (with_reducible refine Calls.mono (Hlt.out _ ?_) ?_); (exact Ha.out.trans (Below.mono (And.left (by assumption)) Ha.out.size)); rintro e w' ⟨rfl, hb'⟩)
        | (go_at_call 15; (with_reducible refine Calls.mono (Hri2.out _ ?_) ?_); (exact Ha.out.trans (Below.mono (And.left (by assumption)) Ha.out.size)); rintro e w' ⟨rfl, hb'⟩)
        | (go_at_call 16; (with_reducible refine Calls.mono (Href.out _ ?_) ?_); (exact Ha.out.trans (Below.mono (And.left (by assumption)) Ha.out.size)); rintro e w' ⟨rfl, hb'⟩)
        | (go_at_call 17; (with_reducible refine Calls.mono (Hal.out _) ?_); rintro e w' ⟨rfl, hb'⟩))
    have hS : PIn wb w.heap.size p s w' := by assumption
    have h9 := Below.trans Ha.out (Below.mono hS.1 Ha.out.size)
    clear hS
    go_wp2_with fail
    go_ret
    exact ⟨rfl, h9⟩

set_option maxRecDepth 100000 in
theorem lifted (os : Os) (started : os.Started) (H : Type) (enc : TypeId × Value → H) :
    ReturnsInHanded {} Try.checked os 3 .any (Rows.messageRightSpec.pre6 enc Try.prog Try.f3 Rows.messageRightRow.domain false) (Rows.messageRightSpec.post enc Try.prog Try.f3 false true false false) := by
  refine returnsInHanded_of_change (C := Try.checked) own started (by kernel_rfl) Try.func3
    (ChangeSpec.witness6 (enc := enc) (C := Try.checked) false ⟨#[], #[(.agg #[.int .i64 0, .int .u64 0, .int .u64 0, .int .u64 0, .int .u64 0, .int .u64 0, .int .i64 0, .bool false, .slice none 0 0, .slice none 0 0, .slice none 0 0])], []⟩ 8 (by kernel_rfl) (by kernel_rfl) (by kernel_rfl) (by kernel_rfl)) ?_
  intro W base args ds gs before hval0 hW hcnd _
  have hval : ∀ (j : Nat) t v, Try.f3.params[j]? = some t → args[j]? = some v → Value.okWide Try.prog W .any base t v := hval0
  have hW' := hW
  obtain ⟨p, q, hA0, hV, rfl, hfz, hnd⟩ := hW
  have hA : DataW.TrodAll enc Try.prog W 0 (fun _ => true) true Try.f3.params.toList args.toList ds p := hA0
  rw [Try.params3] at hA hval
  obtain ⟨v0, vs0, d0, ds0, p0, q0, hargs, rfl, rfl, h0, r0⟩ := trodAll_cons hA
  obtain ⟨rfl, rfl, rfl⟩ := trodAll_nil r0
  obtain rfl : args = #[v0] := by cases args; simp_all
  obtain ⟨rfl, rfl⟩ := trodVars_none hV
  have k0 := h0
  have lt0 : ∀ x ∈ p0, x.block < W.heap.size := by obtain ⟨m, hm⟩ := k0; exact DataW.trod_lt m _ _ _ hm
  have w0 : PacketV W v0 := open_packetV (hval 0 30 v0 rfl rfl) h0
  clear hA0 hval0
  refine (walk v0 W w0).mono fun e W' ⟨he, bel⟩ => ?_
  subst he
  exact ⟨_, rfl, _, _, _, [], _, [], hW', trodAll_mk1 (shut_bool Try.underlying4 _), (trodAll_cons_mk (Below.trod laidOut (by kernel_rfl) (of_decide_eq_true (by kernel_rfl)) k0 bel lt0) trodAll_mk0), rfl, bel.frame _, fun h => by cases h⟩

theorem over : Rows.messageRightRow.holds Try.pinned (OpenSpec.ofChange Rows.messageRightSpec) :=
  OpenClaim.holds_of_wide 3 Try.f3 rfl rfl rfl rfl rfl rfl rfl ⟨rfl, rfl, rfl, rfl, rfl⟩ rfl rfl rfl rfl rfl (by kernel_rfl) Try.func3 (by kernel_rfl)
    (of_decide_eq_true (by kernel_rfl)) (by unfold Func.isWrapper; first | (rw [if_pos (by decide +kernel)]; kernel_rfl) | (rw [if_neg (by decide +kernel)]; exact ⟨rfl, rfl⟩))
    (fun os started H enc _ => lifted os started H enc)

theorem proved : Rows.MessageRightSaid := over
#print axioms proved
end Go.Proofs.Ytjppbiklpfbedaa.messageRight
