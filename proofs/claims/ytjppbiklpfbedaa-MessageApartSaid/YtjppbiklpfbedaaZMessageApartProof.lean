/-
  MessageApart: of two packets whose lists are short (of others nothing is asked) that the program encodes, the bytes are the same just where the packets are; no condition on the input.
  The frame round the walk is written by the guide's own program for this statement.
-/
import Derived.Test.YtjppbiklpfbedaaZGH
import Derived.Test.YtjppbiklpfbedaaZGJ
import Derived.Test.YtjppbiklpfbedaaZGL
import Derived.Test.YtjppbiklpfbedaaZGM
import Derived.Test.YtjppbiklpfbedaaZMsAlive
import Derived.Test.YtjppbiklpfbedaaZSame01
import Derived.Test.YtjppbiklpfbedaaRows
import Derived.WalkKit
import Derived.ProofKit
import Derived.OpenShut
import Derived.ShutString
import Derived.ChangeOld
import Derived.Below
namespace Go.Proofs.Ytjppbiklpfbedaa.messageApart
set_option linter.unusedSimpArgs false
set_option linter.unusedVariables false
open Go.ChangeShapes Go.WideShapes Go.ChangeAt Go.RowKit
open Go.ChangeMaps (open_string shut_string)
set_option linter.unusedVariables false

theorem own : ownKnob Try.prog.godebug = none := by kernel_rfl
theorem laidOut : laidOutB Try.prog = true := by kernel_rfl

/-- WHAT THE WALK IS TOLD OF A SLICE OF INTEGERS THAT CAME IN: it is nil; or it leads to a row of 'cap' cells, the numbers 'zs' (the first 'len' are its elements, the rest its spare room), each fitting its kind. -/
def IsRow (k : IntKind) (w : World) (a : Option Addr) (len cap : Nat) (zs : List Int) : Prop :=
  (a = none ∧ len = 0 ∧ cap = 0 ∧ zs = []) ∨
  ∃ x, a = some x ∧ len ≤ cap ∧ cap ≤ maxLen ∧ zs.length = cap ∧ (∀ i, i < zs.length → w.cell? (x.add i) = some (.int k (zs.getD i 0))) ∧ ∀ n ∈ zs, (Lit.int k n).wf = true

open Ru
/-- What the last region holds on to: both packets. -/
abbrev TwoIn (w1 : World) (g : Nat) (p : PackD) (s : PackS) (g' : Nat) (q : PackD) (t : PackS) (W : World) : Prop :=
  Below w1.heap.size w1 W ∧ PIn w1 g p s W ∧ PIn w1 g' q t W
theorem twoIn_keep {w1 W W' : World} {g g' : Nat} {p q : PackD} {s t : PackS} (hg : g < w1.heap.size) (hg' : g' < w1.heap.size) (h : TwoIn w1 g p s g' q t W) (hb : Below W.heap.size W W') : TwoIn w1 g p s g' q t W' :=
  ⟨h.1.trans (hb.mono h.1.size), pIn_keep hg h.2.1 hb, pIn_keep hg' h.2.2 hb⟩
theorem whole_pIn {w1 : World} {g : Nat} {p : PackD} {s : PackS} (h : Whole w1 g 30 (packCells p s)) : PIn w1 g p s w1 := pIn_of h
set_option maxRecDepth 100000 in
set_option maxHeartbeats 8000000 in
theorem walk (v0 : Value) (v1 : Value) (w : World) (w0 : PacketV w v0) (w1 : PacketV w v1) :
    Calls Try.prog 8 #[v0, v1] w fun e w' => e = .returned (.bool true) ∧ Below w.heap.size w w' := by
  obtain ⟨p, s, rfl, hp, hw, -⟩ := w0
  obtain ⟨q, t, rfl, hq, hv, -⟩ := w1
  have HltP := hid_ (fun (W : World) (hb : Below w.heap.size w W) => mslight_any p s W (hp.below hb) hw)
  have HltQ := hid_ (fun (W : World) (hb : Below w.heap.size w W) => mslight_any q t W (hq.below hb) hv)
  have HeP := hid_ (fun (W : World) (hb : Below w.heap.size w W) (hm : lightF p = true) => encode_any p s W (hp.below hb) hw (by have := (light_few hm).1; omega))
  have HeQ := hid_ (fun (W : World) (hb : Below w.heap.size w W) (hm : lightF q = true) => encode_any q t W (hq.below hb) hv (by have := (light_few hm).1; omega))
  have Hsm := hid_ (fun (W : World) (hb : Below w.heap.size w W) => refsame_any p q s t W (hp.below hb) (hq.below hb))
  have Hal := hid_ (fun W => msalive_any W)
  have HwP := hid_ hw
  have HwQ := hid_ hv
  have Ha := hid_ (show Below w.heap.size w ((w.alloc (.cells (packCells p s) 30)).alloc (.cells (packCells q t) 30)) from ((Below.refl w.heap.size w).alloc (Nat.le_refl _) _).alloc (by simp) _)
  have BP := hid_ ((whole_new w 30 (packCells p s)).alloc (.cells (packCells q t) 30))
  have BQ := hid_ (whole_at (w.alloc (.cells (packCells p s) 30)) (w.heap.size + 1) 30 (packCells q t) (by simp))
  clear hp hw hq hv
  cases hl : lightF p
  · rw [hl] at HltP
    clear hl
    go_enter Try.func8, Try.ntmps8
    go_wp2_with fail
    refine Calls.mono (HltP.out _ Ha.out) ?_
    rintro e w2 ⟨rfl, hb2⟩
    have Hb2 := hid_ (Ha.out.trans (hb2.mono Ha.out.size))
    clear hb2
    go_wp2_with fail
    refine Calls.mono (Hal.out _) ?_
    rintro e w3 ⟨rfl, hb3⟩
    have Hb3 := hid_ (Hb2.out.trans (hb3.mono Hb2.out.size))
    clear hb3
    go_wp2_with fail
    go_ret
    exact ⟨rfl, Hb3.out⟩
  have HlP := hid_ hl
  rw [hl] at HltP
  clear hl
  go_enter Try.func8, Try.ntmps8
  go_wp2_with fail
  refine Calls.mono (HltP.out _ Ha.out) ?_
  rintro e w2 ⟨rfl, hb2⟩
  have Hb2 := hid_ (Ha.out.trans (hb2.mono Ha.out.size))
  have BP2 := hid_ (BP.out.below hb2 BP.out.lt)
  have BQ2 := hid_ (BQ.out.below hb2 BQ.out.lt)
  clear hb2
  obtain ⟨x0, x1, x2, x3, x4, x5, x6, x7, x8, x9, x10⟩ := pack_facts BP2.out
  obtain ⟨y0, y1, y2, y3, y4, y5, y6, y7, y8, y9, y10⟩ := pack_facts BQ2.out
  cases hl : lightF q
  · rw [hl] at HltQ
    clear hl
    go_wp2_with fail
    refine Calls.mono (HltQ.out _ Hb2.out) ?_
    rintro e w3 ⟨rfl, hb3⟩
    have Hb3 := hid_ (Hb2.out.trans (hb3.mono Hb2.out.size))
    clear hb3
    go_wp2_with fail
    refine Calls.mono (Hal.out _) ?_
    rintro e w4 ⟨rfl, hb4⟩
    have Hb4 := hid_ (Hb3.out.trans (hb4.mono Hb3.out.size))
    clear hb4
    go_wp2_with fail
    go_ret
    exact ⟨rfl, Hb4.out⟩
  have HlQ := hid_ hl
  rw [hl] at HltQ
  clear hl
  go_wp2_with fail
  refine Calls.mono (HltQ.out _ Hb2.out) ?_
  rintro e w3 ⟨rfl, hb3⟩
  have Hb3 := hid_ (Hb2.out.trans (hb3.mono Hb2.out.size))
  have BP3 := hid_ (BP2.out.below hb3 BP2.out.lt)
  have BQ3 := hid_ (BQ2.out.below hb3 BQ2.out.lt)
  clear hb3 x0 x1 x2 x3 x4 x5 x6 x7 x8 x9 x10 y0 y1 y2 y3 y4 y5 y6 y7 y8 y9 y10
  obtain ⟨x0, x1, x2, x3, x4, x5, x6, x7, x8, x9, x10⟩ := pack_facts BP3.out
  go_wp2_with fail
  refine Calls.mono (HeP.out _ Hb3.out HlP.out) ?_
  rintro e w4 (⟨hr, rfl, hb4⟩ | ⟨hr, A1, n1, c1, rfl, ho1, hb4⟩)
  · have Hb4 := hid_ (Hb3.out.trans (hb4.mono Hb3.out.size))
    have BQ4 := hid_ (BQ3.out.below hb4 BQ3.out.lt)
    clear hb4 x0 x1 x2 x3 x4 x5 x6 x7 x8 x9 x10 hr
    obtain ⟨y0, y1, y2, y3, y4, y5, y6, y7, y8, y9, y10⟩ := pack_facts BQ4.out
    go_wp2_with fail
    refine Calls.mono (HeQ.out _ Hb4.out HlQ.out) ?_
    rintro e w5 (⟨-, rfl, hb5⟩ | ⟨-, A2, n2, c2, rfl, -, hb5⟩)
    all_goals
      have Hb5 := hid_ (Hb4.out.trans (hb5.mono Hb4.out.size))
      clear hb5
      go_wp2_with fail
      refine Calls.mono (Hal.out _) ?_
      rintro e w6 ⟨rfl, hb6⟩
      have Hb6 := hid_ (Hb5.out.trans (hb6.mono Hb5.out.size))
      clear hb6
      go_wp2_with fail
      go_ret
      exact ⟨rfl, Hb6.out⟩
  have Hb4 := hid_ (Hb3.out.trans (hb4.mono Hb3.out.size))
  have BP4 := hid_ (BP3.out.below hb4 BP3.out.lt)
  have BQ4 := hid_ (BQ3.out.below hb4 BQ3.out.lt)
  have Hs4 := hid_ ho1.sl
  have HrP := hid_ hr
  clear hb4 x0 x1 x2 x3 x4 x5 x6 x7 x8 x9 x10 hr ho1
  obtain ⟨y0, y1, y2, y3, y4, y5, y6, y7, y8, y9, y10⟩ := pack_facts BQ4.out
  go_wp2_with fail
  refine Calls.mono (HeQ.out _ Hb4.out HlQ.out) ?_
  rintro e w5 (⟨-, rfl, hb5⟩ | ⟨hr, A2, n2, c2, rfl, ho2, hb5⟩)
  · have Hb5 := hid_ (Hb4.out.trans (hb5.mono Hb4.out.size))
    clear hb5
    go_wp2_with fail
    refine Calls.mono (Hal.out _) ?_
    rintro e w6 ⟨rfl, hb6⟩
    have Hb6 := hid_ (Hb5.out.trans (hb6.mono Hb5.out.size))
    clear hb6
    go_wp2_with fail
    go_ret
    exact ⟨rfl, Hb6.out⟩
  have Hb5 := hid_ (Hb4.out.trans (hb5.mono Hb4.out.size))
  have BP5 := hid_ (BP4.out.below hb5 BP4.out.lt)
  have BQ5 := hid_ (BQ4.out.below hb5 BQ4.out.lt)
  have S1 := hid_ (Hs4.out.below hb5)
  have S2 := hid_ ho2.sl
  have hl1 := BP5.out.lt
  have hl2 := BQ5.out.lt
  have hT : TwoIn w5 w.heap.size p s (w.heap.size + 1) q t w5 := ⟨Below.refl _ _, whole_pIn BP5.out, whole_pIn BQ5.out⟩
  have Hkey := hid_ (fun (h : p ≠ q) (e : encF p = encF q) => h (enc_inj HwP.out HwQ.out HrP.out hr e))
  clear hb5 hr ho2 y0 y1 y2 y3 y4 y5 y6 y7 y8 y9 y10
  have Hsb := hid_ (fun (W : World) (hb : Below w5.heap.size w5 W) => same01_any A1 A2 n1 n2 c1 c2 (encF p) (encF q) W (S1.out.below hb) (S2.out.below hb))
  have Hsp := hid_ (fun (W : World) (hb : Below w5.heap.size w5 W) => Hsm.out W (Hb5.out.trans (hb.mono Hb5.out.size)))
  obtain ⟨z, Hz1, Hz2⟩ : ∃ z : Bool, Hid (decide (encF p = encF q) = z) ∧ Hid (sameP p q = z) := by
    by_cases h : p = q
    · exact ⟨true, hid_ (decide_eq_true (by rw [h])), hid_ (by rw [h]; exact sameP_self q)⟩
    · exact ⟨false, hid_ (decide_eq_false (Hkey.out h)), hid_ (sameP_ne h)⟩
  rw [Hz1.out] at Hsb
  rw [Hz2.out] at Hsp
  clear Hz1 Hz2 Hkey Hsm
  have ez : (z == z) = true := by cases z <;> rfl
  go_wp2_with fail
  go_region_held3 (TwoIn w5 w.heap.size p s (w.heap.size + 1) q t) (first | assumption | (refine twoIn_keep hl1 hl2 (by assumption) (by assumption)) | (refine twoIn_keep hl1 hl2 (by assumption) (Below.drew (Below.refl _ _))) | (refine twoIn_keep hl1 hl2 (by assumption) (Below.alloc (Below.refl _ _) (Nat.le_refl _) _)))
    (first
      | (go_at_call 26; (with_reducible refine Calls.mono (Hsb.out _ ?_) ?_); (exact And.left (by assumption)); rintro e w' ⟨rfl, hb'⟩)
      | (go_at_call 21; (with_reducible refine Calls.mono (Hsp.out _ ?_) ?_); (exact And.left (by assumption)); rintro e w' ⟨rfl, hb'⟩)
      | (go_at_call 17; (with_reducible refine Calls.mono (Hal.out _) ?_); rintro e w' ⟨rfl, hb'⟩))
  have hS : TwoIn w5 w.heap.size p s (w.heap.size + 1) q t w' := by assumption
  have h9 := Below.trans Hb5.out (Below.mono hS.1 Hb5.out.size)
  clear hS
  go_wp2_with fail
  go_ret
  exact ⟨rfl, h9⟩

set_option maxRecDepth 100000 in
theorem lifted (os : Os) (started : os.Started) (H : Type) (enc : TypeId × Value → H) :
    ReturnsInHanded {} Try.checked os 8 .any (Rows.messageApartSpec.pre6 enc Try.prog Try.f8 Rows.messageApartRow.domain false) (Rows.messageApartSpec.post enc Try.prog Try.f8 false true false false) := by
  refine returnsInHanded_of_change (C := Try.checked) own started (by kernel_rfl) Try.func8
    (ChangeSpec.witness6 (enc := enc) (C := Try.checked) false ⟨#[], #[(.agg #[.int .i64 0, .int .u64 0, .int .u64 0, .int .u64 0, .int .u64 0, .int .u64 0, .int .i64 0, .bool false, .slice none 0 0, .slice none 0 0, .slice none 0 0]), (.agg #[.int .i64 0, .int .u64 0, .int .u64 0, .int .u64 0, .int .u64 0, .int .u64 0, .int .i64 0, .bool false, .slice none 0 0, .slice none 0 0, .slice none 0 0])], []⟩ 8 (by kernel_rfl) (by kernel_rfl) (by kernel_rfl) (by kernel_rfl)) ?_
  intro W base args ds gs before hval0 hW hcnd _
  have hval : ∀ (j : Nat) t v, Try.f8.params[j]? = some t → args[j]? = some v → Value.okWide Try.prog W .any base t v := hval0
  have hW' := hW
  obtain ⟨p, q, hA0, hV, rfl, hfz, hnd⟩ := hW
  have hA : DataW.TrodAll enc Try.prog W 0 (fun _ => true) true Try.f8.params.toList args.toList ds p := hA0
  rw [Try.params8] at hA hval
  obtain ⟨v0, vs0, d0, ds0, p0, q0, hargs, rfl, rfl, h0, r0⟩ := trodAll_cons hA
  obtain ⟨v1, vs1, d1, ds1, p1, q1, rfl, rfl, rfl, h1, r1⟩ := trodAll_cons r0
  obtain ⟨rfl, rfl, rfl⟩ := trodAll_nil r1
  obtain rfl : args = #[v0, v1] := by cases args; simp_all
  obtain ⟨rfl, rfl⟩ := trodVars_none hV
  have k0 := h0
  have lt0 : ∀ x ∈ p0, x.block < W.heap.size := by obtain ⟨m, hm⟩ := k0; exact DataW.trod_lt m _ _ _ hm
  have w0 : PacketV W v0 := open_packetV (hval 0 30 v0 rfl rfl) h0
  have k1 := h1
  have lt1 : ∀ x ∈ p1, x.block < W.heap.size := by obtain ⟨m, hm⟩ := k1; exact DataW.trod_lt m _ _ _ hm
  have w1 : PacketV W v1 := open_packetV (hval 1 30 v1 rfl rfl) h1
  clear hA0 hval0
  refine (walk v0 v1 W w0 w1).mono fun e W' ⟨he, bel⟩ => ?_
  subst he
  exact ⟨_, rfl, _, _, _, [], _, [], hW', trodAll_mk1 (shut_bool Try.underlying4 _), (trodAll_cons_mk (Below.trod laidOut (by kernel_rfl) (of_decide_eq_true (by kernel_rfl)) k0 bel lt0) (trodAll_cons_mk (Below.trod laidOut (by kernel_rfl) (of_decide_eq_true (by kernel_rfl)) k1 bel lt1) trodAll_mk0)), rfl, bel.frame _, fun h => by cases h⟩

theorem over : Rows.messageApartRow.holds Try.pinned (OpenSpec.ofChange Rows.messageApartSpec) :=
  OpenClaim.holds_of_wide 8 Try.f8 rfl rfl rfl rfl rfl rfl rfl ⟨rfl, rfl, rfl, rfl, rfl⟩ rfl rfl rfl rfl rfl (by kernel_rfl) Try.func8 (by kernel_rfl)
    (of_decide_eq_true (by kernel_rfl)) (by unfold Func.isWrapper; first | (rw [if_pos (by decide +kernel)]; kernel_rfl) | (rw [if_neg (by decide +kernel)]; exact ⟨rfl, rfl⟩))
    (fun os started H enc _ => lifted os started H enc)

theorem proved : Rows.MessageApartSaid := over
#print axioms proved
end Go.Proofs.Ytjppbiklpfbedaa.messageApart
