/-
  TimersLast: of a key that is set again the last time counts: two heaps of timers, of which one is told the time once more and the other has the key anew, answer alike; no condition on the input.
  The frame round the walk is written by the guide's own program for this statement.
-/
import Derived.Test.YtpcmlopbkehffaaZGAH
import Derived.Test.YtpcmlopbkehffaaRows
import Derived.WalkKit
import Derived.ProofKit
import Derived.OpenShut
import Derived.ShutString
import Derived.ChangeOld
import Derived.Below
namespace Go.Proofs.Ytpcmlopbkehffaa.timersLast
set_option linter.unusedSimpArgs false
set_option linter.unusedVariables false
open Go.ChangeShapes Go.WideShapes Go.ChangeAt Go.RowKit
open Go.ChangeMaps (open_string shut_string)
set_option linter.unusedVariables false

theorem own : ownKnob Try.prog.godebug = none := by kernel_rfl
theorem laidOut : laidOutB Try.prog = true := by kernel_rfl

/-- WHAT THE WALK IS TOLD OF A SLICE OF INTEGERS THAT CAME IN: it is nil; or it leads to a row of 'cap' cells, the numbers 'zs' (the first 'len' are its elements, the rest its spare room), each fitting its kind. -/
def IsRow (k : IntKind) (w : World) (a : Option Addr) (len cap : Nat) (zs : List Int) : Prop :=
  (a = none ∧ len = 0 ∧ cap = 0 ∧ zs = []) ∨
  ∃ x, a = some x ∧ len ≤ cap ∧ cap ≤ maxLen ∧ zs.length = cap ∧ (∀ i, i < zs.length → w.cell? (x.add i) = some (.int k (zs.getD i 0))) ∧ ∀ n ∈ zs, (Lit.int k n).wf = true

open Ti
set_option maxRecDepth 100000 in
set_option maxHeartbeats 8000000 in
theorem walk (v0 : Value) (a1 : Int) (a2 : Int) (w : World) (w0 : Ti.DuesV w v0) (w1 : (Lit.int .u64 a1).wf = true) (w2 : (Lit.int .u64 a2).wf = true) :
    Calls Try.prog 10 #[v0, .int .u64 a1, .int .u64 a2] w fun e w' => e = .returned (.bool true) ∧ Below w.heap.size w w' := by
  obtain ⟨A, n, c, l, rfl, hrow, hwf⟩ := w0
  obtain ⟨x, rfl, hx⟩ := num_of w1
  obtain ⟨t, rfl, ht⟩ := num_of w2
  have HA := hid_ (fun W => alive_any W)
  have hlen := hrow.len
  have hmax := hrow.le
  have HRow := hid_ hrow
  have HWf := hid_ hwf
  have HLen := hid_ hlen
  have HX := hid_ (And.intro hx ht)
  clear hrow hwf hlen
  by_cases hbig : 200 < n
  · have q0 : decide ((n : Int) > 200) = true := decide_eq_true (by omega)
    have r0 : decide ((200 : Int) < (n : Int)) = true := decide_eq_true (by omega)
    have s0 : decide (200 < n) = true := decide_eq_true hbig
    clear hbig hx ht
    go_enter Try.func10, Try.ntmps10
    go_wp2_with fail
    (with_reducible refine Calls.mono (HA.out _) ?_)
    rintro e wz ⟨rfl, hbz⟩
    go_wp2_with fail
    go_ret
    exact ⟨rfl, hbz⟩
  have q0 : decide ((n : Int) > 200) = false := decide_eq_false (by omega)
  have r0 : decide ((200 : Int) < (n : Int)) = false := decide_eq_false (by omega)
  have s0 : decide (200 < n) = false := decide_eq_false hbig
  have hn : n ≤ 200 := by omega
  have H2 := hid_ (two_new w)
  obtain ⟨hh, hhe⟩ : ∃ hh, hh = w.heap.size := ⟨_, rfl⟩
  clear hbig hx ht
  go_enter Try.func10, Try.ntmps10
  go_wp2_with fail
  go_loopw [9] (fun v9 wr => ∃ (i : Nat) (m : List DueD), v9 = .int .i64 (i : Nat) ∧ i ≤ n ∧ Hid (TwoF w wr w.heap.size (w.heap.size + 1) m m i i)) (fun v9 _ => n - (intOf v9).toNat)
  case atStart => exact ⟨0, [], rfl, Nat.zero_le _, H2⟩
  case round =>
    clear H2
    obtain ⟨i, m, rfl, hi, HT⟩ := hrel
    by_cases hlt : i < n
    · have hrr := fun (W : World) (hb : Below w.heap.size w W) => dues_at (HRow.out.below hb) (k := i) (by rw [HLen.out]; exact hlt)
      have hwi := HWf.out (l[i]'(by rw [HLen.out]; exact hlt)) (List.getElem_mem _)
      generalize l[i]'(by rw [HLen.out]; exact hlt) = d at *
      obtain ⟨b, off, hA, -⟩ := hrr w (Below.refl _ _)
      subst hA
      have HC := hid_ (show ∀ W : World, Below w.heap.size w W → W.cell? ⟨b, off + i * 2, none⟩ = some (.int .u64 (d.key : Nat)) ∧ W.cell? ⟨b, off + i * 2 + 1, none⟩ = some (.int .u64 (d.at_ : Nat)) from fun W hb => by
        obtain ⟨b', off', e, -, h1, h2⟩ := hrr W hb
        injection e with e
        injection e with e1 e2
        subst e1 e2
        exact ⟨h1, h2⟩)
      have m1 : (i : Int) < (n : Int) := by omega
      have m2 : (0 : Int) ≤ (i : Int) := by omega
      have q1 : wrap64 ((i : Int) + 1) = (i : Int) + 1 := by unfold wrap64; omega
      have HI := hid_ hlt
      have HD := hid_ (show d.key < 18446744073709551616 ∧ d.at_ < 18446744073709551616 from hwi)
      obtain ⟨dk, da⟩ := d
      dsimp only at HC HD
      clear hlt hrr hwi
      obtain ⟨c0, c1⟩ := HC.out wr HT.out.below
      have c2 : wr.drew.cell? ⟨b, off + i * 2, none⟩ = some (.int .u64 (dk : Nat)) := c0
      have c3 : wr.drew.cell? ⟨b, off + i * 2 + 1, none⟩ = some (.int .u64 (da : Nat)) := c1
      have HS := hid_ ((HT.out.drewN 1).set HD.out.1 HD.out.2 (by omega))
      go_wp2_with fail
      go_still_tail 11, (by kernel_rfl)
      change wpList _ _ _ _ _ (wr.drewN 1)
      clear c0 c1 c2 c3
      go_wp2_with fail
      (with_reducible refine Calls.mono HS.out ?_)
      rintro e w1 ⟨rfl, h1⟩
      obtain ⟨c0, c1⟩ := HC.out w1 h1.below
      have c2 : w1.drew.cell? ⟨b, off + i * 2, none⟩ = some (.int .u64 (dk : Nat)) := c0
      have c3 : w1.drew.cell? ⟨b, off + i * 2 + 1, none⟩ = some (.int .u64 (da : Nat)) := c1
      have HS1 := hid_ ((h1.drewN 1).flip.set HD.out.1 HD.out.2 (by omega))
      clear h1
      go_wp2_with fail
      go_still_tail 11, (by kernel_rfl)
      change wpList _ _ _ _ _ (w1.drewN 1)
      clear c0 c1 c2 c3
      go_wp2_with fail
      (with_reducible refine Calls.mono HS1.out ?_)
      rintro e w2 ⟨rfl, h2⟩
      have HT2 := hid_ h2.flip
      clear h2
      go_wp2_with fail
      go_roundw
      case rel => exact ⟨i + 1, _, by go_num, by have := HI.out; omega, HT2⟩
      case measure => have := HI.out; simp [intOf]; omega
    · obtain rfl : i = n := by omega
      have m1 : ¬ (i : Int) < (i : Int) := by omega
      clear hlt hi
      have hok := HT.out.ok
      have HOK := hid_ hok
      have hs2 := set_set hok x t
      have hd2 := del_set hok x t
      have ha2 := at_set hok HX.out.1 HX.out.2
      have HS := hid_ (HT.out.set HX.out.1 HX.out.2 (by omega))
      have HE := hid_ (And.intro hs2 (And.intro hd2 ha2))
      clear hok hs2 hd2 ha2
      go_wp2_with fail
      (with_reducible refine Calls.mono HS.out ?_)
      rintro e w1 ⟨rfl, h1⟩
      have HS1 := hid_ (h1.set HX.out.1 HX.out.2 (by omega))
      clear h1
      go_wp2_with fail
      (with_reducible refine Calls.mono HS1.out ?_)
      rintro e w2 ⟨rfl, h2⟩
      rw [HE.out.1] at h2
      have HS2 := hid_ (h2.flip.del HX.out.1 (by omega))
      clear h2
      go_wp2_with fail
      (with_reducible refine Calls.mono HS2.out ?_)
      rintro e w3 ⟨rfl, h3⟩
      have HS3 := hid_ (h3.set HX.out.1 HX.out.2 (by omega))
      clear h3
      go_wp2_with fail
      (with_reducible refine Calls.mono HS3.out ?_)
      rintro e w4 ⟨rfl, h4⟩
      rw [HE.out.2.1] at h4
      have HT4 := hid_ h4.flip
      clear h4
      have HM := hid_ HE.out.2.2
      have HAt := hid_ (HT4.out.at_ HX.out.1)
      rw [HM.out] at HAt
      have HAt := hid_ (show Calls Try.prog 32 #[.pointer (some ⟨w.heap.size, 0, none⟩), .int .u64 (x : Nat)] w4 (RetV w4 (.tuple #[.int .u64 (t : Nat), .bool true])) from HAt.out)
      have HL1 := hid_ HT4.out.len
      have HL2 := hid_ HT4.out.flip.len
      have HPs := hid_ (HT4.out.pops (t := t) (by omega) (by omega))
      clear HE HM
      generalize setR m x t = m4 at *
      have e1 : (t == t) = true := beq_iff_eq.2 rfl
      have e2 : ((t : Int) == (t : Int)) = true := beq_iff_eq.2 rfl
      have e3 : (m4.length == m4.length) = true := beq_iff_eq.2 rfl
      have e4 : ((m4.length : Int) == (m4.length : Int)) = true := beq_iff_eq.2 rfl
      go_wp2_with fail
      (with_reducible refine Calls.mono HAt.out ?_)
      rintro e w5 ⟨rfl, rfl⟩
      go_wp2_with fail
      (with_reducible refine Calls.mono HL1.out ?_)
      rintro e w5 ⟨rfl, rfl⟩
      go_wp2_with fail
      (with_reducible refine Calls.mono HL2.out ?_)
      rintro e w5 ⟨rfl, rfl⟩
      go_wp2_with fail
      (with_reducible refine Calls.mono HPs.out ?_)
      rintro e w5 ⟨A1, c1, rfl, h5⟩
      have HP2 := hid_ (h5 t)
      clear h5
      go_wp2_with fail
      (with_reducible refine Calls.mono HP2.out ?_)
      rintro e w6 ⟨A2, c2, rfl, h6, hr1, hr2⟩
      have HU := hid_ (uints_same hr1 hr2)
      have HT6 := hid_ h6
      have HPs6 := hid_ (fun q => show Calls Try.prog 31 #[.pointer (some ⟨w.heap.size, 0, none⟩), .int .u64 18446744073709551615] (w6.drewN q) _ from (h6.drewN q).pops (t := 18446744073709551615) (by omega) (by omega))
      clear h6 hr1 hr2
      go_wp2_with fail
      (with_reducible refine Calls.mono HU.out ?_)
      rintro e w7 ⟨rfl, q7, rfl⟩
      go_wp2_with fail
      (with_reducible refine Calls.mono (HPs6.out _) ?_)
      rintro e w8 ⟨A3, c3, rfl, h8⟩
      have HP8 := hid_ (show Calls Try.prog 31 #[.pointer (some ⟨w.heap.size + 1, 0, none⟩), .int .u64 18446744073709551615] w8 _ from h8 18446744073709551615)
      clear h8
      go_wp2_with fail
      (with_reducible refine Calls.mono HP8.out ?_)
      rintro e w9 ⟨A4, c4, rfl, h9, hr1, hr2⟩
      have HU9 := hid_ (uints_same hr1 hr2)
      have HB9 := hid_ h9.below
      clear h9 hr1 hr2
      go_wp2_with fail
      (with_reducible refine Calls.mono HU9.out ?_)
      rintro e wa ⟨rfl, qa, rfl⟩
      go_wp2_with fail
      (with_reducible refine Calls.mono (HA.out _) ?_)
      rintro e wb ⟨rfl, hbb⟩
      have HB := hid_ ((below_drewN HB9.out qa).trans (hbb.mono (below_drewN HB9.out qa).size))
      clear hbb
      go_wp2_with fail
      go_ret
      exact ⟨rfl, HB.out⟩

set_option maxRecDepth 100000 in
theorem lifted (os : Os) (started : os.Started) (H : Type) (enc : TypeId × Value → H) :
    ReturnsInHanded {} Try.checked os 10 .any (Rows.timersLastSpec.pre6 enc Try.prog Try.f10 Rows.timersLastRow.domain false) (Rows.timersLastSpec.post enc Try.prog Try.f10 false true false false) := by
  refine returnsInHanded_of_change (C := Try.checked) own started (by kernel_rfl) Try.func10
    (ChangeSpec.witness6 (enc := enc) (C := Try.checked) false ⟨#[], #[.slice none 0 0, .int .u64 0, .int .u64 0], []⟩ 8 (by kernel_rfl) (by kernel_rfl) (by kernel_rfl) (by kernel_rfl)) ?_
  intro W base args ds gs before hval0 hW hcnd _
  have hval : ∀ (j : Nat) t v, Try.f10.params[j]? = some t → args[j]? = some v → Value.okWide Try.prog W .any base t v := hval0
  have hW' := hW
  obtain ⟨p, q, hA0, hV, rfl, hfz, hnd⟩ := hW
  have hA : DataW.TrodAll enc Try.prog W 0 (fun _ => true) true Try.f10.params.toList args.toList ds p := hA0
  rw [Try.params10] at hA hval
  obtain ⟨v0, vs0, d0, ds0, p0, q0, hargs, rfl, rfl, h0, r0⟩ := trodAll_cons hA
  obtain ⟨v1, vs1, d1, ds1, p1, q1, rfl, rfl, rfl, h1, r1⟩ := trodAll_cons r0
  obtain ⟨v2, vs2, d2, ds2, p2, q2, rfl, rfl, rfl, h2, r2⟩ := trodAll_cons r1
  obtain ⟨rfl, rfl, rfl⟩ := trodAll_nil r2
  obtain rfl : args = #[v0, v1, v2] := by cases args; simp_all
  obtain ⟨rfl, rfl⟩ := trodVars_none hV
  have k0 := h0
  have lt0 : ∀ x ∈ p0, x.block < W.heap.size := by obtain ⟨m, hm⟩ := k0; exact DataW.trod_lt m _ _ _ hm
  have w0 : Ti.DuesV W v0 := Ti.open_duesV (hval 0 63 v0 rfl rfl) h0
  obtain ⟨a1, rfl, rfl, rfl, w1⟩ := open_int Try.underlying27 (hval 1 27 v1 rfl rfl) h1
  obtain ⟨a2, rfl, rfl, rfl, w2⟩ := open_int Try.underlying27 (hval 2 27 v2 rfl rfl) h2
  clear hA0 hval0
  refine (walk v0 a1 a2 W w0 w1 w2).mono fun e W' ⟨he, bel⟩ => ?_
  subst he
  exact ⟨_, rfl, _, _, _, [], _, [], hW', trodAll_mk1 (shut_bool Try.underlying4 _), (trodAll_cons_mk (Below.trod laidOut (by kernel_rfl) (of_decide_eq_true (by kernel_rfl)) k0 bel lt0) (trodAll_cons_mk (shut_int Try.underlying27 w1) (trodAll_cons_mk (shut_int Try.underlying27 w2) trodAll_mk0))), rfl, bel.frame _, fun h => by cases h⟩

theorem over : Rows.timersLastRow.holds Try.pinned (OpenSpec.ofChange Rows.timersLastSpec) :=
  OpenClaim.holds_of_wide 10 Try.f10 rfl rfl rfl rfl rfl rfl rfl ⟨rfl, rfl, rfl, rfl, rfl⟩ rfl rfl rfl rfl rfl (by kernel_rfl) Try.func10 (by kernel_rfl)
    (of_decide_eq_true (by kernel_rfl)) (by unfold Func.isWrapper; first | (rw [if_pos (by decide +kernel)]; kernel_rfl) | (rw [if_neg (by decide +kernel)]; exact ⟨rfl, rfl⟩))
    (fun os started H enc _ => lifted os started H enc)

theorem proved : Rows.TimersLastSaid := over
#print axioms proved
end Go.Proofs.Ytpcmlopbkehffaa.timersLast
