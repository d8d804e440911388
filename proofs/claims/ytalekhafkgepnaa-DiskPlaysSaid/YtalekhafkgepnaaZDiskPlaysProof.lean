/-
  DiskPlays: of any room and any operations (more than 60, or of more than 5000 bytes each or 20000 in all, are not asked for) the program's disk answers each call as the reference's does, and has the same files and bytes behind it, over crashes; no condition on the input.
  The frame round the walk is written by the guide's own program for this statement.
-/
import Derived.Test.YtalekhafkgepnaaZPlaysSame
import Derived.Test.YtalekhafkgepnaaRows
import Derived.WalkKit
import Derived.ProofKit
import Derived.OpenShut
import Derived.ShutString
import Derived.ChangeOld
import Derived.Below
namespace Go.Proofs.Ytalekhafkgepnaa.diskPlays
set_option linter.unusedSimpArgs false
set_option linter.unusedVariables false
open Go.ChangeShapes Go.WideShapes Go.ChangeAt Go.RowKit
open Go.ChangeMaps (open_string shut_string)
set_option linter.unusedVariables false

theorem own : ownKnob Try.prog.godebug = none := by kernel_rfl
theorem laidOut : laidOutB Try.prog = true := by kernel_rfl

/-- WHAT THE WALK IS TOLD OF A SLICE OF INTEGERS THAT CAME IN: it is nil; or it leads to a row of 'cap' cells, the numbers 'zs' (the first 'len' are its elements, the rest its spare room), each fitting its kind. -/
def IsRow (k : IntKind) (w : World) (a : Option Addr) (len cap : Nat) (zs : List Int) : Prop :=
  (a = none ∧ len = 0 ∧ cap = 0 ∧ zs = []) ∨
  ∃ x, a = some x ∧ len ≤ cap ∧ cap ≤ maxLen ∧ zs.length = cap ∧ (∀ i, i < zs.length → w.cell? (x.add i) = some (.int k (zs.getD i 0))) ∧ ∀ n ∈ zs, (Lit.int k n).wf = true

open Dsk
theorem sl_low {w : World} {A : Option Addr} {n c : Nat} {l : List UInt8} (hs : Sl w A n c l) : ∀ a, A = some a → l ≠ [] → a.block < w.heap.size := by
  intro a e hne
  obtain ⟨b, off, e2, hc⟩ := hs.holds (bytes_ne hne)
  rw [e] at e2
  cases e2
  obtain ⟨x, t, rfl⟩ := List.exists_cons_of_ne_nil hne
  exact lt_of_cell (hc 0 _ rfl)
theorem row_low {w : World} {A : Option Addr} {n c : Nat} {l : List Value} (hs : Row w A n c l) : ∀ a, A = some a → l ≠ [] → a.block < w.heap.size := by
  intro a e hne
  obtain ⟨b, off, e2, hc⟩ := hs.holds hne
  rw [e] at e2
  cases e2
  obtain ⟨x, t, rfl⟩ := List.exists_cons_of_ne_nil hne
  exact lt_of_cell (hc 0 _ rfl)
theorem duo_start {w w2 w3 : World} {d : DiskD} {R : Nat → Prop} (h1 : Dk w2 w.heap.size (fun q => q = w.heap.size) d) (b1 : Below w.heap.size w w2) (h2 : Rk w3 (w2.heap.size + 1) R d) (hR : ∀ q, R q → w2.heap.size ≤ q) (b2 : Below w2.heap.size w2 w3) :
    Duo (· < w.heap.size) w w3 w.heap.size (w2.heap.size + 1) d d := by
  have hl := h1.qlt _ rfl
  refine ⟨⟨_, R, h1.below b2, h2, fun q hq hr => by have := hR q hr; omega, fun q hq hp => by omega, fun q hq hp => by have := hR q hq; omega⟩, b2.os.trans b1.os, b2.tape.trans b1.tape, b2.output.trans b1.output, Nat.le_trans b1.size b2.size, fun q hq => hq, fun q hq => (b2.block q (by omega)).trans (b1.block q hq)⟩
set_option maxRecDepth 100000 in
set_option maxHeartbeats 8000000 in
theorem walk (a0 : Int) (v1 : Value) (w : World) (w0 : (Lit.int .i64 a0).wf = true) (w1 : Dsk.OpsV w v1) :
    Calls Try.prog 5 #[.int .i64 a0, v1] w fun e w' => e = .returned (.bool true) ∧ Below w.heap.size w w' := by
  obtain ⟨A1, n1, c1, ops, rfl, hr1, hwf1⟩ := w1
  obtain ⟨r1, r2⟩ := wf_int w0
  have HL := hid_ (fun W (hb : Below w.heap.size w W) => light_any A1 n1 c1 ops W (hr1.below hb))
  have H1 := hid_ hr1
  have Hwf := hid_ hwf1
  have hn1 := hr1.len
  have hcap := Nat.le_trans hr1.cap hr1.max
  have Hn1 := hid_ hn1
  clear w0 hr1 hwf1 hn1
  cases hl : lightO ops
  · rw [hl] at HL
    clear hl
    go_enter Try.func5, Try.ntmps5
    go_wp2_with fail
    refine Calls.mono (HL.out _ (Below.refl _ _)) ?_
    rintro e w1 ⟨rfl, rfl⟩
    go_wp2_with fail
    refine Calls.mono (dalive_any _) ?_
    rintro e w' ⟨rfl, hb⟩
    go_wp2_with fail
    go_ret
    exact ⟨rfl, hb⟩
  have Hlight := hid_ (light_each hl)
  rw [hl] at HL
  clear hl
  by_cases hbad : a0 < 1 ∨ 1048576 < a0
  · have Hn := hid_ (fun W => new_none a0 hbad W)
    have Hrn := hid_ (fun W => rnew_none a0 hbad W)
    clear hbad
    go_enter Try.func5, Try.ntmps5
    go_wp2_with fail
    refine Calls.mono (HL.out _ (Below.refl _ _)) ?_
    rintro e w1 ⟨rfl, rfl⟩
    go_wp2_with fail
    refine Calls.mono (Hn.out _) ?_
    rintro e w1 ⟨rfl, rfl⟩
    go_wp2_with fail
    refine Calls.mono (Hrn.out _) ?_
    rintro e w1 ⟨rfl, rfl⟩
    go_wp2_with fail
    refine Calls.mono (dalive_any _) ?_
    rintro e w' ⟨rfl, hb⟩
    go_wp2_with fail
    go_ret
    exact ⟨rfl, hb⟩
  obtain ⟨room, rfl⟩ := Int.eq_ofNat_of_zero_le (show 0 ≤ a0 by omega)
  have hr1 : 1 ≤ room := by omega
  have hr2 : room ≤ 1048576 := by omega
  clear hbad
  go_enter Try.func5, Try.ntmps5
  go_wp2_with fail
  refine Calls.mono (HL.out _ (Below.refl _ _)) ?_
  rintro e w1 ⟨rfl, rfl⟩
  go_wp2_with fail
  refine Calls.mono (new_any room hr1 hr2 w) ?_
  rintro e w2 ⟨rfl, hd, hb⟩
  have D2 := hid_ hd
  have B2 := hid_ hb
  clear hd hb
  go_wp2_with fail
  refine Calls.mono (rnew_any room hr1 hr2 w2) ?_
  rintro e w3 ⟨R, rfl, hd, hq, hb⟩
  have S0 := hid_ (duo_start D2.out B2.out hd hq hb)
  generalize hg2 : w2.heap.size + 1 = r at *
  clear hd hq hb D2 B2 hg2
  go_wp2_with fail
  refine Calls.mono (dalive_any _) ?_
  rintro e w4 ⟨rfl, hb⟩
  have S4 := hid_ (S0.out.later hb)
  clear hb S0
  go_wp2_with fail
  go_loopw [8] (fun v wr => ∃ (k : Nat), k ≤ n1 ∧ v = .int .i64 (k : Nat) ∧ Hid (∃ d, Duo (· < w.heap.size) w wr w.heap.size r d d)) (fun v _ => n1 - (intOf v).toNat)
  case atStart => exact ⟨0, Nat.zero_le _, rfl, hid_ ⟨_, S4.out⟩⟩
  case round =>
    obtain ⟨k, hk, rfl, HR⟩ := hrel
    obtain ⟨d, hD⟩ := HR.out
    have D := hid_ hD
    clear hD HR S4
    by_cases hlt : k < n1
    · have hlt2 : decide (k < n1) = true := decide_eq_true hlt
      have hkl : k < ops.length := by have := Hn1.out; omega
      obtain ⟨g, off, Ab, cb, Ak, ck, rfl, ho⟩ := H1.out.at_ hkl
      have hw5 := Hwf.out ops[k] (List.getElem_mem hkl)
      have hb5 := Hlight.out ops[k] (List.getElem_mem hkl)
      generalize ops[k] = o at *
      have HO := hid_ (one_any _ _ wr _ r d o Ab o.b.length cb Ak o.keep.length ck D.out ho.sb (sl_low ho.sb) ho.sk (row_low ho.sk) (by omega) hw5)
      obtain ⟨c0, c1', c2, c3, c4, -, -⟩ := ho.below D.out.below
      rcases o with ⟨kind, file, nn, bs, keep⟩
      simp only at c0 c1' c2 c3 c4 HO
      clear ho hb5 hw5
      go_wp2_with fail
      refine Calls.mono HO.out ?_
      rintro e w5 ⟨rfl, hd5⟩
      have D5 := hid_ hd5
      clear hd5
      go_wp2_with fail
      refine Calls.mono (same_any _ _ _ _ D5.out) ?_
      rintro e w6 ⟨rfl, hb⟩
      have D6 := hid_ (D5.out.later hb)
      clear hb
      go_wp2_with fail
      go_roundw
      case rel => exact ⟨k + 1, by omega, by go_num, hid_ ⟨_, D6.out⟩⟩
      case measure => simp [intOf]; omega
    · have hlt2 : decide (k < n1) = false := decide_eq_false hlt
      go_wp2_with fail
      go_ret
      exact ⟨rfl, D.out.below⟩

set_option maxRecDepth 100000 in
theorem lifted (os : Os) (started : os.Started) (H : Type) (enc : TypeId × Value → H) :
    ReturnsInHanded {} Try.checked os 5 .any (Rows.diskPlaysSpec.pre6 enc Try.prog Try.f5 Rows.diskPlaysRow.domain false) (Rows.diskPlaysSpec.post enc Try.prog Try.f5 false true false false) := by
  refine returnsInHanded_of_change (C := Try.checked) own started (by kernel_rfl) Try.func5
    (ChangeSpec.witness6 (enc := enc) (C := Try.checked) false ⟨#[], #[.int .i64 0, .slice none 0 0], []⟩ 8 (by kernel_rfl) (by kernel_rfl) (by kernel_rfl) (by kernel_rfl)) ?_
  intro W base args ds gs before hval0 hW hcnd _
  have hval : ∀ (j : Nat) t v, Try.f5.params[j]? = some t → args[j]? = some v → Value.okWide Try.prog W .any base t v := hval0
  have hW' := hW
  obtain ⟨p, q, hA0, hV, rfl, hfz, hnd⟩ := hW
  have hA : DataW.TrodAll enc Try.prog W 0 (fun _ => true) true Try.f5.params.toList args.toList ds p := hA0
  rw [Try.params5] at hA hval
  obtain ⟨v0, vs0, d0, ds0, p0, q0, hargs, rfl, rfl, h0, r0⟩ := trodAll_cons hA
  obtain ⟨v1, vs1, d1, ds1, p1, q1, rfl, rfl, rfl, h1, r1⟩ := trodAll_cons r0
  obtain ⟨rfl, rfl, rfl⟩ := trodAll_nil r1
  obtain rfl : args = #[v0, v1] := by cases args; simp_all
  obtain ⟨rfl, rfl⟩ := trodVars_none hV
  obtain ⟨a0, rfl, rfl, rfl, w0⟩ := open_int Try.underlying3 (hval 0 3 v0 rfl rfl) h0
  have k1 := h1
  have lt1 : ∀ x ∈ p1, x.block < W.heap.size := by obtain ⟨m, hm⟩ := k1; exact DataW.trod_lt m _ _ _ hm
  have w1 : Dsk.OpsV W v1 := Dsk.open_opsV (hval 1 67 v1 rfl rfl) h1
  clear hA0 hval0
  refine (walk a0 v1 W w0 w1).mono fun e W' ⟨he, bel⟩ => ?_
  subst he
  exact ⟨_, rfl, _, _, _, [], _, [], hW', trodAll_mk1 (shut_bool Try.underlying4 _), (trodAll_cons_mk (shut_int Try.underlying3 w0) (trodAll_cons_mk (Below.trod laidOut (by kernel_rfl) (of_decide_eq_true (by kernel_rfl)) k1 bel lt1) trodAll_mk0)), rfl, bel.frame _, fun h => by cases h⟩

theorem over : Rows.diskPlaysRow.holds Try.pinned (OpenSpec.ofChange Rows.diskPlaysSpec) :=
  OpenClaim.holds_of_wide 5 Try.f5 rfl rfl rfl rfl rfl rfl rfl ⟨rfl, rfl, rfl, rfl, rfl⟩ rfl rfl rfl rfl rfl (by kernel_rfl) Try.func5 (by kernel_rfl)
    (of_decide_eq_true (by kernel_rfl)) (by unfold Func.isWrapper; first | (rw [if_pos (by decide +kernel)]; kernel_rfl) | (rw [if_neg (by decide +kernel)]; exact ⟨rfl, rfl⟩))
    (fun os started H enc _ => lifted os started H enc)

theorem proved : Rows.DiskPlaysSaid := over
#print axioms proved
end Go.Proofs.Ytalekhafkgepnaa.diskPlays
