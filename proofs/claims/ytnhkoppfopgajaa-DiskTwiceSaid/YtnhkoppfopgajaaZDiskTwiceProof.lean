/-
  DiskTwice: of two disks with the same appends and syncs (more than 60 operations, or of more than 5000 bytes each or 20000 in all, or more than 100 numbers, are not asked for) to crash twice is to crash once: the same files, the same bytes; no condition on the input.
  The frame round the walk is written by the guide's own program for this statement.
-/
import Derived.Test.YtnhkoppfopgajaaZTwoDisks
import Derived.Test.YtnhkoppfopgajaaRows
import Derived.WalkKit
import Derived.ProofKit
import Derived.OpenShut
import Derived.ShutString
import Derived.ChangeOld
import Derived.Below
namespace Go.Proofs.Ytnhkoppfopgajaa.diskTwice
set_option linter.unusedSimpArgs false
set_option linter.unusedVariables false
open Go.ChangeShapes Go.WideShapes Go.ChangeAt Go.RowKit
open Go.ChangeMaps (open_string shut_string)
set_option linter.unusedVariables false

theorem own : ownKnob Try.prog.godebug = none := by kernel_rfl
theorem laidOut : laidOutB Try.prog = true := by kernel_rfl

/-- WHAT THE WALK IS TOLD OF A SLICE OF INTEGERS THAT CAME IN: it is nil; or it leads to a row of 'cap' cells, the numbers 'zs' (the first 'len' are its elements, the rest its spare room), each fitting its kind. -/
def IsRow (k : IntKind) (w : World) (a : Option Addr) (len cap : Nat) (zs : List Int) : Prop :=
  (a = none ∧ len = 0 ∧ cap = 0 ∧ zs = []) ∨
  ∃ x, a = some x ∧ len ≤ cap ∧ cap ≤ maxLen ∧ zs.length = cap ∧ (∀ i, i < zs.length → w.cell? (x.add i) = some (.int k (zs.getD i 0))) ∧ ∀ n ∈ zs, (Lit.int k n).wf = true

open Dsk
set_option maxRecDepth 100000 in
set_option maxHeartbeats 16000000 in
theorem walk (v0 : Value) (a1 : Option Addr) (len1 cap1 : Nat) (z1 : List Int) (w : World) (w0 : Dsk.OpsV w v0) (w1 : IsRow .i64 w a1 len1 cap1 z1) :
    Calls Try.prog 10 #[v0, .slice a1 len1 cap1] w fun e w' => e = .returned (.bool true) ∧ Below w.heap.size w w' := by
  obtain ⟨A0, n0, c0, ops, rfl, hr0, hwf0⟩ := w0
  obtain ⟨keep, hkeep⟩ : ∃ keep : List Int, Row w a1 len1 cap1 (intVals keep) := ints_of_row w1
  have HL := hid_ (fun W (hb : Below w.heap.size w W) => light_any A0 n0 c0 ops W (hr0.below hb))
  have H0 := hid_ hr0
  have HK := hid_ hkeep
  have Hwf := hid_ hwf0
  have Hn0 := hid_ hr0.len
  have hcap := Nat.le_trans hr0.cap hr0.max
  have hcap1 := hkeep.le
  clear w1 hr0 hwf0 hkeep
  cases hl : lightO ops
  · rw [hl] at HL
    clear hl
    go_enter Try.func10, Try.ntmps10
    go_wp2_with fail
    refine Calls.mono (HL.out _ (Below.refl _ _)) ?_
    rintro e w1 ⟨rfl, rfl⟩
    go_wp2_with fail
    refine Calls.mono (dalive_any _) ?_
    rintro e w' ⟨rfl, hb⟩
    go_wp2_with fail
    go_ret
    exact ⟨rfl, hb⟩
  have Hlight := hid_ (light_each hl)
  rw [hl] at HL
  clear hl
  by_cases hbig : 100 < len1
  · have e2 : decide ((len1 : Int) > (100 : Int)) = true := decide_eq_true (by omega)
    have e3 : decide ((100 : Int) < (len1 : Int)) = true := decide_eq_true (by omega)
    go_enter Try.func10, Try.ntmps10
    go_wp2_with fail
    refine Calls.mono (HL.out _ (Below.refl _ _)) ?_
    rintro e w1 ⟨rfl, rfl⟩
    go_wp2_with fail
    refine Calls.mono (dalive_any _) ?_
    rintro e w' ⟨rfl, hb⟩
    go_wp2_with fail
    go_ret
    exact ⟨rfl, hb⟩
  have e2 : decide ((len1 : Int) > (100 : Int)) = false := decide_eq_false (by omega)
  have e3 : decide ((100 : Int) < (len1 : Int)) = false := decide_eq_false (by omega)
  go_enter Try.func10, Try.ntmps10
  go_wp2_with fail
  refine Calls.mono (HL.out _ (Below.refl _ _)) ?_
  rintro e w1 ⟨rfl, rfl⟩
  go_wp2_with fail
  refine Calls.mono (new_any 100000 (by omega) (by omega) w) ?_
  rintro e w2 ⟨rfl, hd, hb⟩
  have D2 := hid_ (show DkB w.heap.size w w2 w.heap.size _ (newD 100000) from ⟨hd, hb, fun q hq => by omega, Nat.le_refl _⟩)
  have hz2 : w.heap.size < w2.heap.size := hd.qlt _ rfl
  clear hd hb
  go_wp2_with fail
  refine Calls.mono (new_any 100000 (by omega) (by omega) w2) ?_
  rintro e w3 ⟨rfl, hd, hb⟩
  have D3 := hid_ (show DkB w.heap.size w w3 w.heap.size _ (newD 100000) from D2.out.later hb)
  have E3 := hid_ (show DkB w.heap.size w w3 w2.heap.size _ (newD 100000) from ⟨hd, D3.out.below, fun q hq => by omega, Nat.le_refl _⟩)
  generalize hg2 : w2.heap.size = g2 at *
  have S0 := hid_ (show ∃ Q1 Q2 d, DkB w.heap.size w w3 w.heap.size Q1 d ∧ DkB w.heap.size w w3 g2 Q2 d ∧ ∀ q, Q1 q → ¬ Q2 q from ⟨_, _, _, D3.out, E3.out, fun q h1 h2 => by omega⟩)
  clear hd hb D2 D3 E3 hg2
  go_wp2_with fail
  go_loopw [9] (fun v wr => ∃ (k : Nat), k ≤ n0 ∧ v = .int .i64 (k : Nat) ∧ Hid (∃ Q1 Q2 d, DkB w.heap.size w wr w.heap.size Q1 d ∧ DkB w.heap.size w wr g2 Q2 d ∧ ∀ q, Q1 q → ¬ Q2 q)) (fun v _ => n0 - (intOf v).toNat)
  case atStart => exact ⟨0, Nat.zero_le _, rfl, S0⟩
  case round =>
    obtain ⟨k, hk, rfl, HS⟩ := hrel
    obtain ⟨Q1, Q2, d, h1, h2, h3⟩ := HS.out
    have D := hid_ h1
    have E := hid_ h2
    have X := hid_ h3
    clear h1 h2 h3 S0
    by_cases hlt : k < n0
    · have hlt2 : decide (k < n0) = true := decide_eq_true hlt
      have hkl : k < ops.length := by have := Hn0.out; omega
      obtain ⟨g, off, Ab, cb, Ak, ck, rfl, ho⟩ := H0.out.at_ hkl
      have hw5 := Hwf.out ops[k] (List.getElem_mem hkl)
      have hb5 := Hlight.out ops[k] (List.getElem_mem hkl)
      generalize ops[k] = o at *
      rcases o with ⟨kind, file, nn, bs, keep2⟩
      obtain ⟨f1, f2, -, -⟩ := hw5
      have Hsb := hid_ ho.sb
      have Ho := hid_ ho
      obtain ⟨z0, z1, -, z3, -, -, -⟩ := ho.below D.out.below
      have hkb : bs.length ≤ 140737488355328 := by simp only at hb5; omega
      simp only at z0 z1 z3 f1 f2
      clear ho hb5
      by_cases k0 : kind = 0
      · subst k0
        have z0d : wr.drew.cell? ⟨g, off + k * 5, none⟩ = some (.int .i64 0) := z0
        have z1d : wr.drew.cell? ⟨g, off + k * 5 + 1, none⟩ = some (.int .i64 file) := z1
        have z3d : wr.drew.cell? ⟨g, off + k * 5 + 3, none⟩ = some (.slice Ab bs.length cb) := z3
        have Dd := hid_ D.out.drew
        have Ed := hid_ E.out.drew
        have HA := hid_ (append_any file Ab bs.length cb bs _ _ _ _ Dd.out.dk (Hsb.out.below Dd.out.below) (Dd.out.apart_low Hsb.out (Nat.le_refl _)) hkb)
        have neqk : ∀ x : Int, (x != x) = false := fun x => by simp
        have hS0 : OpIn w g (off + k * 5) 0 file (.slice Ab bs.length cb) wr := opIn_of Ho.out D.out.below
        have HA0 := hid_ (append_any file Ab bs.length cb bs _ _ _ _ D.out.dk (Hsb.out.below D.out.below) (D.out.apart_low Hsb.out (Nat.le_refl _)) hkb)
        have i1 : (0 : Int) ≤ (k : Int) := by omega
        have i2 : (k : Int) < (n0 : Int) := by omega
        clear z0d z1d z3d z0 z1 z3
        go_wp2_with fail
        go_region_held3 (OpIn w g (off + k * 5) 0 file (.slice Ab bs.length cb)) (first | assumption | (refine opIn_drew (by assumption)))
          (first
          | (go_at_call 29; (with_reducible refine Calls.mono HA0.out ?_); intro e w5 hp; obtain ⟨rfl, Q5, d5, e5, x5⟩ := two_step D.out E.out X.out hp; have D5 := hid_ d5; have E5 := hid_ e5; have X5 := hid_ x5; have hS5 : OpIn w g (off + k * 5) 0 file (.slice Ab bs.length cb) w5 := opIn_of Ho.out d5.below; have HB := hid_ (append_any file Ab bs.length cb bs _ _ _ _ e5.dk (Hsb.out.below e5.below) (e5.apart_low Hsb.out (Nat.le_refl _)) hkb); have HBd := hid_ (append_any file Ab bs.length cb bs _ _ _ _ e5.drew.dk (Hsb.out.below e5.drew.below) (e5.drew.apart_low Hsb.out (Nat.le_refl _)) hkb); clear hp d5 e5 x5)
          | (go_at_call 29; (with_reducible refine Calls.mono HA.out ?_); intro e w5 hp; obtain ⟨rfl, Q5, d5, e5, x5⟩ := two_step Dd.out Ed.out X.out hp; have D5 := hid_ d5; have E5 := hid_ e5; have X5 := hid_ x5; have hS5 : OpIn w g (off + k * 5) 0 file (.slice Ab bs.length cb) w5 := opIn_of Ho.out d5.below; have HB := hid_ (append_any file Ab bs.length cb bs _ _ _ _ e5.dk (Hsb.out.below e5.below) (e5.apart_low Hsb.out (Nat.le_refl _)) hkb); have HBd := hid_ (append_any file Ab bs.length cb bs _ _ _ _ e5.drew.dk (Hsb.out.below e5.drew.below) (e5.drew.apart_low Hsb.out (Nat.le_refl _)) hkb); clear hp d5 e5 x5)
          | (go_at_call 29; (with_reducible refine Calls.mono HB.out ?_); intro e w6 hp; obtain ⟨rfl, Q6, d6, e6, x6⟩ := two_step2 D5.out E5.out X5.out hp; have D6 := hid_ d6; have E6 := hid_ e6; have X6 := hid_ x6; have hS6 : OpIn w g (off + k * 5) 0 file (.slice Ab bs.length cb) w6 := opIn_of Ho.out d6.below; clear hp d6 e6 x6)
          | (go_at_call 29; (with_reducible refine Calls.mono HBd.out ?_); intro e w6 hp; obtain ⟨rfl, Q6, d6, e6, x6⟩ := two_step2 D5.out.drew E5.out.drew X5.out hp; have D6 := hid_ d6; have E6 := hid_ e6; have X6 := hid_ x6; have hS6 : OpIn w g (off + k * 5) 0 file (.slice Ab bs.length cb) w6 := opIn_of Ho.out d6.below; clear hp d6 e6 x6)
          | fail)
        obtain ⟨-, u0, u1, u3⟩ := hS6
        go_wp2_with fail
        go_quiet (fail)
        go_wp2_with fail
        go_roundw
        case rel => exact ⟨k + 1, by omega, by go_num, hid_ ⟨_, _, _, D6.out.later (below_drewN (Below.refl _ _) _), E6.out.later (below_drewN (Below.refl _ _) _), X6.out⟩⟩
        case measure => simp [intOf]; omega
      have t0 : (kind == 0) = false := beq_eq_false_iff_ne.2 k0
      by_cases k1 : kind = 1
      · subst k1
        clear k0 t0
        have Dd := hid_ D.out.drew
        have Ed := hid_ E.out.drew
        have HA := hid_ (sync_any file f1 f2 _ _ _ _ Dd.out.dk)
        have neqk : ∀ x : Int, (x != x) = false := fun x => by simp
        have z0d : wr.drew.cell? ⟨g, off + k * 5, none⟩ = some (.int .i64 1) := z0
        have z1d := z1
        have z3d := z3
        have hS0 : OpIn w g (off + k * 5) 1 file (.slice Ab bs.length cb) wr := opIn_of Ho.out D.out.below
        have HA0 := hid_ (sync_any file f1 f2 _ _ _ _ D.out.dk)
        have i1 : (0 : Int) ≤ (k : Int) := by omega
        have i2 : (k : Int) < (n0 : Int) := by omega
        clear z0d z1d z3d z0 z1 z3
        go_wp2_with fail
        go_region_held3 (OpIn w g (off + k * 5) 1 file (.slice Ab bs.length cb)) (first | assumption | (refine opIn_drew (by assumption)))
          (first
          | (go_at_call 30; (with_reducible refine Calls.mono HA0.out ?_); intro e w5 hp; obtain ⟨rfl, Q5, d5, e5, x5⟩ := two_step D.out E.out X.out hp; have D5 := hid_ d5; have E5 := hid_ e5; have X5 := hid_ x5; have hS5 : OpIn w g (off + k * 5) 1 file (.slice Ab bs.length cb) w5 := opIn_of Ho.out d5.below; have HB := hid_ (sync_any file f1 f2 _ _ _ _ e5.dk); have HBd := hid_ (sync_any file f1 f2 _ _ _ _ e5.drew.dk); clear hp d5 e5 x5)
          | (go_at_call 30; (with_reducible refine Calls.mono HA.out ?_); intro e w5 hp; obtain ⟨rfl, Q5, d5, e5, x5⟩ := two_step Dd.out Ed.out X.out hp; have D5 := hid_ d5; have E5 := hid_ e5; have X5 := hid_ x5; have hS5 : OpIn w g (off + k * 5) 1 file (.slice Ab bs.length cb) w5 := opIn_of Ho.out d5.below; have HB := hid_ (sync_any file f1 f2 _ _ _ _ e5.dk); have HBd := hid_ (sync_any file f1 f2 _ _ _ _ e5.drew.dk); clear hp d5 e5 x5)
          | (go_at_call 30; (with_reducible refine Calls.mono HB.out ?_); intro e w6 hp; obtain ⟨rfl, Q6, d6, e6, x6⟩ := two_step2 D5.out E5.out X5.out hp; have D6 := hid_ d6; have E6 := hid_ e6; have X6 := hid_ x6; have hS6 : OpIn w g (off + k * 5) 1 file (.slice Ab bs.length cb) w6 := opIn_of Ho.out d6.below; clear hp d6 e6 x6)
          | (go_at_call 30; (with_reducible refine Calls.mono HBd.out ?_); intro e w6 hp; obtain ⟨rfl, Q6, d6, e6, x6⟩ := two_step2 D5.out.drew E5.out.drew X5.out hp; have D6 := hid_ d6; have E6 := hid_ e6; have X6 := hid_ x6; have hS6 : OpIn w g (off + k * 5) 1 file (.slice Ab bs.length cb) w6 := opIn_of Ho.out d6.below; clear hp d6 e6 x6)
          | fail)
        go_wp2_with fail
        go_roundw
        case rel => exact ⟨k + 1, by omega, by go_num, hid_ ⟨_, _, _, D6.out, E6.out, X6.out⟩⟩
        case measure => simp [intOf]; omega
      have t1 : (kind == 1) = false := beq_eq_false_iff_ne.2 k1
      go_wp2_with fail
      go_quiet (fail)
      go_wp2_with fail
      go_roundw
      case rel => exact ⟨k + 1, by omega, by go_num, hid_ ⟨_, _, _, D.out.later (below_drewN (Below.refl _ _) _), E.out.later (below_drewN (Below.refl _ _) _), X.out⟩⟩
      case measure => simp [intOf]; omega
    · obtain rfl : k = n0 := by omega
      have hltf : decide (k < k) = false := decide_eq_false (by omega)
      go_wp2_with fail
      refine Calls.mono (crash_any a1 len1 cap1 keep _ _ _ _ D.out.dk (HK.out.below D.out.below) (D.out.row_low HK.out (Nat.le_refl _))) ?_
      intro e w5 hp
      obtain ⟨rfl, Q5, d5, e5, x5⟩ := two_step D.out E.out X.out hp
      have D5 := hid_ d5
      have E5 := hid_ e5
      have X5 := hid_ x5
      clear hp d5 e5 x5
      go_wp2_with fail
      refine Calls.mono (crash_any a1 len1 cap1 keep _ _ _ _ E5.out.dk (HK.out.below E5.out.below) (E5.out.row_low HK.out (Nat.le_refl _))) ?_
      intro e w6 hp
      obtain ⟨rfl, Q6, d6, e6, x6⟩ := two_step2 D5.out E5.out X5.out hp
      have D6 := hid_ d6
      have E6 := hid_ e6
      have X6 := hid_ x6
      clear hp d6 e6 x6
      go_wp2_with fail
      refine Calls.mono (crash_any none 0 0 [] _ _ _ _ E6.out.dk (Row.none _) (fun a e => by cases e)) ?_
      intro e w7 hp
      obtain ⟨rfl, Q7, d7, e7, x7⟩ := two_step2 D6.out E6.out X6.out hp
      rw [crash_twice E.out.dk.ok keep] at e7
      have D7 := hid_ d7
      have E7 := hid_ e7
      have X7 := hid_ x7
      have hdn := down_crash d keep
      generalize crashD d keep = dc at *
      have Hdn := hid_ hdn
      clear hp d7 e7 x7 hdn
      go_wp2_with fail
      refine Calls.mono (files_any _ _ _ _ D7.out.dk) ?_
      rintro e w8 ⟨Af, cf, rfl, hf8, hb8⟩
      have D8 := hid_ (D7.out.later hb8)
      have E8 := hid_ (E7.out.later hb8)
      have F8 := hid_ hf8.row
      clear hf8 hb8
      go_wp2_with fail
      refine Calls.mono (files_any _ _ _ _ E8.out.dk) ?_
      rintro e w9 ⟨Ag, cg, rfl, hf9, hb9⟩
      have D9 := hid_ (D8.out.later hb9)
      have E9 := hid_ (E8.out.later hb9)
      have F9 := hid_ (F8.out.below hb9)
      have G9 := hid_ hf9.row
      clear hf9 hb9
      go_wp2_with fail
      refine Calls.mono (ints_true Af Ag _ cf cg _ w9 F9.out G9.out) ?_
      rintro e w10 ⟨rfl, hb10⟩
      have D10 := hid_ (D9.out.later hb10)
      have E10 := hid_ (E9.out.later hb10)
      have F10 := hid_ (F9.out.below hb10)
      clear hb10
      go_wp2_with fail
      refine Calls.mono (used_any _ _ _ _ D10.out.dk) ?_
      rintro e w11 ⟨rfl, hb11⟩
      have D11 := hid_ (D10.out.later hb11)
      have E11 := hid_ (E10.out.later hb11)
      have F11 := hid_ (F10.out.below hb11)
      clear hb11
      go_wp2_with fail
      refine Calls.mono (used_any _ _ _ _ E11.out.dk) ?_
      rintro e w12 ⟨rfl, hb12⟩
      have D12 := hid_ (D11.out.later hb12)
      have E12 := hid_ (E11.out.later hb12)
      have F12 := hid_ (F11.out.below hb12)
      have equ : (((usedF dc.F : Nat) : Int) != ((usedF dc.F : Nat) : Int)) = false := by simp
      have hlf := files_len dc.F
      have Hlf := hid_ (rfl : (filesF dc.F).length = (filesF dc.F).length)
      obtain ⟨nf, hnf⟩ : ∃ nf, nf = (filesF dc.F).length := ⟨_, rfl⟩
      have Hnf := hid_ hnf
      simp only [← hnf] at F12 hlf ⊢
      clear hb12 Hlf hnf
      go_wp2_with fail
      have S12 := hid_ (show (∃ Q1 Q2, DkB w.heap.size w w12 w.heap.size Q1 dc ∧ DkB w.heap.size w w12 g2 Q2 dc) ∧ Row w12 Af nf cf (numVals (filesF dc.F)) from ⟨⟨_, _, D12.out, E12.out⟩, F12.out⟩)
      clear D E X D5 E5 X5 D6 E6 X6 D7 E7 X7 D8 E8 F8 D9 E9 F9 G9 D10 E10 F10 D11 E11 F11 D12 E12 F12
      go_loopw [11] (fun v wr => ∃ (i : Nat), i ≤ nf ∧ v = .int .i64 (i : Nat) ∧ Hid ((∃ Q1 Q2, DkB w.heap.size w wr w.heap.size Q1 dc ∧ DkB w.heap.size w wr g2 Q2 dc) ∧ Row wr Af nf cf (numVals (filesF dc.F)))) (fun v _ => nf - (intOf v).toNat)
      case atStart => exact ⟨0, Nat.zero_le _, rfl, S12⟩
      case round =>
        obtain ⟨i, hi, rfl, HS⟩ := hrel
        clear S12
        obtain ⟨⟨P1, P2, h1, h2⟩, h3⟩ := HS.out
        have D := hid_ h1
        have E := hid_ h2
        have F := hid_ h3
        clear h1 h2 h3 HS
        by_cases hlt : i < nf
        · have hlt2 : decide (i < nf) = true := decide_eq_true hlt
          have hil : i < (filesF dc.F).length := by have := Hnf.out; omega
          obtain ⟨-, hs, hj⟩ := filesTo_get dc.F 64 i hil
          obtain ⟨bf, off, rfl, hcell⟩ := F.out.at_ (k := i) (by unfold numVals; rw [List.length_map]; exact hil)
          rw [show (numVals (filesF dc.F))[i]'(by unfold numVals; rw [List.length_map]; exact hil) = .int .i64 (((filesF dc.F)[i] : Nat) : Int) by simp [numVals]] at hcell
          have hask : askK dc (((filesF dc.F)[i] : Nat) : Int) = 0 := by
            unfold askK
            rw [Hdn.out]
            simp only [Bool.false_eq_true, if_false]
            rw [if_pos ⟨by omega, by rw [Int.toNat_natCast]; exact hs⟩]
          change (filesF dc.F)[i] < 64 at hj
          generalize (filesF dc.F)[i] = j at *
          have HR1 := hid_ (fun (W : World) (hb : Below wr.heap.size wr W) => read_any (j : Nat) (by omega) (by omega) _ _ _ _ (D.out.later hb).dk)
          have HR2 := hid_ (fun (W : World) (hb : Below wr.heap.size wr W) => read_any (j : Nat) (by omega) (by omega) _ _ _ _ (E.out.later hb).dk)
          rw [hask] at HR1 HR2
          generalize readB dc (j : Nat) = lr at *
          clear hs hask
          have hclt := lt_of_cell hcell
          go_wp2_with fail
          refine Calls.mono (HR1.out _ (Below.refl _ _)) ?_
          rintro e v1 ⟨A1, q1, rfl, ho1, hb1⟩
          have hcell1 := (hb1.cell (p := ⟨bf, off + i, none⟩) hclt).trans hcell
          have B1 := hid_ hb1
          have R1 := hid_ ho1.sl
          clear ho1 hb1
          go_wp2_with fail
          refine Calls.mono (HR2.out _ B1.out) ?_
          rintro e v2 ⟨A2, q2, rfl, ho2, hb2⟩
          have B2 := hid_ (B1.out.trans (hb2.mono B1.out.size))
          have R1' := hid_ (R1.out.below hb2)
          have R2 := hid_ ho2.sl
          clear ho2 hb2
          go_wp2_with fail
          refine Calls.mono (same_below A1 A2 _ q1 q2 lr v2 R1'.out R2.out) ?_
          rintro e v3 ⟨rfl, hb3⟩
          have B3 := hid_ (B2.out.trans (hb3.mono B2.out.size))
          clear hb3
          go_wp2_with fail
          go_roundw
          case rel => exact ⟨i + 1, by omega, by go_num, hid_ ⟨⟨_, _, D.out.later B3.out, E.out.later B3.out⟩, F.out.below B3.out⟩⟩
          case measure => simp [intOf]; omega
        · obtain rfl : i = nf := by omega
          have hltf2 : decide (i < i) = false := decide_eq_false (by omega)
          go_wp2_with fail
          refine Calls.mono (dalive_any _) ?_
          rintro e v1 ⟨rfl, hb1⟩
          have B1 := hid_ (D.out.below.trans (hb1.mono D.out.size))
          clear hb1
          go_wp2_with fail
          go_ret
          exact ⟨rfl, B1.out⟩

set_option maxRecDepth 100000 in
theorem lifted (os : Os) (started : os.Started) (H : Type) (enc : TypeId × Value → H) :
    ReturnsInHanded {} Try.checked os 10 .any (Rows.diskTwiceSpec.pre6 enc Try.prog Try.f10 Rows.diskTwiceRow.domain false) (Rows.diskTwiceSpec.post enc Try.prog Try.f10 false true false false) := by
  refine returnsInHanded_of_change (C := Try.checked) own started (by kernel_rfl) Try.func10
    (ChangeSpec.witness6 (enc := enc) (C := Try.checked) false ⟨#[], #[.slice none 0 0, .slice none 0 0], []⟩ 8 (by kernel_rfl) (by kernel_rfl) (by kernel_rfl) (by kernel_rfl)) ?_
  intro W base args ds gs before hval0 hW hcnd _
  have hval : ∀ (j : Nat) t v, Try.f10.params[j]? = some t → args[j]? = some v → Value.okWide Try.prog W .any base t v := hval0
  have hW' := hW
  obtain ⟨p, q, hA0, hV, rfl, hfz, hnd⟩ := hW
  have hA : DataW.TrodAll enc Try.prog W 0 (fun _ => true) true Try.f10.params.toList args.toList ds p := hA0
  rw [Try.params10] at hA hval
  obtain ⟨v0, vs0, d0, ds0, p0, q0, hargs, rfl, rfl, h0, r0⟩ := trodAll_cons hA
  obtain ⟨v1, vs1, d1, ds1, p1, q1, rfl, rfl, rfl, h1, r1⟩ := trodAll_cons r0
  obtain ⟨rfl, rfl, rfl⟩ := trodAll_nil r1
  obtain rfl : args = #[v0, v1] := by cases args; simp_all
  obtain ⟨rfl, rfl⟩ := trodVars_none hV
  have k0 := h0
  have lt0 : ∀ x ∈ p0, x.block < W.heap.size := by obtain ⟨m, hm⟩ := k0; exact DataW.trod_lt m _ _ _ hm
  have w0 : Dsk.OpsV W v0 := Dsk.open_opsV (hval 0 72 v0 rfl rfl) h0
  obtain ⟨a1, len1, cap1, rfl⟩ := okWide_slice Try.underlying80 (hval 1 80 v1 rfl rfl)
  have k1 := h1
  have lt1 : ∀ x ∈ p1, x.block < W.heap.size := by obtain ⟨m, hm⟩ := k1; exact DataW.trod_lt m _ _ _ hm
  obtain ⟨z1, w1⟩ : ∃ zs, IsRow .i64 W a1 len1 cap1 zs := by
    obtain ⟨fuel, hf⟩ := h1
    rcases open_ints Try.underlying80 Try.underlying3 (by kernel_rfl) hf with ⟨hcs, _⟩ | ⟨x, l, c, zs, hcs, _, hl, hm, hz, _, hcell, hwz⟩
    · simp [Value.cells] at hcs
      obtain ⟨rfl, rfl, rfl⟩ := hcs
      exact ⟨[], .inl ⟨rfl, rfl, rfl, rfl⟩⟩
    · simp [Value.cells] at hcs
      obtain ⟨rfl, rfl, rfl⟩ := hcs
      exact ⟨zs, .inr ⟨_, rfl, hl, hm, by simpa using hz, hcell, hwz⟩⟩
  clear hA0 hval0
  refine (walk v0 a1 len1 cap1 z1 W w0 w1).mono fun e W' ⟨he, bel⟩ => ?_
  subst he
  exact ⟨_, rfl, _, _, _, [], _, [], hW', trodAll_mk1 (shut_bool Try.underlying4 _), (trodAll_cons_mk (Below.trod laidOut (by kernel_rfl) (of_decide_eq_true (by kernel_rfl)) k0 bel lt0) (trodAll_cons_mk (Below.trod laidOut (by kernel_rfl) (of_decide_eq_true (by kernel_rfl)) k1 bel lt1) trodAll_mk0)), rfl, bel.frame _, fun h => by cases h⟩

theorem over : Rows.diskTwiceRow.holds Try.pinned (OpenSpec.ofChange Rows.diskTwiceSpec) :=
  OpenClaim.holds_of_wide 10 Try.f10 rfl rfl rfl rfl rfl rfl rfl ⟨rfl, rfl, rfl, rfl, rfl⟩ rfl rfl rfl rfl rfl (by kernel_rfl) Try.func10 (by kernel_rfl)
    (of_decide_eq_true (by kernel_rfl)) (by unfold Func.isWrapper; first | (rw [if_pos (by decide +kernel)]; kernel_rfl) | (rw [if_neg (by decide +kernel)]; exact ⟨rfl, rfl⟩))
    (fun os started H enc _ => lifted os started H enc)

theorem proved : Rows.DiskTwiceSaid := over
#print axioms proved
end Go.Proofs.Ytnhkoppfopgajaa.diskTwice
