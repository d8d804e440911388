/-
  DiskFast: of a disk and any operations (more than 60, or of more than 5000 bytes each or 20000 in all, and bytes of more than 1000, are not asked for) what was synced in file 3 stays in its place, whatever is appended, removed beside it, and crashes; no condition on the input.
  The frame round the walk is written by the guide's own program for this statement.
-/
import Derived.Test.YtnhkoppfopgajaaZGDE
import Derived.Test.YtnhkoppfopgajaaRows
import Derived.WalkKit
import Derived.ProofKit
import Derived.OpenShut
import Derived.ShutString
import Derived.ChangeOld
import Derived.Below
namespace Go.Proofs.Ytnhkoppfopgajaa.diskFast
set_option linter.unusedSimpArgs false
set_option linter.unusedVariables false
open Go.ChangeShapes Go.WideShapes Go.ChangeAt Go.RowKit
open Go.ChangeMaps (open_string shut_string)
set_option linter.unusedVariables false

theorem own : ownKnob Try.prog.godebug = none := by kernel_rfl
theorem laidOut : laidOutB Try.prog = true := by kernel_rfl

/-- WHAT THE WALK IS TOLD OF A SLICE OF INTEGERS THAT CAME IN: it is nil; or it leads to a row of 'cap' cells, the numbers 'zs' (the first 'len' are its elements, the rest its spare room), each fitting its kind. -/
def IsRow (k : IntKind) (w : World) (a : Option Addr) (len cap : Nat) (zs : List Int) : Prop :=
  (a = none ∧ len = 0 ∧ cap = 0 ∧ zs = []) ∨
  ∃ x, a = some x ∧ len ≤ cap ∧ cap ≤ maxLen ∧ zs.length = cap ∧ (∀ i, i < zs.length → w.cell? (x.add i) = some (.int k (zs.getD i 0))) ∧ ∀ n ∈ zs, (Lit.int k n).wf = true

open Dsk
set_option maxRecDepth 100000 in
set_option maxHeartbeats 8000000 in
theorem walk (a0 : Option Addr) (len0 cap0 : Nat) (z0 : List Int) (v1 : Value) (w : World) (w0 : IsRow .u8 w a0 len0 cap0 z0) (w1 : Dsk.OpsV w v1) :
    Calls Try.prog 7 #[.slice a0 len0 cap0, v1] w fun e w' => e = .returned (.bool true) ∧ Below w.heap.size w w' := by
  obtain ⟨l0, hs0⟩ := sl_of_row w0
  obtain ⟨A1, n1, c1, ops, rfl, hr1, hwf1⟩ := w1
  have HL := hid_ (fun W (hb : Below w.heap.size w W) => light_any A1 n1 c1 ops W (hr1.below hb))
  have hlen0 := hs0.len
  have H0 := hid_ hs0
  have H1 := hid_ hr1
  have Hwf := hid_ hwf1
  have hn1 := hr1.len
  have hcap := Nat.le_trans hr1.cap hr1.max
  have hcap0 := hs0.cap
  have hmax0 := hs0.max
  have Hn1 := hid_ hn1
  clear w0 hr1 hwf1 hs0 hn1
  cases hl : lightO ops
  · rw [hl] at HL
    clear hl
    go_enter Try.func7, Try.ntmps7
    go_wp2_with fail
    refine Calls.mono (HL.out _ (Below.refl _ _)) ?_
    rintro e w1 ⟨rfl, rfl⟩
    go_wp2_with fail
    refine Calls.mono (dalive_any _) ?_
    rintro e w' ⟨rfl, hb⟩
    go_wp2_with fail
    go_ret
    exact ⟨rfl, hb⟩
  have Hlight := hid_ (light_each hl)
  rw [hl] at HL
  clear hl
  by_cases hbig : 1000 < len0
  · have e2 : decide ((len0 : Int) > (1000 : Int)) = true := decide_eq_true (by omega)
    have e3 : decide ((1000 : Int) < (len0 : Int)) = true := decide_eq_true (by omega)
    have Hlen0 := hid_ hlen0
    clear hlen0
    go_enter Try.func7, Try.ntmps7
    go_wp2_with fail
    refine Calls.mono (HL.out _ (Below.refl _ _)) ?_
    rintro e w1 ⟨rfl, rfl⟩
    go_wp2_with fail
    refine Calls.mono (dalive_any _) ?_
    rintro e w' ⟨rfl, hb⟩
    go_wp2_with fail
    go_ret
    exact ⟨rfl, hb⟩
  have e2 : decide ((len0 : Int) > (1000 : Int)) = false := decide_eq_false (by omega)
  have e3 : decide ((1000 : Int) < (len0 : Int)) = false := decide_eq_false (by omega)
  obtain ⟨fs1, fs2, fs3⟩ := fast_start l0 (by omega)
  have Hs1 := hid_ fs1
  have Hs2 := hid_ fs2
  have Hs3 := hid_ fs3
  have Hlen0 := hid_ hlen0
  clear fs1 fs2 fs3 hlen0
  go_enter Try.func7, Try.ntmps7
  go_wp2_with fail
  refine Calls.mono (HL.out _ (Below.refl _ _)) ?_
  rintro e w1 ⟨rfl, rfl⟩
  go_wp2_with fail
  refine Calls.mono (new_any 100000 (by omega) (by omega) w) ?_
  rintro e w2 ⟨rfl, hd, hb⟩
  have D2 := hid_ (show DkB w.heap.size w w2 w.heap.size _ (newD 100000) from ⟨hd, hb, fun q hq => by omega, Nat.le_refl _⟩)
  clear hd hb
  go_wp2_with fail
  refine Calls.mono (append_any 3 a0 len0 cap0 l0 _ _ _ _ D2.out.dk (H0.out.below D2.out.below) (D2.out.apart_low H0.out (Nat.le_refl _)) (by omega)) ?_
  intro e w3 hp
  obtain ⟨rfl, ⟨Q3, d3, -⟩, -⟩ := D2.out.post hp
  rw [Hs1.out]
  generalize hda : appD (newD 100000) 3 l0 = da at *
  have D3 := hid_ d3
  clear hp d3 hda
  go_wp2_with fail
  refine Calls.mono (sync_any 3 (by omega) (by omega) _ _ _ _ D3.out.dk) ?_
  intro e w4 hp
  obtain ⟨rfl, ⟨Q4, d4, -⟩, -⟩ := D3.out.post hp
  rw [Hs2.out]
  generalize hda : syncD da 3 = ds at *
  have D4 := hid_ d4
  clear hp d4 hda
  go_wp2_with fail
  go_loopw [7] (fun v wr => ∃ (k : Nat), k ≤ n1 ∧ v = .int .i64 (k : Nat) ∧ Hid (∃ Q d, DkB w.heap.size w wr w.heap.size Q d ∧ FastInv l0 d.F)) (fun v _ => n1 - (intOf v).toNat)
  case atStart => exact ⟨0, Nat.zero_le _, rfl, hid_ ⟨Q4, ds, D4.out, Hs3.out⟩⟩
  case round =>
    obtain ⟨k, hk, rfl, HR⟩ := hrel
    obtain ⟨Q, d, hD, hF⟩ := HR.out
    have D := hid_ hD
    have F := hid_ hF
    clear hD hF HR D2 D3 D4
    by_cases hlt : k < n1
    · have hlt2 : decide (k < n1) = true := decide_eq_true hlt
      have hkl : k < ops.length := by have := Hn1.out; omega
      obtain ⟨g, off, Ab, cb, Ak, ck, rfl, ho⟩ := H1.out.at_ hkl
      have hw5 := Hwf.out ops[k] (List.getElem_mem hkl)
      have hb5 := Hlight.out ops[k] (List.getElem_mem hkl)
      generalize ops[k] = o at *
      rcases o with ⟨kind, file, nn, bs, keep⟩
      obtain ⟨f1, f2, f3, f4⟩ := hw5
      have hsb := hid_ ho.sb
      have hsk := hid_ ho.sk
      obtain ⟨c0, c1', c2, c3, c4, -, -⟩ := ho.below D.out.below
      simp only at c0 c1' c2 c3 c4 f1 f2 f3 f4 hb5 hsb hsk
      have DA := hid_ (D.out.alloc (.cells #[.int .i64 kind, .int .i64 file, .int .i64 nn, .slice Ab bs.length cb, .slice Ak keep.length ck] 82))
      have hkb : bs.length ≤ 140737488355328 := by omega
      clear ho
      by_cases k0 : kind = 0
      · subst k0
        go_wp2_with fail
        refine Calls.mono (append_any file Ab bs.length cb bs _ _ _ _ DA.out.dk (hsb.out.below DA.out.below) (DA.out.apart_low hsb.out (Nat.le_refl _)) hkb) ?_
        intro e w5 hp
        obtain ⟨rfl, ⟨Q5, d5, -⟩, -⟩ := DA.out.post hp
        have HR5 := hid_ (show ∃ Q d, DkB w.heap.size w w5 w.heap.size Q d ∧ FastInv l0 d.F from ⟨_, _, d5, fast_app DA.out.dk.ok F.out _ _⟩)
        clear hp d5
        go_wp2_with fail
        go_roundw
        case rel => exact ⟨k + 1, by omega, by go_num, HR5⟩
        case measure => simp [intOf]; omega
      have t0 : (kind == 0) = false := beq_eq_false_iff_ne.2 k0
      by_cases k1 : kind = 1
      · subst k1
        go_wp2_with fail
        refine Calls.mono (sync_any file f1 f2 _ _ _ _ DA.out.dk) ?_
        intro e w5 hp
        obtain ⟨rfl, ⟨Q5, d5, -⟩, -⟩ := DA.out.post hp
        have HR5 := hid_ (show ∃ Q d, DkB w.heap.size w w5 w.heap.size Q d ∧ FastInv l0 d.F from ⟨_, _, d5, fast_sync DA.out.dk.ok F.out _⟩)
        clear hp d5
        go_wp2_with fail
        go_roundw
        case rel => exact ⟨k + 1, by omega, by go_num, HR5⟩
        case measure => simp [intOf]; omega
      have t1 : (kind == 1) = false := beq_eq_false_iff_ne.2 k1
      by_cases k3 : kind = 3 ∧ file ≠ 3
      · obtain ⟨rfl, kf⟩ := k3
        have t3 : (file != 3) = true := bne_iff_ne.2 kf
        have Hkf := hid_ kf
        clear kf
        go_wp2_with fail
        refine Calls.mono (remove_any file f1 f2 _ _ _ _ DA.out.dk) ?_
        intro e w5 hp
        obtain ⟨rfl, ⟨Q5, d5, -⟩, -⟩ := DA.out.post hp
        have HR5 := hid_ (show ∃ Q d, DkB w.heap.size w w5 w.heap.size Q d ∧ FastInv l0 d.F from ⟨_, _, d5, fast_remove F.out _ Hkf.out⟩)
        clear hp d5
        go_wp2_with fail
        go_roundw
        case rel => exact ⟨k + 1, by omega, by go_num, HR5⟩
        case measure => simp [intOf]; omega
      by_cases k4 : kind = 4
      · subst k4
        go_wp2_with fail
        refine Calls.mono (arm_any nn f4 _ _ _ _ DA.out.dk) ?_
        intro e w5 hp
        obtain ⟨rfl, ⟨Q5, d5, -⟩, -⟩ := DA.out.post hp
        have HR5 := hid_ (show ∃ Q d, DkB w.heap.size w w5 w.heap.size Q d ∧ FastInv l0 d.F from ⟨_, _, d5, F.out⟩)
        clear hp d5
        go_wp2_with fail
        go_roundw
        case rel => exact ⟨k + 1, by omega, by go_num, HR5⟩
        case measure => simp [intOf]; omega
      have t4 : (kind == 4) = false := beq_eq_false_iff_ne.2 k4
      by_cases k5 : kind = 5
      · subst k5
        go_wp2_with fail
        refine Calls.mono (crash_any Ak keep.length ck keep _ _ _ _ DA.out.dk (hsk.out.below DA.out.below) (DA.out.row_low hsk.out (Nat.le_refl _))) ?_
        intro e w5 hp
        obtain ⟨rfl, ⟨Q5, d5, -⟩, -⟩ := DA.out.post hp
        have HR5 := hid_ (show ∃ Q d, DkB w.heap.size w w5 w.heap.size Q d ∧ FastInv l0 d.F from ⟨_, _, d5, fast_crash DA.out.dk.ok F.out _⟩)
        clear hp d5
        go_wp2_with fail
        go_roundw
        case rel => exact ⟨k + 1, by omega, by go_num, HR5⟩
        case measure => simp [intOf]; omega
      have t5 : (kind == 5) = false := beq_eq_false_iff_ne.2 k5
      have HR5 := hid_ (show ∃ Q d, DkB w.heap.size w (wr.alloc (.cells #[.int .i64 kind, .int .i64 file, .int .i64 nn, .slice Ab bs.length cb, .slice Ak keep.length ck] 82)) w.heap.size Q d ∧ FastInv l0 d.F from ⟨_, _, DA.out, F.out⟩)
      by_cases k3' : kind = 3
      · subst k3'
        obtain rfl : file = 3 := by
          by_cases e : file = 3
          · exact e
          · exact absurd ⟨rfl, e⟩ k3
        clear k3
        go_wp2_with fail
        go_roundw
        case rel => exact ⟨k + 1, by omega, by go_num, HR5⟩
        case measure => simp [intOf]; omega
      · have t3 : (kind == 3) = false := beq_eq_false_iff_ne.2 k3'
        clear k3
        go_wp2_with fail
        go_roundw
        case rel => exact ⟨k + 1, by omega, by go_num, HR5⟩
        case measure => simp [intOf]; omega
    · obtain rfl : k = n1 := by omega
      have hltf : decide (k < k) = false := decide_eq_false (by omega)
      go_wp2_with fail
      refine Calls.mono (crash_any none 0 0 [] _ _ _ _ D.out.dk (Row.none _) (fun a e => by cases e)) ?_
      intro e w5 hp
      obtain ⟨rfl, ⟨Q5, d5, -⟩, -⟩ := D.out.post hp
      have D5 := hid_ d5
      have F5 := fast_crash D.out.dk.ok F.out []
      clear hp d5
      obtain ⟨g1, g2, g3⟩ := fast_read D5.out.dk.ok (down_crash d []) F5
      clear F5
      generalize crashD d [] = dc at *
      go_wp2_with fail
      refine Calls.mono (read_any 3 (by omega) (by omega) _ _ _ _ D5.out.dk) ?_
      rintro e w6 ⟨A6, c6, rfl, ho, hb6⟩
      rw [g1]
      generalize readB dc 3 = lr at *
      have hl0 := Hlen0.out
      have Ho := hid_ (show Sl w6 A6 len0 c6 l0 from by
        have := ho.sl.upto l0.length g2
        rw [g3, hl0] at this
        exact this)
      have hcap6 := ho.sl.cap
      have hmax6 := ho.sl.max
      have Hb6 := hid_ (D5.out.below.trans (hb6.mono D5.out.size))
      obtain ⟨nr, hnr⟩ : ∃ nr, nr = lr.length := ⟨_, rfl⟩
      simp only [← hnr] at *
      have x1 : decide ((nr : Int) ≥ (len0 : Int)) = true := decide_eq_true (by omega)
      have x2 : decide (len0 ≤ nr) = true := decide_eq_true (by omega)
      have y1 : (0 : Int) ≤ (len0 : Int) := by omega
      have y2 : (len0 : Int) ≤ (c6 : Int) := by omega
      have hle6 : len0 ≤ nr := by omega
      clear g1 g2 g3 ho hb6 hnr hl0
      go_wp2_with fail
      refine Calls.mono (same_below A6 a0 len0 c6 cap0 l0 w6 Ho.out (H0.out.below Hb6.out)) ?_
      rintro e w7 ⟨rfl, hb7⟩
      have Hb7 := hid_ (Hb6.out.trans (hb7.mono Hb6.out.size))
      clear hb7
      go_wp2_with fail
      refine Calls.mono (dalive_any _) ?_
      rintro e w8 ⟨rfl, hb8⟩
      have Hb8 := hid_ (Hb7.out.trans (hb8.mono Hb7.out.size))
      clear hb8
      go_wp2_with fail
      go_ret
      exact ⟨rfl, Hb8.out⟩

set_option maxRecDepth 100000 in
theorem lifted (os : Os) (started : os.Started) (H : Type) (enc : TypeId × Value → H) :
    ReturnsInHanded {} Try.checked os 7 .any (Rows.diskFastSpec.pre6 enc Try.prog Try.f7 Rows.diskFastRow.domain false) (Rows.diskFastSpec.post enc Try.prog Try.f7 false true false false) := by
  refine returnsInHanded_of_change (C := Try.checked) own started (by kernel_rfl) Try.func7
    (ChangeSpec.witness6 (enc := enc) (C := Try.checked) false ⟨#[], #[.slice none 0 0, .slice none 0 0], []⟩ 8 (by kernel_rfl) (by kernel_rfl) (by kernel_rfl) (by kernel_rfl)) ?_
  intro W base args ds gs before hval0 hW hcnd _
  have hval : ∀ (j : Nat) t v, Try.f7.params[j]? = some t → args[j]? = some v → Value.okWide Try.prog W .any base t v := hval0
  have hW' := hW
  obtain ⟨p, q, hA0, hV, rfl, hfz, hnd⟩ := hW
  have hA : DataW.TrodAll enc Try.prog W 0 (fun _ => true) true Try.f7.params.toList args.toList ds p := hA0
  rw [Try.params7] at hA hval
  obtain ⟨v0, vs0, d0, ds0, p0, q0, hargs, rfl, rfl, h0, r0⟩ := trodAll_cons hA
  obtain ⟨v1, vs1, d1, ds1, p1, q1, rfl, rfl, rfl, h1, r1⟩ := trodAll_cons r0
  obtain ⟨rfl, rfl, rfl⟩ := trodAll_nil r1
  obtain rfl : args = #[v0, v1] := by cases args; simp_all
  obtain ⟨rfl, rfl⟩ := trodVars_none hV
  obtain ⟨a0, len0, cap0, rfl⟩ := okWide_slice Try.underlying67 (hval 0 67 v0 rfl rfl)
  have k0 := h0
  have lt0 : ∀ x ∈ p0, x.block < W.heap.size := by obtain ⟨m, hm⟩ := k0; exact DataW.trod_lt m _ _ _ hm
  obtain ⟨z0, w0⟩ : ∃ zs, IsRow .u8 W a0 len0 cap0 zs := by
    obtain ⟨fuel, hf⟩ := h0
    rcases open_ints Try.underlying67 Try.underlying5 (by kernel_rfl) hf with ⟨hcs, _⟩ | ⟨x, l, c, zs, hcs, _, hl, hm, hz, _, hcell, hwz⟩
    · simp [Value.cells] at hcs
      obtain ⟨rfl, rfl, rfl⟩ := hcs
      exact ⟨[], .inl ⟨rfl, rfl, rfl, rfl⟩⟩
    · simp [Value.cells] at hcs
      obtain ⟨rfl, rfl, rfl⟩ := hcs
      exact ⟨zs, .inr ⟨_, rfl, hl, hm, by simpa using hz, hcell, hwz⟩⟩
  have k1 := h1
  have lt1 : ∀ x ∈ p1, x.block < W.heap.size := by obtain ⟨m, hm⟩ := k1; exact DataW.trod_lt m _ _ _ hm
  have w1 : Dsk.OpsV W v1 := Dsk.open_opsV (hval 1 72 v1 rfl rfl) h1
  clear hA0 hval0
  refine (walk a0 len0 cap0 z0 v1 W w0 w1).mono fun e W' ⟨he, bel⟩ => ?_
  subst he
  exact ⟨_, rfl, _, _, _, [], _, [], hW', trodAll_mk1 (shut_bool Try.underlying4 _), (trodAll_cons_mk (Below.trod laidOut (by kernel_rfl) (of_decide_eq_true (by kernel_rfl)) k0 bel lt0) (trodAll_cons_mk (Below.trod laidOut (by kernel_rfl) (of_decide_eq_true (by kernel_rfl)) k1 bel lt1) trodAll_mk0)), rfl, bel.frame _, fun h => by cases h⟩

theorem over : Rows.diskFastRow.holds Try.pinned (OpenSpec.ofChange Rows.diskFastSpec) :=
  OpenClaim.holds_of_wide 7 Try.f7 rfl rfl rfl rfl rfl rfl rfl ⟨rfl, rfl, rfl, rfl, rfl⟩ rfl rfl rfl rfl rfl (by kernel_rfl) Try.func7 (by kernel_rfl)
    (of_decide_eq_true (by kernel_rfl)) (by unfold Func.isWrapper; first | (rw [if_pos (by decide +kernel)]; kernel_rfl) | (rw [if_neg (by decide +kernel)]; exact ⟨rfl, rfl⟩))
    (fun os started H enc _ => lifted os started H enc)

theorem proved : Rows.DiskFastSaid := over
#print axioms proved
end Go.Proofs.Ytnhkoppfopgajaa.diskFast
