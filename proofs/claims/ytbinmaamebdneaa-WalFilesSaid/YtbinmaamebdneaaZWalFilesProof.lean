/-
  WalFiles: of any records (where nothing is asked of more than 100, of one of more than 500 bytes, and of a size of files that is not right), appended to two logs whose files are parted at two sizes, both logs have all of them in the end, or an append is refused for want of a file's number; never has either as many files as a disk has numbers; no condition on the input.
  The frame round the walk is written by the guide's own program for this statement.
-/
import Derived.Test.YtbinmaamebdneaaZGWS
import Derived.Test.YtbinmaamebdneaaRows
import Derived.WalkKit
import Derived.ProofKit
import Derived.OpenShut
import Derived.ShutString
import Derived.ChangeOld
import Derived.Below
namespace Go.Proofs.Ytbinmaamebdneaa.walFiles
set_option linter.unusedSimpArgs false
set_option linter.unusedVariables false
open Go.ChangeShapes Go.WideShapes Go.ChangeAt Go.RowKit
open Go.ChangeMaps (open_string shut_string)
set_option linter.unusedVariables false

theorem own : ownKnob Try.prog.godebug = none := by kernel_rfl
theorem laidOut : laidOutB Try.prog = true := by kernel_rfl

/-- WHAT THE WALK IS TOLD OF A SLICE OF INTEGERS THAT CAME IN: it is nil; or it leads to a row of 'cap' cells, the numbers 'zs' (the first 'len' are its elements, the rest its spare room), each fitting its kind. -/
def IsRow (k : IntKind) (w : World) (a : Option Addr) (len cap : Nat) (zs : List Int) : Prop :=
  (a = none ∧ len = 0 ∧ cap = 0 ∧ zs = []) ∨
  ∃ x, a = some x ∧ len ≤ cap ∧ cap ≤ maxLen ∧ zs.length = cap ∧ (∀ i, i < zs.length → w.cell? (x.add i) = some (.int k (zs.getD i 0))) ∧ ∀ n ∈ zs, (Lit.int k n).wf = true

open Fm Dsk Wl
set_option maxRecDepth 100000 in
set_option maxHeartbeats 16000000 in
theorem walk (a0 : Int) (a1 : Int) (v2 : Value) (w : World) (w0 : (Lit.int .i64 a0).wf = true) (w1 : (Lit.int .i64 a1).wf = true) (w2 : SlsV w v2) :
    Calls Try.prog 4 #[.int .i64 a0, .int .i64 a1, v2] w fun e w' => e = .returned (.bool true) ∧ Below w.heap.size w w' := by
  obtain ⟨A2, n2, c2, ls, rfl, hs0⟩ := w2
  have HR := hid_ hs0
  have ha := hid_ (fun W => walive_any W)
  have hcap := hs0.cap
  have hmax := hs0.max
  have hlen0 := hs0.len
  clear w0 w1 hs0
  by_cases h1 : 100 < n2
  · go_enter Try.func4, Try.ntmps4
    go_wp2_with fail
    refine (ha.out _).mono ?_
    rintro e w' ⟨rfl, hbel⟩
    go_wp2
    go_ret
    exact ⟨rfl, hbel⟩
  by_cases h2 : a0 < 64
  · go_enter Try.func4, Try.ntmps4
    go_wp2_with fail
    refine (ha.out _).mono ?_
    rintro e w' ⟨rfl, hbel⟩
    go_wp2
    go_ret
    exact ⟨rfl, hbel⟩
  by_cases h3 : a1 < 64
  · go_enter Try.func4, Try.ntmps4
    go_wp2_with fail
    refine (ha.out _).mono ?_
    rintro e w' ⟨rfl, hbel⟩
    go_wp2
    go_ret
    exact ⟨rfl, hbel⟩
  by_cases h4 : 1048576 < a0
  · go_enter Try.func4, Try.ntmps4
    go_wp2_with fail
    refine (ha.out _).mono ?_
    rintro e w' ⟨rfl, hbel⟩
    go_wp2
    go_ret
    exact ⟨rfl, hbel⟩
  by_cases h5 : 1048576 < a1
  · go_enter Try.func4, Try.ntmps4
    go_wp2_with fail
    refine (ha.out _).mono ?_
    rintro e w' ⟨rfl, hbel⟩
    go_wp2
    go_ret
    exact ⟨rfl, hbel⟩
  have HNw := hid_ (new_any 1048576 (by decide) (by decide) w)
  have HNx := hid_ (fun W => new_any 1048576 (by decide) (by decide) W)
  rw [show ((1048576 : Nat) : Int) = 1048576 from rfl] at HNw HNx
  have y1 : decide ((100 : Int) < (n2 : Int)) = false := decide_eq_false (by omega)
  have y2 : decide (a0 < 64) = false := decide_eq_false h2
  have y3 : decide (a1 < 64) = false := decide_eq_false h3
  have y4 : decide ((1048576 : Int) < a0) = false := decide_eq_false h4
  have y6 : decide ((1048576 : Int) < a1) = false := decide_eq_false h5
  have y5 : ¬ (100 : Int) < (n2 : Int) := by omega
  have HM := hid_ (show (64 ≤ a0 ∧ a0 ≤ 1048576) ∧ 64 ≤ a1 ∧ a1 ≤ 1048576 by omega)
  have HLen := hid_ hlen0
  clear hlen0
  go_enter Try.func4, Try.ntmps4
  go_wp2_with fail
  (with_reducible refine Calls.mono HNw.out ?_)
  rintro e wa ⟨rfl, hd, hb⟩
  have HD0 := hid_ (show DkB w.heap.size w wa w.heap.size _ (newD 1048576) from ⟨hd, hb, fun q hq => by omega, Nat.le_refl _⟩)
  have HLk := hid_ (fun m => LogOk.new (most := m) hd.ok rfl rfl)
  have hlt0 := hd.qlt _ rfl
  clear hd hb
  go_wp2_with fail
  (with_reducible refine Calls.mono (HNx.out wa) ?_)
  rintro e wb ⟨rfl, hd, hb⟩
  have HD1 := hid_ (HD0.out.later hb)
  have HD2 := hid_ (show DkB w.heap.size w wb wa.heap.size _ (newD 1048576) from ⟨hd, HD1.out.below, fun q hq => by have := HD0.out.size; omega, Nat.le_refl _⟩)
  have HG2 := hid_ hd.qlt
  clear hd hb
  obtain ⟨gd2, hgd2⟩ : ∃ gd, gd = wa.heap.size := ⟨_, rfl⟩
  rw [← hgd2] at HD2 HG2 ⊢
  have HNe := hid_ (show ∀ q : Nat, q = w.heap.size → ¬ q = gd2 from fun q h1 h2 => by omega)
  have HOp := hid_ (open_any w.heap.size (fun q => q = w.heap.size) (fun q => q = gd2) (newD 1048576) a0 HM.out.1.1 HM.out.1.2 0 0 (allAt []) wb HD1.out.dk ((HLk.out a0).disk HM.out.1.1) (fun q hq => HG2.out q hq))
  clear hgd2 hlt0
  go_wp2_with fail
  (with_reducible refine Calls.mono HOp.out ?_)
  intro e wc hp
  obtain ⟨gl1, rfl, X1, F1, l1, k2, hf1, hk⟩ := duo_open (m2 := a1) (L2 := []) HD1.out HD2.out HNe.out hp
  have HK := hid_ hk
  have HOq := hid_ (open_any gd2 (fun q => q = gd2) F1 (newD 1048576) a1 HM.out.2.1 HM.out.2.2 0 0 (allAt []) wc k2.dk ((HLk.out a1).disk HM.out.2.1) hf1)
  clear hp l1 k2 hf1 hk
  go_wp2_with fail
  (with_reducible refine Calls.mono HOq.out ?_)
  intro e wd hp
  obtain ⟨gl2, rfl, X1', F1', X2', F2', hduo⟩ := HK.out _ _ hp
  obtain ⟨gd1, hgd1⟩ : ∃ gd, gd = w.heap.size := ⟨_, rfl⟩
  rw [← hgd1] at hduo
  have HDu := hid_ (show Duo2 w.heap.size w gl1 gd1 (newD 1048576) a0 [] gl2 gd2 (newD 1048576) a1 [] wd from by rw [← hgd1] at *; exact ⟨_, _, _, _, hduo⟩)
  have HI1 := hid_ (show LogI ls a0 (newD 1048576) [] 0 from ⟨by rw [Nat.zero_mul]; exact HLk.out a0, rfl, rfl, by simp [recsL]⟩)
  have HI2 := hid_ (show LogI ls a1 (newD 1048576) [] 0 from ⟨by rw [Nat.zero_mul]; exact HLk.out a1, rfl, rfl, by simp [recsL]⟩)
  clear hp hgd1 hduo y1 y2 y3 y4 y6 h2 h3 h4 h5 HK HOp HOq HNw HNx HD0 HD1 HD2 HG2 HNe HLk
  generalize newD 1048576 = d10 at HDu HI1 HI2
  go_wp2_with fail
  go_loopw [15] (fun vi wr => ∃ (i : Nat) (d1 d2 : DiskD) (L1 L2 : List FS), i ≤ n2 ∧ vi = .int .i64 (i : Nat) ∧ Hid (Duo2 w.heap.size w gl1 gd1 d1 a0 L1 gl2 gd2 d2 a1 L2 wr) ∧ Hid (LogI ls a0 d1 L1 i) ∧ Hid (LogI ls a1 d2 L2 i)) (fun vi _ => n2 - (intOf vi).toNat)
  case atStart => exact ⟨0, _, _, _, _, Nat.zero_le _, rfl, HDu, HI1, HI2⟩
  case round =>
    obtain ⟨i, d1, d2, L1, L2, hi, rfl, HD, HI1, HI2⟩ := hrel
    have x5 : (n2 : Int) ≤ 100 := by omega
    by_cases hlt : i < n2
    · have hiL : i < ls.length := by rw [HLen.out]; exact hlt
      obtain ⟨b, off, Ar, nr, cr, hA, hcell0, hsl0, -⟩ := HR.out.at_ hiL
      subst hA
      have hcell := (HD.out.below.cell (p := ⟨b, off + i, none⟩) (lt_of_cell hcell0)).trans hcell0
      have hcb := lt_of_cell hcell
      have x1 : (i : Int) < (n2 : Int) := by omega
      have x2 : (0 : Int) ≤ (i : Int) := by omega
      have HK := hid_ hlt
      have hr9 := hsl0.cap
      have hr8 := hsl0.max
      have hrl := hsl0.len
      by_cases h500 : 500 < nr
      · have z1 : (500 : Int) < (nr : Int) := by omega
        clear hlt
        go_wp2_with fail
        refine (ha.out _).mono ?_
        rintro e w9 ⟨rfl, hbel⟩
        have HBe := hid_ (HD.out.below.trans (hbel.mono HD.out.size))
        clear hbel
        go_wp2_with fail
        go_ret
        exact ⟨rfl, HBe.out⟩
      · have z1 : ¬ (500 : Int) < (nr : Int) := by omega
        have HA1 := hid_ (HI1.out.append hiL (by rw [HLen.out]; omega) (by omega))
        have HA2 := hid_ (HI2.out.append hiL (by rw [HLen.out]; omega) (by omega))
        generalize ls[i] = r at *
        have HC1 := hid_ (fun (W : World) (h : Duo2 w.heap.size w gl1 gd1 d1 a0 L1 gl2 gd2 d2 a1 L2 W) => h.app1 HI1.out.ok hsl0 (show nr ≤ 8192 by omega))
        have HC2 := hid_ (fun (W : World) (h : Duo2 w.heap.size w gl1 gd1 (appendL d1 a0 L1 r).2.1 a0 (appendL d1 a0 L1 r).2.2 gl2 gd2 d2 a1 L2 W) => h.app2 HI2.out.ok hsl0 (show nr ≤ 8192 by omega))
        generalize appendL d1 a0 L1 r = R1 at *
        generalize appendL d2 a1 L2 r = R2 at *
        obtain ⟨k1, d1', L1'⟩ := R1
        obtain ⟨k2, d2', L2'⟩ := R2
        simp only at HA1 HA2 HC1 HC2
        have HCe := hid_ (fun (W : World) (hb : Below w.heap.size w W) => (hb.cell (p := ⟨b, off + i, none⟩) (lt_of_cell hcell0)).trans hcell0)
        have hdu := HD.out
        clear hsl0 hlt hcell0 hiL hrl
        go_wp2_with fail
        go_region_held3 (fun W => W.cell? ⟨b, off + i, none⟩ = some (.slice Ar nr cr)) (first | (with_reducible assumption) | exact hcell | fail)
          (first
            | (go_at_call 10; (first | (with_reducible refine Calls.mono (HC1.out _ hdu) ?_) | (with_reducible refine Calls.mono (HC1.out _ (hdu.later (Below.drew (Below.refl _ _)))) ?_)); rintro e w5 ⟨rfl, hdv⟩; have hc5 := HCe.out _ hdv.below)
            | (go_at_call 10; (with_reducible refine Calls.mono (HC2.out _ hdv) ?_); rintro e w6 ⟨rfl, hdw⟩; have hc6 := HCe.out _ hdw.below)
            | fail)
        have HDw := hid_ hdw
        clear hdw hdv hc5 hc6 hdu HC1 HC2 hcell
        have HL1 := hid_ (show ∃ N U, LogOk d1' a0 0 L1' N U by
          rcases HA1.out with h | h
          · cases h; exact ⟨_, _, HI1.out.ok⟩
          · exact ⟨_, _, h.2.ok⟩)
        have HL2 := hid_ (show ∃ N U, LogOk d2' a1 0 L2' N U by
          rcases HA2.out with h | h
          · cases h; exact ⟨_, _, HI2.out.ok⟩
          · exact ⟨_, _, h.2.ok⟩)
        have HF1 := hid_ (fun (W : World) (h : Duo2 w.heap.size w gl1 gd1 d1' a0 L1' gl2 gd2 d2' a1 L2' W) => h.files1 HL1.out.choose_spec.choose_spec)
        have HF2 := hid_ (fun (W : World) (h : Duo2 w.heap.size w gl1 gd1 d1' a0 L1' gl2 gd2 d2' a1 L2' W) => h.files2 HL2.out.choose_spec.choose_spec)
        have hn1 := HL1.out.choose_spec.choose_spec.n63
        have hn2 := HL2.out.choose_spec.choose_spec.n63
        have q1 : ¬ (64 : Int) ≤ (L1'.length : Int) := by omega
        have q2 : ¬ (64 : Int) ≤ (L2'.length : Int) := by omega
        have q3 : decide ((64 : Int) ≤ (L1'.length : Int)) = false := decide_eq_false q1
        have q4 : decide ((64 : Int) ≤ (L2'.length : Int)) = false := decide_eq_false q2
        have q5 : decide ((L1'.length : Int) ≥ 64) = false := decide_eq_false q1
        have q6 : decide (64 ≤ L1'.length) = false := decide_eq_false (by omega)
        have q7 : decide (64 ≤ L2'.length) = false := decide_eq_false (by omega)
        clear hn1 hn2
        go_wp2_with fail
        (with_reducible refine Calls.mono (HF1.out _ HDw.out) ?_)
        rintro e w7 ⟨rfl, hb7⟩
        have HD7 := hid_ (HDw.out.later hb7)
        clear hb7
        go_wp2_with fail
        (with_reducible refine Calls.mono (HF2.out _ HD7.out) ?_)
        rintro e w8 ⟨rfl, hb8⟩
        have HD8 := hid_ (HD7.out.later hb8)
        clear hb8
        by_cases hk1 : k1 = 0
        · subst hk1
          have HJ1 : Hid (LogI ls a0 d1' L1' (i + 1)) := hid_ (by
            rcases HA1.out with h | h
            · cases h
            · exact h.2)
          by_cases hk2 : k2 = 0
          · subst hk2
            have HJ2 : Hid (LogI ls a1 d2' L2' (i + 1)) := hid_ (by
              rcases HA2.out with h | h
              · cases h
              · exact h.2)
            go_wp2_with fail
            go_roundw
            case rel => exact ⟨i + 1, d1', d2', L1', L2', by have := HK.out; omega, by go_num, HD8, HJ1, HJ2⟩
            case measure => have := HK.out; simp [intOf]; omega
          · obtain rfl : k2 = 9 := by
              rcases HA2.out with h | h
              · cases h; rfl
              · exact absurd h.1 hk2
            clear hk2
            go_wp2_with fail
            refine (ha.out _).mono ?_
            rintro e w9 ⟨rfl, hbel⟩
            have HBe := hid_ (HD8.out.below.trans (hbel.mono HD8.out.size))
            clear hbel
            go_wp2_with fail
            go_ret
            exact ⟨rfl, HBe.out⟩
        · obtain rfl : k1 = 9 := by
            rcases HA1.out with h | h
            · cases h; rfl
            · exact absurd h.1 hk1
          clear hk1
          go_wp2_with fail
          refine (ha.out _).mono ?_
          rintro e w9 ⟨rfl, hbel⟩
          have HBe := hid_ (HD8.out.below.trans (hbel.mono HD8.out.size))
          clear hbel
          go_wp2_with fail
          go_ret
          exact ⟨rfl, HBe.out⟩
    · obtain rfl : i = n2 := by omega
      have x1 : ¬ (i : Int) < (i : Int) := by omega
      clear hlt
      have h1 : recsL L1 = ls := by rw [HI1.out.recs, List.take_of_length_le (by rw [HLen.out]; exact Nat.le_refl _)]
      have h2 : recsL L2 = ls := by rw [HI2.out.recs, List.take_of_length_le (by rw [HLen.out]; exact Nat.le_refl _)]
      have HC1 := hid_ (fun (W : World) (hb : Below wr.heap.size wr W) => (HD.out.later hb).recs1 HI1.out.ok)
      have HC2 := hid_ (fun (W : World) (hb : Below wr.heap.size wr W) => (HD.out.later hb).recs2 HI2.out.ok)
      rw [h1] at HC1
      rw [h2] at HC2
      unfold RecsPost at HC1 HC2
      rw [HLen.out] at HC1 HC2
      clear h1 h2
      have HSm := hid_ (fun (A : Option Addr) (c : Nat) (W : World) (hb : Below wr.heap.size wr W) (ho : Sls W A i c ls) => sames_below A A2 i c c2 ls W ho (HR.out.below (HD.out.below.trans (hb.mono HD.out.size))))
      go_wp2_with fail
      (with_reducible refine Calls.mono (HC1.out _ (Below.refl _ _)) ?_)
      rintro e wx ⟨Ax, cx, rfl, hos, hbx⟩
      have HB1 := hid_ hbx
      have HS1 := hid_ hos.sls
      clear hos hbx
      go_wp2_with fail
      (with_reducible refine Calls.mono (HSm.out _ _ _ HB1.out HS1.out) ?_)
      rintro e wy ⟨rfl, hby⟩
      have HB2 := hid_ (HB1.out.trans (hby.mono HB1.out.size))
      clear hby
      go_wp2_with fail
      (with_reducible refine Calls.mono (HC2.out _ HB2.out) ?_)
      rintro e wz ⟨Az, cz, rfl, hos, hbz⟩
      have HB3 := hid_ (HB2.out.trans (hbz.mono HB2.out.size))
      have HS2 := hid_ hos.sls
      clear hos hbz
      go_wp2_with fail
      (with_reducible refine Calls.mono (HSm.out _ _ _ HB3.out HS2.out) ?_)
      rintro e wu ⟨rfl, hbu⟩
      have HB4 := hid_ (HB3.out.trans (hbu.mono HB3.out.size))
      have HB5 := hid_ (HD.out.below.trans (HB4.out.mono HD.out.size))
      have HSz := hid_ (Nat.le_trans HD.out.size HB4.out.size)
      clear hbu
      go_wp2_with fail
      refine (ha.out _).mono ?_
      rintro e w9 ⟨rfl, hbel⟩
      have HBe := hid_ (HB5.out.trans (hbel.mono HSz.out))
      clear hbel
      go_wp2_with fail
      go_ret
      exact ⟨rfl, HBe.out⟩

set_option maxRecDepth 100000 in
theorem lifted (os : Os) (started : os.Started) (H : Type) (enc : TypeId × Value → H) :
    ReturnsInHanded {} Try.checked os 4 .any (Rows.walFilesSpec.pre6 enc Try.prog Try.f4 Rows.walFilesRow.domain false) (Rows.walFilesSpec.post enc Try.prog Try.f4 false true false false) := by
  refine returnsInHanded_of_change (C := Try.checked) own started (by kernel_rfl) Try.func4
    (ChangeSpec.witness6 (enc := enc) (C := Try.checked) false ⟨#[], #[.int .i64 0, .int .i64 0, .slice none 0 0], []⟩ 8 (by kernel_rfl) (by kernel_rfl) (by kernel_rfl) (by kernel_rfl)) ?_
  intro W base args ds gs before hval0 hW hcnd _
  have hval : ∀ (j : Nat) t v, Try.f4.params[j]? = some t → args[j]? = some v → Value.okWide Try.prog W .any base t v := hval0
  have hW' := hW
  obtain ⟨p, q, hA0, hV, rfl, hfz, hnd⟩ := hW
  have hA : DataW.TrodAll enc Try.prog W 0 (fun _ => true) true Try.f4.params.toList args.toList ds p := hA0
  rw [Try.params4] at hA hval
  obtain ⟨v0, vs0, d0, ds0, p0, q0, hargs, rfl, rfl, h0, r0⟩ := trodAll_cons hA
  obtain ⟨v1, vs1, d1, ds1, p1, q1, rfl, rfl, rfl, h1, r1⟩ := trodAll_cons r0
  obtain ⟨v2, vs2, d2, ds2, p2, q2, rfl, rfl, rfl, h2, r2⟩ := trodAll_cons r1
  obtain ⟨rfl, rfl, rfl⟩ := trodAll_nil r2
  obtain rfl : args = #[v0, v1, v2] := by cases args; simp_all
  obtain ⟨rfl, rfl⟩ := trodVars_none hV
  obtain ⟨a0, rfl, rfl, rfl, w0⟩ := open_int Try.underlying3 (hval 0 3 v0 rfl rfl) h0
  obtain ⟨a1, rfl, rfl, rfl, w1⟩ := open_int Try.underlying3 (hval 1 3 v1 rfl rfl) h1
  have k2 := h2
  have lt2 : ∀ x ∈ p2, x.block < W.heap.size := by obtain ⟨m, hm⟩ := k2; exact DataW.trod_lt m _ _ _ hm
  have w2 : SlsV W v2 := open_slsV (hval 2 32 v2 rfl rfl) h2
  clear hA0 hval0
  refine (walk a0 a1 v2 W w0 w1 w2).mono fun e W' ⟨he, bel⟩ => ?_
  subst he
  exact ⟨_, rfl, _, _, _, [], _, [], hW', trodAll_mk1 (shut_bool Try.underlying4 _), (trodAll_cons_mk (shut_int Try.underlying3 w0) (trodAll_cons_mk (shut_int Try.underlying3 w1) (trodAll_cons_mk (Below.trod laidOut (by kernel_rfl) (of_decide_eq_true (by kernel_rfl)) k2 bel lt2) trodAll_mk0))), rfl, bel.frame _, fun h => by cases h⟩

theorem over : Rows.walFilesRow.holds Try.pinned (OpenSpec.ofChange Rows.walFilesSpec) :=
  OpenClaim.holds_of_wide 4 Try.f4 rfl rfl rfl rfl rfl rfl rfl ⟨rfl, rfl, rfl, rfl, rfl⟩ rfl rfl rfl rfl rfl (by kernel_rfl) Try.func4 (by kernel_rfl)
    (of_decide_eq_true (by kernel_rfl)) (by unfold Func.isWrapper; first | (rw [if_pos (by decide +kernel)]; kernel_rfl) | (rw [if_neg (by decide +kernel)]; exact ⟨rfl, rfl⟩))
    (fun os started H enc _ => lifted os started H enc)

theorem proved : Rows.WalFilesSaid := over
#print axioms proved
end Go.Proofs.Ytbinmaamebdneaa.walFiles
