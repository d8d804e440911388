/-
  WalDrops: of at most 60 records of at most 500 bytes each, laid in files of any right size (of other input nothing is asked), what Drop drops goes from the front, at most up to what was asked, and the others stay, for the log and for one that is opened anew; more than there are is refused; no condition on the input.
  The frame round the walk is written by the guide's own program for this statement.
-/
import Derived.Test.YtljlhaillmeedaaZGWQ
import Derived.Test.YtljlhaillmeedaaRows
import Derived.WalkKit
import Derived.ProofKit
import Derived.OpenShut
import Derived.ShutString
import Derived.ChangeOld
import Derived.Below
namespace Go.Proofs.Ytljlhaillmeedaa.walDrops
set_option linter.unusedSimpArgs false
set_option linter.unusedVariables false
open Go.ChangeShapes Go.WideShapes Go.ChangeAt Go.RowKit
open Go.ChangeMaps (open_string shut_string)
set_option linter.unusedVariables false

theorem own : ownKnob Try.prog.godebug = none := by kernel_rfl
theorem laidOut : laidOutB Try.prog = true := by kernel_rfl

/-- WHAT THE WALK IS TOLD OF A SLICE OF INTEGERS THAT CAME IN: it is nil; or it leads to a row of 'cap' cells, the numbers 'zs' (the first 'len' are its elements, the rest its spare room), each fitting its kind. -/
def IsRow (k : IntKind) (w : World) (a : Option Addr) (len cap : Nat) (zs : List Int) : Prop :=
  (a = none ∧ len = 0 ∧ cap = 0 ∧ zs = []) ∨
  ∃ x, a = some x ∧ len ≤ cap ∧ cap ≤ maxLen ∧ zs.length = cap ∧ (∀ i, i < zs.length → w.cell? (x.add i) = some (.int k (zs.getD i 0))) ∧ ∀ n ∈ zs, (Lit.int k n).wf = true

open Fm Dsk Wl
set_option maxRecDepth 100000 in
set_option maxHeartbeats 16000000 in
theorem walk (a0 : Int) (v1 : Value) (a2 : Int) (w : World) (w0 : (Lit.int .i64 a0).wf = true) (w1 : SlsV w v1) (w2 : (Lit.int .i64 a2).wf = true) :
    Calls Try.prog 4 #[.int .i64 a0, v1, .int .i64 a2] w fun e w' => e = .returned (.bool true) ∧ Below w.heap.size w w' := by
  obtain ⟨A1, n1, c1, ls, rfl, hs0⟩ := w1
  have HR := hid_ hs0
  have ha := hid_ (fun W => walive_any W)
  obtain ⟨hz1, hz2⟩ : -9223372036854775808 ≤ a2 ∧ a2 ≤ 9223372036854775807 := by simpa [Lit.wf, IntKind.min, IntKind.max, IntKind.bits, IntKind.signed] using w2
  have hcap := hs0.cap
  have hmax := hs0.max
  have hlen0 := hs0.len
  clear w0 w2 hs0
  by_cases h1 : 60 < n1
  · go_enter Try.func4, Try.ntmps4
    go_wp2_with fail
    refine (ha.out _).mono ?_
    rintro e w' ⟨rfl, hbel⟩
    go_wp2
    go_ret
    exact ⟨rfl, hbel⟩
  by_cases h2 : a0 < 64
  · go_enter Try.func4, Try.ntmps4
    go_wp2_with fail
    refine (ha.out _).mono ?_
    rintro e w' ⟨rfl, hbel⟩
    go_wp2
    go_ret
    exact ⟨rfl, hbel⟩
  by_cases h3 : 1048576 < a0
  · go_enter Try.func4, Try.ntmps4
    go_wp2_with fail
    refine (ha.out _).mono ?_
    rintro e w' ⟨rfl, hbel⟩
    go_wp2
    go_ret
    exact ⟨rfl, hbel⟩
  by_cases h4 : a2 < 0
  · go_enter Try.func4, Try.ntmps4
    go_wp2_with fail
    refine (ha.out _).mono ?_
    rintro e w' ⟨rfl, hbel⟩
    go_wp2
    go_ret
    exact ⟨rfl, hbel⟩
  have HNw := hid_ (new_any 1048576 (by decide) (by decide) w)
  rw [show ((1048576 : Nat) : Int) = 1048576 from rfl] at HNw
  obtain ⟨n, hn⟩ : ∃ n : Nat, a2 = (n : Int) := ⟨a2.toNat, by omega⟩
  subst hn
  have y1 : decide ((60 : Int) < (n1 : Int)) = false := decide_eq_false (by omega)
  have y2 : decide (a0 < 64) = false := decide_eq_false h2
  have y3 : decide ((1048576 : Int) < a0) = false := decide_eq_false h3
  have y4 : decide ((n : Int) < 0) = false := decide_eq_false h4
  have y5 : ¬ (60 : Int) < (n1 : Int) := by omega
  have hm64 : 64 ≤ a0 := by omega
  have hmx : a0 ≤ 1048576 := by omega
  have HLen := hid_ hlen0
  clear hlen0
  go_enter Try.func4, Try.ntmps4
  go_wp2_with fail
  (with_reducible refine Calls.mono HNw.out ?_)
  rintro e wa ⟨rfl, hd, hb⟩
  have HD := hid_ (show DkB w.heap.size w wa w.heap.size _ (newD 1048576) from ⟨hd, hb, fun q hq => by omega, Nat.le_refl _⟩)
  have HLk := hid_ (LogOk.new (most := a0) hd.ok rfl rfl)
  have HOp := hid_ (open_any w.heap.size (fun q => q = w.heap.size) (newD 1048576) a0 hm64 hmx 0 0 (allAt []) wa hd (HLk.out.disk hm64))
  clear hd hb
  go_wp2_with fail
  (with_reducible refine Calls.mono HOp.out ?_)
  intro e wb hp
  obtain ⟨gl, rfl, ⟨X2, l2', -⟩, -⟩ := open_lgb HD.out hp
  have L2 := hid_ (show LgB w.heap.size w wb gl w.heap.size X2 (newD 1048576) a0 [] from l2')
  clear hp l2'
  go_wp2_with fail
  obtain ⟨gd, hgd⟩ : ∃ gd, gd = w.heap.size := ⟨_, rfl⟩
  rw [← hgd]
  have HS0 := hid_ (show LgB w.heap.size w wb gl gd X2 (newD 1048576) a0 [] by rw [hgd]; exact L2.out)
  have HL0 := hid_ (show ls.length ≤ 60 by have := HLen.out; omega)
  have HM64 := hid_ (And.intro hm64 hmx)
  clear hgd HNw HD HOp L2 y1 y2 y3 y4 hm64 hmx h2 h3 h4
  go_loopw [11] (fun vi wr => ∃ (i : Nat) (X : Nat → Prop) (d : DiskD) (L : List FS), i ≤ n1 ∧ vi = .int .i64 (i : Nat) ∧ Hid (LgB w.heap.size w wr gl gd X d a0 L) ∧ Hid (LogOk d a0 0 L i (i * 524)) ∧ Hid (d.armed = false ∧ d.room = 1048576 ∧ recsL L = ls.take i ∧ L.length ≤ i ∧ firstL L = 0)) (fun vi _ => n1 - (intOf vi).toNat)
  case atStart => exact ⟨0, X2, _, [], Nat.zero_le _, rfl, HS0, by rw [Nat.zero_mul]; exact HLk, hid_ ⟨rfl, rfl, rfl, by simp, rfl⟩⟩
  case round =>
    obtain ⟨i, X, d, L, hi, rfl, HLg, HOk, HF⟩ := hrel
    have x5 : (n1 : Int) ≤ 60 := by omega
    by_cases hlt : i < n1
    · have hiL : i < ls.length := by rw [HLen.out]; exact hlt
      obtain ⟨b, off, Ar, nr, cr, hA, hcell0, hsl0, -⟩ := HR.out.at_ hiL
      obtain ⟨r, hr⟩ : ∃ r, r = ls[i] := ⟨_, rfl⟩
      have HT := hid_ (show ls.take i ++ [r] = ls.take (i + 1) by rw [hr]; exact (List.take_succ_eq_append_getElem hiL).symm)
      rw [← hr] at hsl0
      clear hr hiL
      subst hA
      have hcell := (HLg.out.below.cell (p := ⟨b, off + i, none⟩) (lt_of_cell hcell0)).trans hcell0
      have hsl := hsl0.below HLg.out.below
      have HN := hid_ (show SlN X wr Ar nr cr r from ⟨hsl, fun a ea hne hx => by
        subst ea
        have h9 := hsl0.block hne
        have h8 := HLg.out.own _ hx
        omega⟩)
      have x1 : (i : Int) < (n1 : Int) := by omega
      have x2 : (0 : Int) ≤ (i : Int) := by omega
      have HK := hid_ hlt
      have hr9 := hsl.cap
      have hr8 := hsl.max
      by_cases h500 : 500 < nr
      · have z1 : (500 : Int) < (nr : Int) := by omega
        clear hlt
        go_wp2_with fail
        (with_reducible refine Calls.mono (ha.out _) ?_)
        rintro e w9 ⟨rfl, hbel⟩
        have HBe := hid_ (HLg.out.below.trans (hbel.mono HLg.out.size))
        clear hbel
        go_wp2_with fail
        go_ret
        exact ⟨rfl, HBe.out⟩
      · have z1 : ¬ (500 : Int) < (nr : Int) := by omega
        have HAp := hid_ (HLg.out.append HOk.out Ar nr cr r HN.out (by omega))
        have HA := hid_ (HOk.out.fits HF.out.1 r (by rw [hsl.len]; omega) (by have := HL0.out; have := HLen.out; omega) (by have := HF.out.2.2.2.1; have := HL0.out; have := HLen.out; omega) (by rw [hsl.len, HF.out.2.1]; have := HL0.out; have := HLen.out; omega))
        have HSm := hid_ (show r.length ≤ 500 by rw [hsl.len]; omega)
        have HFi := hid_ (first_append (d := d) (most := a0) (r := r) HF.out.2.2.2.2)
        generalize appendL d a0 L r = R at *
        obtain ⟨k3, d3, L3⟩ := R
        simp only at *
        have hk := HA.out.k0
        subst hk
        clear hsl hlt hcell0 hsl0
        go_wp2_with fail
        (with_reducible refine Calls.mono HAp.out ?_)
        intro e w3 hp
        obtain ⟨rfl, ⟨X3, l3, -⟩, -⟩ := HLg.out.post hp
        have HLg3 := hid_ l3
        have HOk3 := hid_ (HA.out.ok.mono (U' := (i + 1) * 524) (by have := HSm.out; omega))
        have HF3 := hid_ (show d3.armed = false ∧ d3.room = 1048576 ∧ recsL L3 = ls.take (i + 1) ∧ L3.length ≤ i + 1 ∧ firstL L3 = 0 from ⟨HA.out.arm, by rw [HA.out.room]; exact HF.out.2.1, by rw [HA.out.recs, HF.out.2.2.1, HT.out], by have := HA.out.len; have := HF.out.2.2.2.1; omega, HFi.out⟩)
        clear hp l3 hcell
        go_wp2_with fail
        go_roundw
        case rel => exact ⟨i + 1, X3, d3, L3, by have := HK.out; omega, by go_num, HLg3, HOk3, HF3⟩
        case measure => have := HK.out; simp [intOf]; omega
    · obtain rfl : i = n1 := by omega
      have x1 : ¬ (i : Int) < (i : Int) := by omega
      clear hlt
      have hall : recsL L = ls := by rw [HF.out.2.2.1, List.take_of_length_le (by rw [HLen.out]; exact Nat.le_refl _)]
      obtain ⟨k1, k2, k3, k4⟩ := drop_all HOk.out HF.out.2.2.2.2 n
      rw [hall] at k1 k2 k4
      rw [HLen.out] at k2 k4
      have HFl := hid_ HF.out.2.2.2.2
      by_cases hgt : i < n
      · have HDr := hid_ (drop_no HLg.out.lg HOk.out n (by omega) (by omega))
        have z1 : (i : Int) < (n : Int) := by omega
        have z2 : decide ((n : Int) > (i : Int)) = true := decide_eq_true (by omega)
        have z3 : decide (i < n) = true := decide_eq_true hgt
        clear k1 k2 k3 k4 hgt hall
        go_wp2_with fail
        (with_reducible refine Calls.mono HDr.out ?_)
        rintro e wc ⟨rfl, hb⟩
        have HLc := hid_ (HLg.out.later hb)
        have HFc := hid_ (HLc.out.first HOk.out (by rw [HFl.out]; omega))
        rw [HFl.out] at HFc
        clear hb
        go_wp2_with fail
        (with_reducible refine Calls.mono HFc.out ?_)
        rintro e wd ⟨rfl, hb⟩
        have HBd := hid_ (HLc.out.later hb).below
        have HSd := hid_ (HLc.out.later hb).size
        clear hb
        go_wp2_with fail
        (with_reducible refine Calls.mono (ha.out _) ?_)
        rintro e w9 ⟨rfl, hbel⟩
        have HBe := hid_ (HBd.out.trans (hbel.mono HSd.out))
        clear hbel
        go_wp2_with fail
        go_ret
        exact ⟨rfl, HBe.out⟩
      · have HDr := hid_ (drop_any HLg.out.lg HOk.out n (by omega) (by omega))
        unfold DropPost at HDr
        have z1 : ¬ (i : Int) < (n : Int) := by omega
        have z2 : decide ((n : Int) > (i : Int)) = false := decide_eq_false (by omega)
        have z3 : decide (i < n) = false := decide_eq_false hgt
        have HK1 := hid_ k1
        have HK2 := hid_ (show firstL (dropL n L) ≤ i ∧ firstL (dropL n L) ≤ n ∧ (recsL (dropL n L)).length = i - firstL (dropL n L) from ⟨k2, k3, by rw [k1, List.length_drop, HLen.out]⟩)
        generalize dropL n L = R at *
        clear k1 k2 k3 k4 hgt hall
        go_wp2_with fail
        (with_reducible refine Calls.mono HDr.out ?_)
        rintro e wc ⟨rfl, d2, b2, X2, hmid⟩
        have HL2 := hid_ (HLg.out.dropped hmid)
        have HO2 := hid_ hmid.ok
        clear hmid HDr
        have HFc := hid_ (HL2.out.first HO2.out (by have := HK2.out.1; omega))
        obtain ⟨f, hf⟩ : ∃ f, f = firstL R := ⟨_, rfl⟩
        rw [← hf] at HFc HK1 HK2
        have HFf := hid_ hf
        clear hf
        go_wp2_with fail
        (with_reducible refine Calls.mono HFc.out ?_)
        rintro e wd ⟨rfl, hb⟩
        have HL3 := hid_ (HL2.out.later hb)
        clear hb
        have HOp := hid_ (fun (Qd : Nat → Prop) (hdk : Dk wd gd Qd d2) => by
          have h := open_any gd Qd d2 a0 HM64.out.1 HM64.out.2 b2 R.length (allAt R) wd hdk (HO2.out.disk HM64.out.1)
          rw [HO2.out.open_.1, HO2.out.open_.2] at h
          exact h : ∀ (Qd : Nat → Prop) (_ : Dk wd gd Qd d2), Calls Try.prog 14 #[.pointer (some ⟨gd, 0, none⟩), .int .i64 a0] wd (OpenPost wd gd Qd d2 a0 R))
        have HRo := hid_ (LgB.reopens HL3.out HOp.out)
        go_wp2_with fail
        (with_reducible refine Calls.mono HRo.out ?_)
        rintro e we ⟨gx, rfl, ⟨X3, l3⟩, X4, l4⟩
        have HL4 := hid_ l3
        have HL5 := hid_ l4
        clear l3 l4
        have q1 : ¬ (n : Int) < (f : Int) := by have := HK2.out.2.1; omega
        have q2 : ¬ (i : Int) < (f : Int) := by have := HK2.out.1; omega
        have q3 : (f : Int) ≤ (i : Int) := by omega
        have q4 : (0 : Int) ≤ (f : Int) := by omega
        have q5 : f ≤ i := by omega
        have q6 : f ≤ c1 := by omega
        have q7 : decide (n < f) = false := decide_eq_false (by omega)
        have q8 : decide (i < f) = false := decide_eq_false (by omega)
        have HRw := hid_ (fun (W : World) (hb : Below we.heap.size we W) => (HL4.out.later hb).records HO2.out)
        have HRx := hid_ (fun (W : World) (hb : Below we.heap.size we W) => (HL5.out.later hb).records HO2.out)
        have HFx := hid_ (fun (W : World) (hb : Below we.heap.size we W) => (HL5.out.later hb).first HO2.out (by have := HK2.out.1; rw [← HFf.out]; omega))
        rw [← HFf.out] at HFx
        rw [HK1.out] at HRw HRx
        unfold RecsPost at HRw HRx
        rw [← HK1.out, HK2.out.2.2, HK1.out] at HRw HRx
        have HSm := hid_ (fun (A : Option Addr) (c : Nat) (W : World) (hb : Below we.heap.size we W) (ho : Sls W A (i - f) c (ls.drop f)) => sames_below A (cutAt A1 c1 f) (i - f) c (c1 - f) (ls.drop f) W ho (sls_from (HR.out.below (HL4.out.below.trans (hb.mono HL4.out.size))) f (by omega)))
        by_cases hcf : c1 = f
        · obtain rfl : i = f := by omega
          subst c1
          rw [cutAt_same rfl, Nat.sub_self] at HSm
          rw [Nat.sub_self] at HRw HRx
          have f1 : ((i : Int) == (i : Int)) = true := by simp
          have f2 : (i == i) = true := by simp
          go_wp2_with fail
          go_region_held3 (fun W => Below we.heap.size we W) (first | (with_reducible assumption) | (with_reducible exact hcb) | exact Below.drew (Below.refl _ _) | fail)
            (first
              | (go_at_call 20; (first | (with_reducible refine Calls.mono (HRw.out _ hcb) ?_) | (with_reducible refine Calls.mono (HRx.out _ hcb) ?_) | (with_reducible refine Calls.mono (HRw.out _ (Below.drew (Below.refl _ _))) ?_)); rintro e w' ⟨Ar, cr, rfl, hos, hbn⟩; (first | (with_reducible have hcb := Below.trans hcb (Below.mono hbn hcb.size)) | (have hcb := Below.trans (Below.drew (Below.refl we.heap.size we)) (Below.mono hbn (Nat.le_refl _)))); have hsl := hos.sls)
              | (go_at_call 21; (with_reducible refine Calls.mono (HSm.out _ _ _ hcb hsl) ?_); rintro e w' ⟨rfl, hbn⟩; (with_reducible have hcb := Below.trans hcb (Below.mono hbn hcb.size)))
              | (go_at_call 22; (with_reducible refine Calls.mono (HFx.out _ hcb) ?_); rintro e w' ⟨rfl, hbn⟩; (with_reducible have hcb := Below.trans hcb (Below.mono hbn hcb.size)))
              | (go_at_call 12; (with_reducible refine Calls.mono (ha.out _) ?_); rintro e w' ⟨rfl, hbn⟩; (with_reducible have hcb := Below.trans hcb (Below.mono hbn hcb.size)))
              | fail)
          have hS : Below we.heap.size we w' := by assumption
          have HBe := hid_ (HL4.out.below.trans (hS.mono HL4.out.size))
          clear hS
          go_wp2_with fail
          go_ret
          exact ⟨rfl, HBe.out⟩
        · rw [cutAt_add hcf] at HSm
          have f1 : ((f : Int) == (f : Int)) = true := by simp
          have f2 : (f == f) = true := by simp
          go_wp2_with fail
          go_region_held3 (fun W => Below we.heap.size we W) (first | (with_reducible assumption) | (with_reducible exact hcb) | exact Below.drew (Below.refl _ _) | fail)
            (first
              | (go_at_call 20; (first | (with_reducible refine Calls.mono (HRw.out _ hcb) ?_) | (with_reducible refine Calls.mono (HRx.out _ hcb) ?_) | (with_reducible refine Calls.mono (HRw.out _ (Below.drew (Below.refl _ _))) ?_)); rintro e w' ⟨Ar, cr, rfl, hos, hbn⟩; (first | (with_reducible have hcb := Below.trans hcb (Below.mono hbn hcb.size)) | (have hcb := Below.trans (Below.drew (Below.refl we.heap.size we)) (Below.mono hbn (Nat.le_refl _)))); have hsl := hos.sls)
              | (go_at_call 21; (with_reducible refine Calls.mono (HSm.out _ _ _ hcb hsl) ?_); rintro e w' ⟨rfl, hbn⟩; (with_reducible have hcb := Below.trans hcb (Below.mono hbn hcb.size)))
              | (go_at_call 22; (with_reducible refine Calls.mono (HFx.out _ hcb) ?_); rintro e w' ⟨rfl, hbn⟩; (with_reducible have hcb := Below.trans hcb (Below.mono hbn hcb.size)))
              | (go_at_call 12; (with_reducible refine Calls.mono (ha.out _) ?_); rintro e w' ⟨rfl, hbn⟩; (with_reducible have hcb := Below.trans hcb (Below.mono hbn hcb.size)))
              | fail)
          have hS : Below we.heap.size we w' := by assumption
          have HBe := hid_ (HL4.out.below.trans (hS.mono HL4.out.size))
          clear hS
          go_wp2_with fail
          go_ret
          exact ⟨rfl, HBe.out⟩

set_option maxRecDepth 100000 in
theorem lifted (os : Os) (started : os.Started) (H : Type) (enc : TypeId × Value → H) :
    ReturnsInHanded {} Try.checked os 4 .any (Rows.walDropsSpec.pre6 enc Try.prog Try.f4 Rows.walDropsRow.domain false) (Rows.walDropsSpec.post enc Try.prog Try.f4 false true false false) := by
  refine returnsInHanded_of_change (C := Try.checked) own started (by kernel_rfl) Try.func4
    (ChangeSpec.witness6 (enc := enc) (C := Try.checked) false ⟨#[], #[.int .i64 0, .slice none 0 0, .int .i64 0], []⟩ 8 (by kernel_rfl) (by kernel_rfl) (by kernel_rfl) (by kernel_rfl)) ?_
  intro W base args ds gs before hval0 hW hcnd _
  have hval : ∀ (j : Nat) t v, Try.f4.params[j]? = some t → args[j]? = some v → Value.okWide Try.prog W .any base t v := hval0
  have hW' := hW
  obtain ⟨p, q, hA0, hV, rfl, hfz, hnd⟩ := hW
  have hA : DataW.TrodAll enc Try.prog W 0 (fun _ => true) true Try.f4.params.toList args.toList ds p := hA0
  rw [Try.params4] at hA hval
  obtain ⟨v0, vs0, d0, ds0, p0, q0, hargs, rfl, rfl, h0, r0⟩ := trodAll_cons hA
  obtain ⟨v1, vs1, d1, ds1, p1, q1, rfl, rfl, rfl, h1, r1⟩ := trodAll_cons r0
  obtain ⟨v2, vs2, d2, ds2, p2, q2, rfl, rfl, rfl, h2, r2⟩ := trodAll_cons r1
  obtain ⟨rfl, rfl, rfl⟩ := trodAll_nil r2
  obtain rfl : args = #[v0, v1, v2] := by cases args; simp_all
  obtain ⟨rfl, rfl⟩ := trodVars_none hV
  obtain ⟨a0, rfl, rfl, rfl, w0⟩ := open_int Try.underlying3 (hval 0 3 v0 rfl rfl) h0
  have k1 := h1
  have lt1 : ∀ x ∈ p1, x.block < W.heap.size := by obtain ⟨m, hm⟩ := k1; exact DataW.trod_lt m _ _ _ hm
  have w1 : SlsV W v1 := open_slsV (hval 1 32 v1 rfl rfl) h1
  obtain ⟨a2, rfl, rfl, rfl, w2⟩ := open_int Try.underlying3 (hval 2 3 v2 rfl rfl) h2
  clear hA0 hval0
  refine (walk a0 v1 a2 W w0 w1 w2).mono fun e W' ⟨he, bel⟩ => ?_
  subst he
  exact ⟨_, rfl, _, _, _, [], _, [], hW', trodAll_mk1 (shut_bool Try.underlying4 _), (trodAll_cons_mk (shut_int Try.underlying3 w0) (trodAll_cons_mk (Below.trod laidOut (by kernel_rfl) (of_decide_eq_true (by kernel_rfl)) k1 bel lt1) (trodAll_cons_mk (shut_int Try.underlying3 w2) trodAll_mk0))), rfl, bel.frame _, fun h => by cases h⟩

theorem over : Rows.walDropsRow.holds Try.pinned (OpenSpec.ofChange Rows.walDropsSpec) :=
  OpenClaim.holds_of_wide 4 Try.f4 rfl rfl rfl rfl rfl rfl rfl ⟨rfl, rfl, rfl, rfl, rfl⟩ rfl rfl rfl rfl rfl (by kernel_rfl) Try.func4 (by kernel_rfl)
    (of_decide_eq_true (by kernel_rfl)) (by unfold Func.isWrapper; first | (rw [if_pos (by decide +kernel)]; kernel_rfl) | (rw [if_neg (by decide +kernel)]; exact ⟨rfl, rfl⟩))
    (fun os started H enc _ => lifted os started H enc)

theorem proved : Rows.WalDropsSaid := over
#print axioms proved
end Go.Proofs.Ytljlhaillmeedaa.walDrops
