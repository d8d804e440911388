/-
  WalTorn: of any records (where nothing is asked of none, of more than 40, of one of more than 500 bytes, of a negative cut, or of more bytes than 500 to be appended behind), of a log whose one file is cut off anywhere, those come that are whole there, the first ones, all of them where nothing was cut off; it is appended to from there, and opened again it has just these; no condition on the input.
  The frame round the walk is written by the guide's own program for this statement.
-/
import Derived.Test.YtgmeggilojcoeaaZGWK
import Derived.Test.YtgmeggilojcoeaaZGWO
import Derived.Test.YtgmeggilojcoeaaZGWP
import Derived.Test.YtgmeggilojcoeaaZSame
import Derived.Test.YtgmeggilojcoeaaRows
import Derived.WalkKit
import Derived.ProofKit
import Derived.OpenShut
import Derived.ShutString
import Derived.ChangeOld
import Derived.Below
namespace Go.Proofs.Ytgmeggilojcoeaa.walTorn
set_option linter.unusedSimpArgs false
set_option linter.unusedVariables false
open Go.ChangeShapes Go.WideShapes Go.ChangeAt Go.RowKit
open Go.ChangeMaps (open_string shut_string)
set_option linter.unusedVariables false

theorem own : ownKnob Try.prog.godebug = none := by kernel_rfl
theorem laidOut : laidOutB Try.prog = true := by kernel_rfl

/-- WHAT THE WALK IS TOLD OF A SLICE OF INTEGERS THAT CAME IN: it is nil; or it leads to a row of 'cap' cells, the numbers 'zs' (the first 'len' are its elements, the rest its spare room), each fitting its kind. -/
def IsRow (k : IntKind) (w : World) (a : Option Addr) (len cap : Nat) (zs : List Int) : Prop :=
  (a = none ∧ len = 0 ∧ cap = 0 ∧ zs = []) ∨
  ∃ x, a = some x ∧ len ≤ cap ∧ cap ≤ maxLen ∧ zs.length = cap ∧ (∀ i, i < zs.length → w.cell? (x.add i) = some (.int k (zs.getD i 0))) ∧ ∀ n ∈ zs, (Lit.int k n).wf = true

open Fm Dsk Wl
set_option maxRecDepth 100000 in
set_option maxHeartbeats 16000000 in
theorem walk (v0 : Value) (a1 : Int) (a2 : Option Addr) (len2 cap2 : Nat) (z2 : List Int) (w : World) (w0 : SlsV w v0) (w1 : (Lit.int .i64 a1).wf = true) (w2 : IsRow .u8 w a2 len2 cap2 z2) :
    Calls Try.prog 5 #[v0, .int .i64 a1, .slice a2 len2 cap2] w fun e w' => e = .returned (.bool true) ∧ Below w.heap.size w w' := by
  obtain ⟨A0, n0, c0, ls, rfl, hs0⟩ := w0
  obtain ⟨l2, hs2⟩ := sl_of_row w2
  have HR := hid_ hs0
  have HM := hid_ hs2
  have ha := hid_ (fun W => walive_any W)
  obtain ⟨hz1, hz2⟩ : -9223372036854775808 ≤ a1 ∧ a1 ≤ 9223372036854775807 := by simpa [Lit.wf, IntKind.min, IntKind.max, IntKind.bits, IntKind.signed] using w1
  have hcap := hs0.cap
  have hmax := hs0.max
  have hlen0 := hs0.len
  clear w1 w2 hs0 hs2
  by_cases h1 : 40 < n0
  · go_enter Try.func5, Try.ntmps5
    go_wp2_with fail
    refine (ha.out _).mono ?_
    rintro e w' ⟨rfl, hbel⟩
    go_wp2
    go_ret
    exact ⟨rfl, hbel⟩
  by_cases h2 : n0 = 0
  · have x1 : ((n0 : Int) == 0) = true := by rw [h2]; rfl
    go_enter Try.func5, Try.ntmps5
    go_wp2_with fail
    refine (ha.out _).mono ?_
    rintro e w' ⟨rfl, hbel⟩
    go_wp2
    go_ret
    exact ⟨rfl, hbel⟩
  by_cases h3 : 500 < len2
  · go_enter Try.func5, Try.ntmps5
    go_wp2_with fail
    refine (ha.out _).mono ?_
    rintro e w' ⟨rfl, hbel⟩
    go_wp2
    go_ret
    exact ⟨rfl, hbel⟩
  by_cases h4 : a1 < 0
  · go_enter Try.func5, Try.ntmps5
    go_wp2_with fail
    refine (ha.out _).mono ?_
    rintro e w' ⟨rfl, hbel⟩
    go_wp2
    go_ret
    exact ⟨rfl, hbel⟩
  have HNw := hid_ (new_any 1048576 (by decide) (by decide) w)
  rw [show ((1048576 : Nat) : Int) = 1048576 from rfl] at HNw
  have y1 : decide ((40 : Int) < (n0 : Int)) = false := decide_eq_false (by omega)
  have y2 : ((n0 : Int) == 0) = false := by rw [beq_eq_false_iff_ne]; omega
  have y3 : decide ((500 : Int) < (len2 : Int)) = false := decide_eq_false (by omega)
  have y4 : decide (a1 < 0) = false := decide_eq_false h4
  have y5 : ¬ (40 : Int) < (n0 : Int) := by omega
  have y6 : ¬ (500 : Int) < (len2 : Int) := by omega
  have HLen := hid_ hlen0
  clear hlen0
  go_enter Try.func5, Try.ntmps5
  go_wp2_with fail
  (with_reducible refine Calls.mono HNw.out ?_)
  rintro e wa ⟨rfl, hd, hb⟩
  have HD := hid_ (show DkB w.heap.size w wa w.heap.size _ (newD 1048576) from ⟨hd, hb, fun q hq => by omega, Nat.le_refl _⟩)
  have HLk := hid_ (LogOk.new (most := 1048576) hd.ok rfl rfl)
  have HOp := hid_ (open_any w.heap.size (fun q => q = w.heap.size) (newD 1048576) 1048576 (by decide) (by decide) 0 0 (allAt []) wa hd (HLk.out.disk (by decide)))
  clear hd hb
  go_wp2_with fail
  (with_reducible refine Calls.mono HOp.out ?_)
  intro e wb hp
  obtain ⟨gl, rfl, ⟨X2, l2', -⟩, -⟩ := open_lgb HD.out hp
  have L2 := hid_ (show LgB w.heap.size w wb gl w.heap.size X2 (newD 1048576) 1048576 [] from l2')
  clear hp l2'
  go_wp2_with fail
  obtain ⟨gd, hgd⟩ : ∃ gd, gd = w.heap.size := ⟨_, rfl⟩
  rw [← hgd]
  have HS0 := hid_ (show LgB w.heap.size w wb gl gd X2 (newD 1048576) 1048576 [] by rw [hgd]; exact L2.out)
  have HL0 := hid_ (show ls.length ≤ 40 by have := HLen.out; omega)
  clear hgd HNw HD HOp L2 y1 y2 y3 y4
  go_loopw [11] (fun vi wr => ∃ (i : Nat) (X : Nat → Prop) (d : DiskD) (L : List FS), i ≤ n0 ∧ vi = .int .i64 (i : Nat) ∧ Hid (LgB w.heap.size w wr gl gd X d 1048576 L) ∧ Hid (LogOk d 1048576 0 L i (i * 524)) ∧ Hid (d.armed = false ∧ d.room = 1048576 ∧ recsL L = ls.take i ∧ L.length ≤ 1)) (fun vi _ => n0 - (intOf vi).toNat)
  case atStart => exact ⟨0, X2, _, [], Nat.zero_le _, rfl, HS0, by rw [Nat.zero_mul]; exact HLk, hid_ ⟨rfl, rfl, rfl, by simp⟩⟩
  case round =>
    obtain ⟨i, X, d, L, hi, rfl, HLg, HOk, HF⟩ := hrel
    have x5 : (n0 : Int) ≤ 40 := by omega
    by_cases hlt : i < n0
    · have hiL : i < ls.length := by rw [HLen.out]; exact hlt
      obtain ⟨b, off, Ar, nr, cr, hA, hcell0, hsl0, -⟩ := HR.out.at_ hiL
      obtain ⟨r, hr⟩ : ∃ r, r = ls[i] := ⟨_, rfl⟩
      have HT := hid_ (show ls.take i ++ [r] = ls.take (i + 1) by rw [hr]; exact (List.take_succ_eq_append_getElem hiL).symm)
      rw [← hr] at hsl0
      clear hr hiL
      subst hA
      have hcell := (HLg.out.below.cell (p := ⟨b, off + i, none⟩) (lt_of_cell hcell0)).trans hcell0
      have hsl := hsl0.below HLg.out.below
      have HN := hid_ (show SlN X wr Ar nr cr r from ⟨hsl, fun a ea hne hx => by
        subst ea
        have h9 := hsl0.block hne
        have h8 := HLg.out.own _ hx
        omega⟩)
      have x1 : (i : Int) < (n0 : Int) := by omega
      have x2 : (0 : Int) ≤ (i : Int) := by omega
      have HK := hid_ hlt
      have hr9 := hsl.cap
      have hr8 := hsl.max
      by_cases h500 : 500 < nr
      · have z1 : (500 : Int) < (nr : Int) := by omega
        clear hlt
        go_wp2_with fail
        (with_reducible refine Calls.mono (ha.out _) ?_)
        rintro e w9 ⟨rfl, hbel⟩
        have HBe := hid_ (HLg.out.below.trans (hbel.mono HLg.out.size))
        clear hbel
        go_wp2_with fail
        go_ret
        exact ⟨rfl, HBe.out⟩
      · have z1 : ¬ (500 : Int) < (nr : Int) := by omega
        have HAp := hid_ (HLg.out.append HOk.out Ar nr cr r HN.out (by omega))
        have HA := hid_ (HOk.out.fits HF.out.1 r (by rw [hsl.len]; omega) (by have := HL0.out; have := HLen.out; omega) (by have := HF.out.2.2.2; omega) (by rw [hsl.len, HF.out.2.1]; have := HL0.out; have := HLen.out; omega))
        have HSm := hid_ (show r.length ≤ 500 by rw [hsl.len]; omega)
        have HKeep := hid_ (show L.length ≤ 1 ∧ (L.length = 1 → ∀ f ∈ L, (f.all.length : Int) < 1048576) from ⟨HF.out.2.2.2, fun h7 f hf => by
          obtain ⟨j, hj, rfl⟩ := List.mem_iff_getElem.1 hf
          obtain ⟨ff, h6⟩ := HOk.out.has j hj
          have h5 := size_le_used d.F (j := 0 + j) (by have := HOk.out.top; omega)
          have h4 : sizeAt d.F (0 + j) = L[j].all.length := by unfold sizeAt; rw [h6]
          have h3 := HOk.out.used
          have := HL0.out
          have := HLen.out
          omega⟩)
        generalize appendL d 1048576 L r = R at *
        obtain ⟨k3, d3, L3⟩ := R
        simp only at *
        have hk := HA.out.k0
        subst hk
        clear hsl hlt hcell0 hsl0
        go_wp2_with fail
        (with_reducible refine Calls.mono HAp.out ?_)
        intro e w3 hp
        obtain ⟨rfl, ⟨X3, l3, -⟩, -⟩ := HLg.out.post hp
        have HLg3 := hid_ l3
        have HOk3 := hid_ (HA.out.ok.mono (U' := (i + 1) * 524) (by have := HSm.out; omega))
        have HF3 := hid_ (show d3.armed = false ∧ d3.room = 1048576 ∧ recsL L3 = ls.take (i + 1) ∧ L3.length ≤ 1 from ⟨HA.out.arm, by rw [HA.out.room]; exact HF.out.2.1, by rw [HA.out.recs, HF.out.2.2.1, HT.out], by
          rcases Nat.eq_zero_or_pos L.length with h7 | h7
          · have := HA.out.len; omega
          · have h8 : L.length = 1 := by have := HKeep.out.1; omega
            exact Nat.le_of_eq (HA.out.keep h8 (HKeep.out.2 h8))⟩)
        clear hp l3 hcell
        go_wp2_with fail
        go_roundw
        case rel => exact ⟨i + 1, X3, d3, L3, by have := HK.out; omega, by go_num, HLg3, HOk3, HF3⟩
        case measure => have := HK.out; simp [intOf]; omega
    · obtain rfl : i = n0 := by omega
      have x1 : ¬ (i : Int) < (i : Int) := by omega
      clear hlt
      obtain ⟨f, hLf⟩ : ∃ f, L = [f] := by
        have h7 := HF.out.2.2.2
        have h8 := HF.out.2.2.1
        have h9 := HLen.out
        rcases L with _ | ⟨f, _ | ⟨f2, t⟩⟩
        · have := congrArg List.length h8
          rw [List.length_take] at this
          simp [recsL] at this
          omega
        · exact ⟨f, rfl⟩
        · simp at h7
      subst hLf
      obtain ⟨Q0, hdk, -⟩ := HLg.out.dkb
      have HDk := hid_ hdk
      obtain ⟨ff, hff⟩ := HOk.out.has 0 (by simp)
      simp only [List.getElem_cons_zero, Nat.zero_add] at hff
      have hrb : readB d (0 : Nat) = f.all := by
        unfold readB
        rw [if_pos (askK_has HOk.out.up hff), show ((0 : Nat) : Int).toNat = 0 from rfl, fileAt_some hff]
      have HRd := hid_ (read_any (0 : Nat) (by omega) (by omega) gd Q0 d wr hdk.dk)
      rw [askK_has HOk.out.up hff, hrb] at HRd
      unfold RdKPost at HRd
      have HFf := hid_ hff
      have HaL := hid_ (HOk.out.all_le (i := 0) (by simp))
      clear hdk hff hrb
      go_wp2_with fail
      (with_reducible refine Calls.mono HRd.out ?_)
      rintro e wc ⟨Ab, cb, rfl, -, hbc⟩
      have HDk2 := hid_ (HDk.out.later hbc)
      clear hbc
      by_cases hcut : (f.all.length : Int) < a1
      · go_wp2_with fail
        (with_reducible refine Calls.mono (ha.out _) ?_)
        rintro e w9 ⟨rfl, hbel⟩
        have HBe := hid_ (HDk2.out.below.trans (hbel.mono HDk2.out.size))
        clear hbel
        go_wp2_with fail
        go_ret
        exact ⟨rfl, HBe.out⟩
      · obtain ⟨k, hk⟩ : ∃ k : Nat, a1 = (k : Int) := ⟨a1.toNat, by omega⟩
        subst hk
        have hkl : k ≤ f.all.length := by omega
        have hask := askK_has HOk.out.up HFf.out
        have hcK : cutK d (0 : Nat) (k : Nat) = 0 := by
          unfold cutK
          rw [if_pos hask, show ((0 : Nat) : Int).toNat = 0 from rfl, fileAt_some HFf.out, if_neg ?_]
          rintro (h1 | h1)
          · omega
          · have h2 : (f.all.length : Int) < (k : Nat) := h1
            omega
        have hcD : cutD d (0 : Nat) (k : Nat) = withF d (firstF d.F 0 k) := by
          unfold cutD
          rw [if_pos ⟨hcK, hask⟩]
          rfl
        have HCu := hid_ (cut_any (0 : Nat) (k : Nat) (by omega) (by omega) gd Q0 d wc HDk2.out.dk)
        rw [hcK, hcD] at HCu
        have HKl := hid_ hkl
        clear hcK hcD hask hkl
        go_wp2_with fail
        (with_reducible refine Calls.mono HCu.out ?_)
        intro e wd hp
        obtain ⟨rfl, ⟨Q2, d2, -⟩, -⟩ := HDk2.out.post hp
        have HD2 := hid_ d2
        have hcut2 := cut_ok HOk.out (d := withF d (firstF d.F 0 k)) d2.dk.ok HOk.out.up (fun j hj => by
          show setF d.F 0 (some ⟨(fileAt d.F 0).all.take k, k⟩) j = none
          rw [setF_other _ _ hj]
          exact HOk.out.rest j (.inr (by simp; omega))) (k := k) (ff := k) HKl.out (by
          show setF d.F 0 (some ⟨(fileAt d.F 0).all.take k, k⟩) 0 = _
          rw [setF_same, fileAt_some HFf.out])
        obtain ⟨hdok, jj, hcok⟩ := hcut2
        have HOp := hid_ (open_any gd Q2 (withF d (firstF d.F 0 k)) 1048576 (by decide) (by decide) 0 1 (fun _ => f.all.take k) wd d2.dk hdok)
        have HCo := hid_ hcok
        have HFd := hid_ (show (withF d (firstF d.F 0 k)).armed = false ∧ (withF d (firstF d.F 0 k)).room = 1048576 from ⟨HF.out.1, HF.out.2.1⟩)
        clear hp d2 hdok hcok hcut
        generalize openD (withF d (firstF d.F 0 k)) 0 1 (fun _ => f.all.take k) = d5 at *
        generalize openL 0 1 (fun _ => f.all.take k) = L5 at *
        generalize withF d (firstF d.F 0 k) = d4 at *
        go_wp2_with fail
        (with_reducible refine Calls.mono HOp.out ?_)
        intro e we hp
        obtain ⟨gx, rfl, ⟨X5, l5, -⟩, -⟩ := open_lgb HD2.out hp
        have L5g := hid_ l5
        clear hp l5
        have hrecs : f.recs = ls := by
          have h7 := HF.out.2.2.1
          unfold recsL at h7
          simp only [List.map_cons, List.map_nil, List.flatten_cons, List.flatten_nil, List.append_nil] at h7
          rw [h7, List.take_of_length_le (by rw [HLen.out]; exact Nat.le_refl _)]
        have HOk5 := hid_ (HCo.out.ok 1000 (by have := HOk.out.bnd 0 (by simp); simp only [List.getElem_cons_zero] at this; have := HL0.out; omega) (by omega))
        have HR5 := hid_ (show recsL L5 = ls.take jj by rw [HCo.out.recs, hrecs])
        have HJ := hid_ (show jj ≤ i ∧ (k = f.all.length → jj = i) from ⟨by have := HCo.out.le; rw [hrecs, HLen.out] at this; exact this, fun h7 => by have := HCo.out.whole h7; rw [hrecs, HLen.out] at this; exact this⟩)
        have HRe := hid_ (L5g.out.records2 HOk5.out)
        obtain ⟨M, hM⟩ : ∃ M, M = ls.take jj := ⟨_, rfl⟩
        rw [HR5.out, ← hM] at HRe
        have HMl := hid_ (show M.length ≤ i ∧ (k = f.all.length → M.length = i) by
          have h7 := HJ.out
          have h8 := HLen.out
          rw [hM, List.length_take]
          exact ⟨by omega, fun h9 => by have := h7.2 h9; omega⟩)
        have HMt := hid_ (show M = ls.take M.length by rw [hM, List.length_take]; rw [show min jj ls.length = jj by have := HJ.out; have := HLen.out; omega])
        have HMM := hid_ hM
        clear hrecs hM
        go_wp2_with fail
        (with_reducible refine Calls.mono HRe.out ?_)
        rintro e wf ⟨Am, cm, rfl, hom, hbf⟩
        have hwe := L5g.out.xlt
        have HLf := hid_ (L5g.out.later hbf)
        have HOm := hid_ hom
        clear hbf hom
        have hm1 : ¬ (i : Int) < (M.length : Int) := by have := HMl.out.1; omega
        have hm2 : (M.length : Int) ≤ (i : Int) := by have := HMl.out.1; omega
        have hm3 : (M.length : Int) ≤ (c0 : Int) := by omega
        have hm4 : M.length ≤ c0 := by omega
        have HSm := hid_ (sames_below _ _ _ _ _ _ wf HOm.out.1.sls (show Sls wf A0 M.length c0 M by
          have h7 := (HR.out.below HLf.out.below).upto M.length HMl.out.1
          rw [← HMt.out] at h7
          exact h7))
        have HF5 := hid_ (show d5.armed = false ∧ d5.room = 1048576 from ⟨by rw [HCo.out.arm]; exact HFd.out.1, by rw [HCo.out.room]; exact HFd.out.2⟩)
        have HU := hid_ (show f.all.length ≤ 20960 by
          have h5 := size_le_used d.F (j := 0) (by omega)
          have h4 : sizeAt d.F 0 = f.all.length := by unfold sizeAt; rw [HFf.out]
          have h3 := HOk.out.used
          have := HL0.out
          have := HLen.out
          omega)
        have HL2 := hid_ (show l2.length ≤ 500 by rw [HM.out.len]; omega)
        go_wp2_with fail
        (with_reducible refine Calls.mono HSm.out ?_)
        rintro e wg ⟨rfl, hbg⟩
        have HLg7 := hid_ (HLf.out.later hbg)
        have HT7 := hid_ (show Tn X5 wf wg from Tn.of_below hbg)
        clear hbg
        have HAp := hid_ (HLg7.out.append HOk5.out a2 len2 cap2 l2 ⟨HM.out.below HLg7.out.below, fun a ea hne hx => by
          subst ea
          have h9 := HM.out.block hne
          have h8 := HLg7.out.own _ hx
          omega⟩ (by omega))
        have HA5 := hid_ (HOk5.out.fits HF5.out.1 l2 (by have := HL2.out; omega) (by omega) (by have := HCo.out.len; omega) (by rw [HF5.out.2]; have := HU.out; have := HL2.out; omega))
        generalize appendL d5 1048576 L5 l2 = R at *
        obtain ⟨k6, d6, L6⟩ := R
        simp only at *
        have hk6 := HA5.out.k0
        subst hk6
        by_cases hkk : k = f.all.length
        · have hq1 : ((k : Int) == (f.all.length : Int)) = true := by rw [hkk]; simp
          have hq2 : ((M.length : Int) != (i : Int)) = false := by rw [HMl.out.2 hkk]; simp
          have hq3 : (M.length != i) = false := by rw [HMl.out.2 hkk]; simp
          clear hkk
          go_wp2_with fail
          (with_reducible refine Calls.mono HAp.out ?_)
          intro e wh hp
          obtain ⟨rfl, ⟨X6, l6, hx6, -⟩, t6⟩ := HLg7.out.post hp
          have HLg8 := hid_ l6
          have HT8 := hid_ (HT7.out.trans t6 (fun q hq => .inl hq))
          have HX6 := hid_ (show ∀ q, X6 q → X5 q ∨ wf.heap.size ≤ q from fun q hq => (hx6 q hq).imp id (fun h7 => Nat.le_trans HT7.out.size h7))
          clear hp l6 t6 hx6
          have HSy := hid_ (HLg8.out.sync HA5.out.ok)
          go_wp2_with fail
          (with_reducible refine Calls.mono HSy.out ?_)
          rintro e wi ⟨d7, ok7, -, -, -, hp⟩
          obtain ⟨rfl, ⟨X7, l7, hx7, -⟩, t7⟩ := HLg8.out.post hp
          have HLg9 := hid_ l7
          have HOk7 := hid_ ok7
          have HT9 := hid_ (HT8.out.trans t7 HX6.out)
          have HX7 := hid_ (show ∀ q, X7 q → X5 q ∨ wf.heap.size ≤ q from fun q hq => by
            rcases hx7 q hq with h7 | h7
            · exact HX6.out q h7
            · exact .inr (Nat.le_trans HT8.out.size h7))
          clear hp l7 t7 hx7 ok7
          obtain ⟨Q9, hdk9, hq9⟩ := HLg9.out.dkb
          have HD9 := hid_ hdk9
          have HQ9 := hid_ hq9
          have HOpY := hid_ (open_any gd Q9 d7 1048576 (by decide) (by decide) 0 L6.length (allAt L6) wi hdk9.dk (HOk7.out.disk (by decide)))
          rw [HOk7.out.open_.1, HOk7.out.open_.2] at HOpY
          clear hdk9 hq9
          go_wp2_with fail
          (with_reducible refine Calls.mono HOpY.out ?_)
          intro e wj hp
          obtain ⟨gy, rfl, ⟨X8, l8, -⟩, t8⟩ := open_lgb HD9.out hp
          have HLg10 := hid_ l8
          have HT10 := hid_ (HT9.out.trans t8 (fun q hq => HX7.out q (HQ9.out q hq)))
          clear hp l8 t8
          have HReY := hid_ (fun (W : World) (hb : Below wj.heap.size wj W) => (HLg10.out.later hb).records2 HOk7.out)
          rw [HA5.out.recs, HR5.out, ← HMM.out] at HReY
          unfold RecoPost at HReY
          rw [show (M ++ [l2]).length = M.length + 1 by simp] at HReY
          go_wp2_with fail
          (with_reducible refine Calls.mono (HReY.out wj (Below.refl _ _)) ?_)
          rintro e wk ⟨Ay, cy, rfl, hoy, hby⟩
          have HYr := hid_ hoy
          have HT11 := hid_ (HT10.out.then_below hby)
          have HLg11 := hid_ (HLg10.out.later hby)
          have HMk := hid_ (HOm.out.tn (B := we.heap.size) HT11.out (fun q hq => L5g.out.xlt q hq))
          clear hoy hby
          have HE := hid_ (ownS_lit wk)
          have HMl5 := hid_ (show M.length ≤ 40 by have := HMl.out.1; omega)
          have HSO := hid_ (slsOff_away HMk.out.1.sls ((Below.refl wk.heap.size wk).alloc (Nat.le_refl _) (.cells #[] 33)) (Value.slice (some ⟨wk.heap.size, 0, none⟩) 0 0).ownBlock (fun k hk => by cases hk <;> exact Nat.le_refl _))
          have HBw := hid_ HLg11.out.below
          go_wp2_with (first
            | (at_builtin; refine wpList_slices rfl (.tmp 157) (.tmp 158) rfl wk.heap.size (some ⟨wk.heap.size, 0, none⟩) 0 0 [] rfl HE.out Am M.length cm M rfl HSO.out M.length M (by omega) rfl (by have := HMl5.out; omega) (by simp) ?_; intro A4 c4 w4 ho' hb' hg'; have Ho4 := hid_ ho'; have Hb4 := hid_ (((Below.refl wk.heap.size wk).alloc (Nat.le_refl _) (.cells #[] 33)).trans hb'); clear ho' hb' hg')
            | (at_builtin; refine wpList_slices rfl (.tmp 159) (.tmp 161) rfl wk.heap.size A4 M.length c4 M rfl (Ho4.out.later ((Below.refl _ _).alloc (Nat.le_refl _) _)) _ 1 1 [l2] rfl (one_off _ (HM.out.below (HBw.out.trans (Hb4.out.mono HBw.out.size))) (HM.out.away _ (fun k hk => Nat.le_trans HBw.out.size (Ho4.out.from_ k hk).1))) (M.length + 1) (M ++ [l2]) rfl rfl (by have := HMl5.out; omega) (by have := Hb4.out.size; simp; omega) ?_; intro A6 c6 w6 ho' hb' hg'; have Ho6 := hid_ ho'; have Hb6 := hid_ ((Hb4.out.alloc Hb4.out.size _).trans hb'); clear ho' hb' hg')
            | fail)
          have HSm2 := hid_ (sames_below _ _ _ _ _ _ w6 (HYr.out.later Hb6.out).1.sls Ho6.out.sls)
          (with_reducible refine Calls.mono HSm2.out ?_)
          rintro e w7 ⟨rfl, hb7⟩
          have HB7 := hid_ ((HBw.out.trans (Hb6.out.mono HBw.out.size)).trans (hb7.mono (Nat.le_trans HBw.out.size Hb6.out.size)))
          clear hb7
          go_wp2_with fail
          (with_reducible refine Calls.mono (ha.out _) ?_)
          rintro e w9 ⟨rfl, hbel⟩
          have HBe := hid_ (HB7.out.trans (hbel.mono HB7.out.size))
          clear hbel
          go_wp2_with fail
          go_ret
          exact ⟨rfl, HBe.out⟩
        · have hq1 : ((k : Int) == (f.all.length : Int)) = false := by rw [beq_eq_false_iff_ne]; omega
          have hq3 : (k == f.all.length) = false := by rw [beq_eq_false_iff_ne]; exact hkk
          go_wp2_with fail
          (with_reducible refine Calls.mono HAp.out ?_)
          intro e wh hp
          obtain ⟨rfl, ⟨X6, l6, hx6, -⟩, t6⟩ := HLg7.out.post hp
          have HLg8 := hid_ l6
          have HT8 := hid_ (HT7.out.trans t6 (fun q hq => .inl hq))
          have HX6 := hid_ (show ∀ q, X6 q → X5 q ∨ wf.heap.size ≤ q from fun q hq => (hx6 q hq).imp id (fun h7 => Nat.le_trans HT7.out.size h7))
          clear hp l6 t6 hx6
          have HSy := hid_ (HLg8.out.sync HA5.out.ok)
          go_wp2_with fail
          (with_reducible refine Calls.mono HSy.out ?_)
          rintro e wi ⟨d7, ok7, -, -, -, hp⟩
          obtain ⟨rfl, ⟨X7, l7, hx7, -⟩, t7⟩ := HLg8.out.post hp
          have HLg9 := hid_ l7
          have HOk7 := hid_ ok7
          have HT9 := hid_ (HT8.out.trans t7 HX6.out)
          have HX7 := hid_ (show ∀ q, X7 q → X5 q ∨ wf.heap.size ≤ q from fun q hq => by
            rcases hx7 q hq with h7 | h7
            · exact HX6.out q h7
            · exact .inr (Nat.le_trans HT8.out.size h7))
          clear hp l7 t7 hx7 ok7
          obtain ⟨Q9, hdk9, hq9⟩ := HLg9.out.dkb
          have HD9 := hid_ hdk9
          have HQ9 := hid_ hq9
          have HOpY := hid_ (open_any gd Q9 d7 1048576 (by decide) (by decide) 0 L6.length (allAt L6) wi hdk9.dk (HOk7.out.disk (by decide)))
          rw [HOk7.out.open_.1, HOk7.out.open_.2] at HOpY
          clear hdk9 hq9
          go_wp2_with fail
          (with_reducible refine Calls.mono HOpY.out ?_)
          intro e wj hp
          obtain ⟨gy, rfl, ⟨X8, l8, -⟩, t8⟩ := open_lgb HD9.out hp
          have HLg10 := hid_ l8
          have HT10 := hid_ (HT9.out.trans t8 (fun q hq => HX7.out q (HQ9.out q hq)))
          clear hp l8 t8
          have HReY := hid_ (fun (W : World) (hb : Below wj.heap.size wj W) => (HLg10.out.later hb).records2 HOk7.out)
          rw [HA5.out.recs, HR5.out, ← HMM.out] at HReY
          unfold RecoPost at HReY
          rw [show (M ++ [l2]).length = M.length + 1 by simp] at HReY
          go_wp2_with fail
          (with_reducible refine Calls.mono (HReY.out wj (Below.refl _ _)) ?_)
          rintro e wk ⟨Ay, cy, rfl, hoy, hby⟩
          have HYr := hid_ hoy
          have HT11 := hid_ (HT10.out.then_below hby)
          have HLg11 := hid_ (HLg10.out.later hby)
          have HMk := hid_ (HOm.out.tn (B := we.heap.size) HT11.out (fun q hq => L5g.out.xlt q hq))
          clear hoy hby
          have HE := hid_ (ownS_lit wk)
          have HMl5 := hid_ (show M.length ≤ 40 by have := HMl.out.1; omega)
          have HSO := hid_ (slsOff_away HMk.out.1.sls ((Below.refl wk.heap.size wk).alloc (Nat.le_refl _) (.cells #[] 33)) (Value.slice (some ⟨wk.heap.size, 0, none⟩) 0 0).ownBlock (fun k hk => by cases hk <;> exact Nat.le_refl _))
          have HBw := hid_ HLg11.out.below
          go_wp2_with (first
            | (at_builtin; refine wpList_slices rfl (.tmp 157) (.tmp 158) rfl wk.heap.size (some ⟨wk.heap.size, 0, none⟩) 0 0 [] rfl HE.out Am M.length cm M rfl HSO.out M.length M (by omega) rfl (by have := HMl5.out; omega) (by simp) ?_; intro A4 c4 w4 ho' hb' hg'; have Ho4 := hid_ ho'; have Hb4 := hid_ (((Below.refl wk.heap.size wk).alloc (Nat.le_refl _) (.cells #[] 33)).trans hb'); clear ho' hb' hg')
            | (at_builtin; refine wpList_slices rfl (.tmp 159) (.tmp 161) rfl wk.heap.size A4 M.length c4 M rfl (Ho4.out.later ((Below.refl _ _).alloc (Nat.le_refl _) _)) _ 1 1 [l2] rfl (one_off _ (HM.out.below (HBw.out.trans (Hb4.out.mono HBw.out.size))) (HM.out.away _ (fun k hk => Nat.le_trans HBw.out.size (Ho4.out.from_ k hk).1))) (M.length + 1) (M ++ [l2]) rfl rfl (by have := HMl5.out; omega) (by have := Hb4.out.size; simp; omega) ?_; intro A6 c6 w6 ho' hb' hg'; have Ho6 := hid_ ho'; have Hb6 := hid_ ((Hb4.out.alloc Hb4.out.size _).trans hb'); clear ho' hb' hg')
            | fail)
          have HSm2 := hid_ (sames_below _ _ _ _ _ _ w6 (HYr.out.later Hb6.out).1.sls Ho6.out.sls)
          (with_reducible refine Calls.mono HSm2.out ?_)
          rintro e w7 ⟨rfl, hb7⟩
          have HB7 := hid_ ((HBw.out.trans (Hb6.out.mono HBw.out.size)).trans (hb7.mono (Nat.le_trans HBw.out.size Hb6.out.size)))
          clear hb7
          go_wp2_with fail
          (with_reducible refine Calls.mono (ha.out _) ?_)
          rintro e w9 ⟨rfl, hbel⟩
          have HBe := hid_ (HB7.out.trans (hbel.mono HB7.out.size))
          clear hbel
          go_wp2_with fail
          go_ret
          exact ⟨rfl, HBe.out⟩

set_option maxRecDepth 100000 in
theorem lifted (os : Os) (started : os.Started) (H : Type) (enc : TypeId × Value → H) :
    ReturnsInHanded {} Try.checked os 5 .any (Rows.walTornSpec.pre6 enc Try.prog Try.f5 Rows.walTornRow.domain false) (Rows.walTornSpec.post enc Try.prog Try.f5 false true false false) := by
  refine returnsInHanded_of_change (C := Try.checked) own started (by kernel_rfl) Try.func5
    (ChangeSpec.witness6 (enc := enc) (C := Try.checked) false ⟨#[], #[.slice none 0 0, .int .i64 0, .slice none 0 0], []⟩ 8 (by kernel_rfl) (by kernel_rfl) (by kernel_rfl) (by kernel_rfl)) ?_
  intro W base args ds gs before hval0 hW hcnd _
  have hval : ∀ (j : Nat) t v, Try.f5.params[j]? = some t → args[j]? = some v → Value.okWide Try.prog W .any base t v := hval0
  have hW' := hW
  obtain ⟨p, q, hA0, hV, rfl, hfz, hnd⟩ := hW
  have hA : DataW.TrodAll enc Try.prog W 0 (fun _ => true) true Try.f5.params.toList args.toList ds p := hA0
  rw [Try.params5] at hA hval
  obtain ⟨v0, vs0, d0, ds0, p0, q0, hargs, rfl, rfl, h0, r0⟩ := trodAll_cons hA
  obtain ⟨v1, vs1, d1, ds1, p1, q1, rfl, rfl, rfl, h1, r1⟩ := trodAll_cons r0
  obtain ⟨v2, vs2, d2, ds2, p2, q2, rfl, rfl, rfl, h2, r2⟩ := trodAll_cons r1
  obtain ⟨rfl, rfl, rfl⟩ := trodAll_nil r2
  obtain rfl : args = #[v0, v1, v2] := by cases args; simp_all
  obtain ⟨rfl, rfl⟩ := trodVars_none hV
  have k0 := h0
  have lt0 : ∀ x ∈ p0, x.block < W.heap.size := by obtain ⟨m, hm⟩ := k0; exact DataW.trod_lt m _ _ _ hm
  have w0 : SlsV W v0 := open_slsV (hval 0 32 v0 rfl rfl) h0
  obtain ⟨a1, rfl, rfl, rfl, w1⟩ := open_int Try.underlying3 (hval 1 3 v1 rfl rfl) h1
  obtain ⟨a2, len2, cap2, rfl⟩ := okWide_slice Try.underlying33 (hval 2 33 v2 rfl rfl)
  have k2 := h2
  have lt2 : ∀ x ∈ p2, x.block < W.heap.size := by obtain ⟨m, hm⟩ := k2; exact DataW.trod_lt m _ _ _ hm
  obtain ⟨z2, w2⟩ : ∃ zs, IsRow .u8 W a2 len2 cap2 zs := by
    obtain ⟨fuel, hf⟩ := h2
    rcases open_ints Try.underlying33 Try.underlying5 (by kernel_rfl) hf with ⟨hcs, _⟩ | ⟨x, l, c, zs, hcs, _, hl, hm, hz, _, hcell, hwz⟩
    · simp [Value.cells] at hcs
      obtain ⟨rfl, rfl, rfl⟩ := hcs
      exact ⟨[], .inl ⟨rfl, rfl, rfl, rfl⟩⟩
    · simp [Value.cells] at hcs
      obtain ⟨rfl, rfl, rfl⟩ := hcs
      exact ⟨zs, .inr ⟨_, rfl, hl, hm, by simpa using hz, hcell, hwz⟩⟩
  clear hA0 hval0
  refine (walk v0 a1 a2 len2 cap2 z2 W w0 w1 w2).mono fun e W' ⟨he, bel⟩ => ?_
  subst he
  exact ⟨_, rfl, _, _, _, [], _, [], hW', trodAll_mk1 (shut_bool Try.underlying4 _), (trodAll_cons_mk (Below.trod laidOut (by kernel_rfl) (of_decide_eq_true (by kernel_rfl)) k0 bel lt0) (trodAll_cons_mk (shut_int Try.underlying3 w1) (trodAll_cons_mk (Below.trod laidOut (by kernel_rfl) (of_decide_eq_true (by kernel_rfl)) k2 bel lt2) trodAll_mk0))), rfl, bel.frame _, fun h => by cases h⟩

theorem over : Rows.walTornRow.holds Try.pinned (OpenSpec.ofChange Rows.walTornSpec) :=
  OpenClaim.holds_of_wide 5 Try.f5 rfl rfl rfl rfl rfl rfl rfl ⟨rfl, rfl, rfl, rfl, rfl⟩ rfl rfl rfl rfl rfl (by kernel_rfl) Try.func5 (by kernel_rfl)
    (of_decide_eq_true (by kernel_rfl)) (by unfold Func.isWrapper; first | (rw [if_pos (by decide +kernel)]; kernel_rfl) | (rw [if_neg (by decide +kernel)]; exact ⟨rfl, rfl⟩))
    (fun os started H enc _ => lifted os started H enc)

theorem proved : Rows.WalTornSaid := over
#print axioms proved
end Go.Proofs.Ytgmeggilojcoeaa.walTorn
