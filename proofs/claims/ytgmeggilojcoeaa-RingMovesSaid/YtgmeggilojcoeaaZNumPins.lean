/-
  The library's partialInsertionSort at uint64.
-/
import Derived.Test.YtgmeggilojcoeaaZGN1
import Derived.Sort.WalkA6
import Derived.Deep.DeepCutAuto
import Derived.Deep.CutBlock
namespace Go.Proofs.Ytgmeggilojcoeaa
set_option linter.unusedSimpArgs false
set_option linter.unusedVariables false
open Go.RowKit Go.Sort
namespace Ns
set_option linter.unusedSimpArgs false
set_option linter.unusedVariables false
/-- A truth, and the row as it is to be. -/
def TPost (B : Nat) (w0 : World) (g off : Nat) (r : Array Nat × Bool) (e : Ending) (W : World) : Prop := e = .returned (.bool r.2) ∧ NSt B w0 g off r.1 W
theorem tPost_mk {B : Nat} {w0 : World} {g off : Nat} {z : Bool} {d : Array Nat} {r : Array Nat × Bool} {W : World} (h : r = (d, z)) (hs : NSt B w0 g off d W) : TPost B w0 g off r (.returned (.bool z)) W := by subst h; exact ⟨rfl, hs⟩
set_option maxRecDepth 100000 in
set_option maxHeartbeats 8000000 in
theorem pins_any (B : Nat) (w0 : World) (g off n c a b : Nat) (d : Array Nat) (w : World) (h : NSt B w0 g off d w) (hn : d.size = n) (hm : n ≤ 1000000000) (hnc : n ≤ c) (hab : a < b) (hb : b ≤ n) :
    Calls Try.prog 126 #[.slice (some ⟨g, off, none⟩) n c, .int .i64 (a : Nat), .int .i64 (b : Nat)] w (TPost B w0 g off (partialInsertionSort ltN d a b)) := by
  have HDef := hid_ (show partialInsertionSort ltN d a b = partialIns ltN a b (5 - 0) (a + 1) d from rfl)
  generalize partialInsertionSort ltN d a b = res at *
  have HN := hid_ hn
  have H0 := hid_ h
  obtain ⟨L, hL⟩ : ∃ L : Nat, b = a + L := ⟨b - a, by omega⟩
  have hLI : ((b : Int) - (a : Int)) = (L : Int) := by omega
  have HBL := hid_ hL
  clear h hn hL
  go_enter Try.func126, Try.ntmps126
  go_wp2_with fail
  go_loopw [7, 8] (fun v7 v8 wr => ∃ (i s : Nat) (dk : Array Nat), v7 = .int .i64 i ∧ v8 = .int .i64 s ∧ a < i ∧ i ≤ b ∧ s ≤ 5 ∧ Hid (dk.size = n) ∧ Hid (NSt B w0 g off dk wr) ∧ Hid (partialIns ltN a b (5 - s) i dk = res)) (fun _ v8 _ => 5 - (intOf v8).toNat)
  case atStart => exact ⟨a + 1, 0, d, by go_num, rfl, by omega, by omega, by omega, HN, H0, hid_ HDef.out.symm⟩
  case round =>
    obtain ⟨i, s, dk, rfl, rfl, hai, hib, hs5, HSk, HK, HR⟩ := hrel
    by_cases hs : s < 5
    · have e0 : decide ((s : Int) < 5) = true := decide_eq_true (by omega)
      obtain ⟨w5, hw5⟩ : ∃ w5 : World, w5 = wr := ⟨_, rfl⟩
      subst hw5
      have HS := hid_ hs
      clear hs
      go_upto_block 2 with fail
      go_cut [7] (fun v7 wc => ∃ (i1 : Nat) (wx : World), wx = wc ∧ v7 = .int .i64 i1 ∧ a < i1 ∧ i1 ≤ b ∧ Hid (NSt B w0 g off dk wx) ∧ Hid (scanSorted ltN dk b i = i1))
      case first =>
        go_wp2_with fail
        go_loopw [7] (fun v7 wi => ∃ i1 : Nat, v7 = .int .i64 i1 ∧ a < i1 ∧ i1 ≤ b ∧ Hid (NSt B w0 g off dk wi) ∧ Hid (scanSorted ltN dk b i1 = scanSorted ltN dk b i)) (fun v7 _ => b - (intOf v7).toNat)
        case atStart => exact ⟨i, rfl, hai, hib, by assumption, hid_ rfl⟩
        case round =>
          obtain ⟨i1, rfl, hai1, hib1, HK1, HU⟩ := hrel
          by_cases hle : i1 < b
          · have Hgo := hid_ (fun hp => scanSorted_go ltN dk b i1 hle hp)
            have Hend := hid_ (fun hp => scanSorted_stop ltN dk b i1 (.inr hp))
            have hc1 := HK1.out.at_ i1 (by have := HSk.out; omega)
            have hc2 := HK1.out.at_ (i1 - 1) (by have := HSk.out; omega)
            obtain ⟨x, hx⟩ : ∃ x : Nat, x = dk[i1]! := ⟨_, rfl⟩
            obtain ⟨y, hy⟩ : ∃ y : Nat, y = dk[i1 - 1]! := ⟨_, rfl⟩
            rw [← hx] at hc1
            rw [← hy] at hc2
            have HX := hid_ hx
            have HY := hid_ hy
            clear hx hy
            have m1 : (0 : Int) ≤ (i1 : Int) := by omega
            have m2 : (i1 : Int) < (n : Int) := by omega
            have m3 : (0 : Int) ≤ (i1 : Int) - 1 := by omega
            have m4 : (i1 : Int) - 1 < (n : Int) := by omega
            have m5 : (1 : Int) ≤ (i1 : Int) := by omega
            have m6 : ((i1 : Int) - 1).toNat = i1 - 1 := by omega
            have e1 : decide ((i1 : Int) < (b : Int)) = true := decide_eq_true (by omega)
            have e2 : decide (i1 < b) = true := decide_eq_true hle
            have HLE := hid_ hle
            clear hle
            cases hl : ltN x y
            · have Hlv := hid_ (fun W => less_any x y W)
              rw [hl] at Hlv
              have hp : ltN dk[i1]! dk[i1 - 1]! = false := by rw [← HX.out, ← HY.out]; exact hl
              have Hov := hid_ (Hgo.out hp)
              clear hl hp
              go_wp2_with fail
              go_quiet ((go_at_call 127; exact Calls.quiet_of_same (Hlv.out _)))
              go_wp2_with fail
              go_roundw
              case rel => exact ⟨i1 + 1, by go_num, by omega, by have := HLE.out; omega, hid_ (HK1.out.drewN _), hid_ (by rw [← Hov.out]; exact HU.out)⟩
              case measure => have := HLE.out; simp [intOf]; omega
            · have Hlv := hid_ (fun W => less_any x y W)
              rw [hl] at Hlv
              have hp : ltN dk[i1]! dk[i1 - 1]! = true := by rw [← HX.out, ← HY.out]; exact hl
              have HU2 := hid_ (show scanSorted ltN dk b i = i1 from HU.out.symm.trans (Hend.out hp))
              clear hl hp
              go_wp2_with fail
              go_quiet ((go_at_call 127; exact Calls.quiet_of_same (Hlv.out _)))
              have HE := hid_ (HK1.out.drewN nq)
              go_wp2_with fail
              go_meet
              exact ⟨i1, _, rfl, rfl, hai1, hib1, HE, HU2⟩
          · have e1 : decide ((i1 : Int) < (b : Int)) = false := decide_eq_false (by omega)
            have e2 : decide (i1 < b) = false := decide_eq_false hle
            have HU2 := hid_ (show scanSorted ltN dk b i = i1 from HU.out.symm.trans (scanSorted_stop ltN dk b i1 (.inl hle)))
            go_wp2_with fail
            go_quiet (fail)
            have HE := hid_ (HK1.out.drewN nq)
            go_wp2_with fail
            go_meet
            exact ⟨i1, _, rfl, rfl, hai1, hib1, HE, HU2⟩
      case rest =>
        obtain ⟨i1, wx, rfl, rfl, hai1, hib1, HT, HU⟩ := hcut
        by_cases hbb : i1 = b
        · subst hbb
          have e3 : ((i1 : Int) == (i1 : Int)) = true := by simp
          have HF := hid_ (show res = (dk, true) from HR.out.symm.trans (pi_true ltN a i1 s i dk HS.out HU.out))
          go_wp2_with fail
          go_ret
          exact tPost_mk HF.out HT.out
        have e3 : ((i1 : Int) == (b : Int)) = false := by simp; omega
        have e4 : (i1 == b) = false := by simp; omega
        by_cases h50 : b - a < 50
        · have e5 : decide ((L : Int) < 50) = true := decide_eq_true (by have := HBL.out; omega)
          have HF := hid_ (show res = (dk, false) from HR.out.symm.trans (pi_short ltN a b s i dk HS.out (by rw [HU.out]; exact hbb) h50))
          go_wp2_with fail
          go_ret
          exact tPost_mk HF.out HT.out
        have e5 : decide ((L : Int) < 50) = false := decide_eq_false (by have := HBL.out; omega)
        have HGO := hid_ ((pi_go ltN a b s i i1 dk HS.out HU.out hbb h50).symm.trans HR.out)
        have hi1b : i1 < b := by omega
        have hf1 := HT.out.free
        have hgl := HT.out.lt
        have HSW := hid_ (HT.out.swap (i := i1) (j := i1 - 1) (by have := HSk.out; omega) (by have := HSk.out; omega))
        have hc1 := HT.out.at_ i1 (by have := HSk.out; omega)
        have hc2 := HT.out.at_ (i1 - 1) (by have := HSk.out; omega)
        obtain ⟨x, hx⟩ : ∃ x : Nat, x = dk[i1]! := ⟨_, rfl⟩
        obtain ⟨y, hy⟩ : ∃ y : Nat, y = dk[i1 - 1]! := ⟨_, rfl⟩
        rw [← hx] at hc1
        rw [← hy] at hc2
        have HX := hid_ hx
        have HY := hid_ hy
        clear hx hy
        have m1 : (0 : Int) ≤ (i1 : Int) := by omega
        have m2 : (i1 : Int) < (n : Int) := by omega
        have m3 : (0 : Int) ≤ (i1 : Int) - 1 := by omega
        have m4 : (i1 : Int) - 1 < (n : Int) := by omega
        have m5 : (1 : Int) ≤ (i1 : Int) := by omega
        have m6 : ((i1 : Int) - 1).toNat = i1 - 1 := by omega
        have hsw := HSW.out
        rw [← HX.out, ← HY.out] at hsw
        have HSW2 := hid_ hsw
        clear hsw HSW
        have hne : ¬ i1 = i1 - 1 := by omega
        have hne2 : ¬ i1 - 1 = i1 := by omega
        go_wp2_with fail
        go_region
        have hs3 := HSW2.out
        generalize (((wx.setCell ⟨g, off + i1, none⟩ (.int .u64 (y : Nat))).setCell ⟨g, off + (i1 - 1), none⟩ (.int .u64 (x : Nat))).drew) = w3 at *
        have HS3 := hid_ hs3
        clear hs3 HSW2 hc1 hc2 hf1 hgl
        obtain ⟨d1, hd1⟩ : ∃ d1 : Array Nat, d1 = swp dk i1 (i1 - 1) := ⟨_, rfl⟩
        have HSZ := hid_ (show d1.size = n by rw [hd1, size_swp]; exact HSk.out)
        rw [← hd1] at HS3 HGO
        have HSA := HS3
        clear hd1 HX HY HT HU HR HK HSk
        go_upto_if 61 with fail
        go_cut [] (fun wc => ∃ (wx : World) (dz : Array Nat), wx = wc ∧ Hid (dz.size = n) ∧ Hid (NSt B w0 g off dz wx) ∧ Hid (dz = fixDown ltN a i1 d1))
        case first =>
          by_cases h2 : 2 ≤ i1 - a
          · have e10 : decide ((i1 : Int) - (a : Int) ≥ 2) = true := decide_eq_true (by omega)
            have e11 : decide ((2 : Int) ≤ (i1 : Int) - (a : Int)) = true := decide_eq_true (by omega)
            have HFX := hid_ (show fixDown ltN a i1 d1 = shiftDown ltN (i1 - 1) d1 from if_pos h2)
            go_wp2_with fail
            go_loopw [9] (fun v wi => ∃ (j : Nat) (dj : Array Nat), v = .int .i64 j ∧ (j ≤ i1) ∧ Hid (dj.size = n) ∧ Hid (NSt B w0 g off dj wi) ∧ Hid (shiftDown ltN j dj = shiftDown ltN (i1 - 1) d1)) (fun v _ => (intOf v).toNat)
            case atStart => exact ⟨(i1 - 1), d1, by first | go_num | (congr 1; omega), by omega, HSZ, HSA, hid_ rfl⟩
            case round =>
              obtain ⟨j, dj, rfl, hbj, HSk, HJ, HI⟩ := hrel
              by_cases hcj : 1 ≤ j
              · have Hgo := hid_ (fun hl => shiftDown_go ltN j dj hcj hl)
                have Hst := hid_ (fun hl => shiftDown_stop ltN j dj (.inr hl))
                have e6 : decide ((j : Int) ≥ 1) = true := decide_eq_true (by omega)
                have e7 : decide ((1 : Int) ≤ (j : Int)) = true := decide_eq_true (by omega)
                have e8 : decide (1 ≤ j) = true := decide_eq_true (by omega)
                have hc1 := HJ.out.at_ j (by have := HSk.out; omega)
                have hc2 := HJ.out.at_ (j - 1) (by have := HSk.out; omega)
                obtain ⟨x, hx⟩ : ∃ x : Nat, x = dj[j]! := ⟨_, rfl⟩
                obtain ⟨y, hy⟩ : ∃ y : Nat, y = dj[j - 1]! := ⟨_, rfl⟩
                rw [← hx] at hc1
                rw [← hy] at hc2
                have HX := hid_ hx
                have HY := hid_ hy
                clear hx hy
                have m1 : (0 : Int) ≤ (j : Int) := by omega
                have m2 : (j : Int) < (n : Int) := by omega
                have m3 : (0 : Int) ≤ (j : Int) - 1 := by omega
                have m4 : (j : Int) - 1 < (n : Int) := by omega
                have m5 : (1 : Int) ≤ (j : Int) := by omega
                have m6 : ((j : Int) - 1).toNat = j - 1 := by omega
                have hne : ¬ j = j - 1 := by omega
                have hne2 : ¬ j - 1 = j := by omega
                have HSWj := hid_ (fun (W : World) (hW : NSt B w0 g off dj W) => And.intro (hW.at_ j (by have := HSk.out; omega)) (And.intro (hW.at_ (j - 1) (by have := HSk.out; omega)) (hW.swap (i := j) (j := j - 1) (by have := HSk.out; omega) (by have := HSk.out; omega))))
                rw [← HX.out, ← HY.out] at HSWj
                have HC := hid_ hcj
                clear hcj
                cases hl : ltN x y
                · have Hlv := hid_ (fun W => less_any x y W)
                  rw [hl] at Hlv
                  have hp : ltN dj[j]! dj[j - 1]! = false := by rw [← HX.out, ← HY.out]; exact hl
                  have HFin := hid_ ((Hst.out hp).symm.trans HI.out)
                  clear hl hp
                  go_wp2_with fail
                  go_quiet ((go_at_call 127; exact Calls.quiet_of_same (Hlv.out _)))
                  have HE := hid_ (HJ.out.drewN nq)
                  go_wp2_with fail
                  go_meet
                  exact ⟨_, dj, rfl, HSk, HE, hid_ (HFin.out.trans HFX.out.symm)⟩
                · have Hlv := hid_ (fun W => less_any x y W)
                  rw [hl] at Hlv
                  have hp : ltN dj[j]! dj[j - 1]! = true := by rw [← HX.out, ← HY.out]; exact hl
                  have Hov := hid_ (Hgo.out hp)
                  clear hl hp
                  go_wp2_with fail
                  go_quiet ((go_at_call 127; exact Calls.quiet_of_same (Hlv.out _)))
                  have HQ := hid_ (HJ.out.drewN nq)
                  clear hc1 hc2
                  generalize wr.drewN nq = wq at *
                  obtain ⟨hc1, hc2, hsw⟩ := HSWj.out wq HQ.out
                  have HSX := hid_ hsw
                  have hf1 := HQ.out.free
                  have hgl := HQ.out.lt
                  clear hsw
                  go_wp2_with fail
                  go_region
                  go_wp2_with fail
                  go_roundw
                  case rel => exact ⟨j - 1, swp dj j (j - 1), by first | go_num | (congr 1; have := HC.out; omega), by omega, hid_ (by rw [size_swp]; exact HSk.out), HSX, hid_ (by rw [← Hov.out]; exact HI.out)⟩
                  case measure => have := HC.out; simp [intOf]; omega
              · have HFin := hid_ ((shiftDown_stop ltN j dj (.inl (by omega))).symm.trans HI.out)
                have e6 : decide ((j : Int) ≥ 1) = false := decide_eq_false (by omega)
                have e7 : decide ((1 : Int) ≤ (j : Int)) = false := decide_eq_false (by omega)
                have e8 : decide (1 ≤ j) = false := decide_eq_false (by omega)
                have HE := HJ
                go_wp2_with fail
                go_meet
                exact ⟨_, dj, rfl, HSk, HE, hid_ (HFin.out.trans HFX.out.symm)⟩
          · have e10 : decide ((i1 : Int) - (a : Int) ≥ 2) = false := decide_eq_false (by omega)
            have e11 : decide ((2 : Int) ≤ (i1 : Int) - (a : Int)) = false := decide_eq_false (by omega)
            have HFX := hid_ (show fixDown ltN a i1 d1 = d1 from if_neg h2)
            have HE := HSA
            go_wp2_with fail
            go_meet
            exact ⟨_, d1, rfl, HSZ, HE, hid_ HFX.out.symm⟩
        case rest =>
          obtain ⟨w7, d2, rfl, HSZ2, HSA2, HD2⟩ := hcut
          have HSZ := HSZ2
          have HSA := HSA2
          by_cases h2 : 2 ≤ b - i1
          · have e10 : decide ((b : Int) - (i1 : Int) ≥ 2) = true := decide_eq_true (by omega)
            have e11 : decide ((2 : Int) ≤ (b : Int) - (i1 : Int)) = true := decide_eq_true (by omega)
            have HFX := hid_ (show fixUp ltN b i1 d2 = shiftUp ltN b (i1 + 1) d2 from if_pos h2)
            go_wp2_with fail
            go_loopw [10] (fun v wi => ∃ (j : Nat) (dj : Array Nat), v = .int .i64 j ∧ (a < j ∧ j ≤ b) ∧ Hid (dj.size = n) ∧ Hid (NSt B w0 g off dj wi) ∧ Hid (shiftUp ltN b j dj = shiftUp ltN b (i1 + 1) d2)) (fun v _ => b - (intOf v).toNat)
            case atStart => exact ⟨(i1 + 1), d2, by first | go_num | (congr 1; omega), ⟨by omega, by omega⟩, HSZ, HSA, hid_ rfl⟩
            case round =>
              obtain ⟨j, dj, rfl, hbj, HSk, HJ, HI⟩ := hrel
              by_cases hcj : j < b
              · have Hgo := hid_ (fun hl => shiftUp_go ltN b j dj hcj hl)
                have Hst := hid_ (fun hl => shiftUp_stop ltN b j dj (.inr hl))
                have e6 : decide ((j : Int) < (b : Int)) = true := decide_eq_true (by omega)
                have e8 : decide (j < b) = true := decide_eq_true (by omega)
                have hc1 := HJ.out.at_ j (by have := HSk.out; omega)
                have hc2 := HJ.out.at_ (j - 1) (by have := HSk.out; omega)
                obtain ⟨x, hx⟩ : ∃ x : Nat, x = dj[j]! := ⟨_, rfl⟩
                obtain ⟨y, hy⟩ : ∃ y : Nat, y = dj[j - 1]! := ⟨_, rfl⟩
                rw [← hx] at hc1
                rw [← hy] at hc2
                have HX := hid_ hx
                have HY := hid_ hy
                clear hx hy
                have m1 : (0 : Int) ≤ (j : Int) := by omega
                have m2 : (j : Int) < (n : Int) := by omega
                have m3 : (0 : Int) ≤ (j : Int) - 1 := by omega
                have m4 : (j : Int) - 1 < (n : Int) := by omega
                have m5 : (1 : Int) ≤ (j : Int) := by omega
                have m6 : ((j : Int) - 1).toNat = j - 1 := by omega
                have hne : ¬ j = j - 1 := by omega
                have hne2 : ¬ j - 1 = j := by omega
                have HSWj := hid_ (fun (W : World) (hW : NSt B w0 g off dj W) => And.intro (hW.at_ j (by have := HSk.out; omega)) (And.intro (hW.at_ (j - 1) (by have := HSk.out; omega)) (hW.swap (i := j) (j := j - 1) (by have := HSk.out; omega) (by have := HSk.out; omega))))
                rw [← HX.out, ← HY.out] at HSWj
                have HC := hid_ hcj
                clear hcj
                cases hl : ltN x y
                · have Hlv := hid_ (fun W => less_any x y W)
                  rw [hl] at Hlv
                  have hp : ltN dj[j]! dj[j - 1]! = false := by rw [← HX.out, ← HY.out]; exact hl
                  have HFin := hid_ ((Hst.out hp).symm.trans HI.out)
                  clear hl hp
                  go_wp2_with fail
                  go_quiet ((go_at_call 127; exact Calls.quiet_of_same (Hlv.out _)))
                  have HE := hid_ (HJ.out.drewN nq)
                  go_wp2_with fail
                  go_roundw
                  case rel => exact ⟨i1, s + 1, dj, rfl, by go_num, by omega, by omega, by have := HS.out; omega, HSk, HE, hid_ (by rw [(HFin.out.trans HFX.out.symm), HD2.out]; exact HGO.out)⟩
                  case measure => have := HS.out; simp [intOf]; omega
                · have Hlv := hid_ (fun W => less_any x y W)
                  rw [hl] at Hlv
                  have hp : ltN dj[j]! dj[j - 1]! = true := by rw [← HX.out, ← HY.out]; exact hl
                  have Hov := hid_ (Hgo.out hp)
                  clear hl hp
                  go_wp2_with fail
                  go_quiet ((go_at_call 127; exact Calls.quiet_of_same (Hlv.out _)))
                  have HQ := hid_ (HJ.out.drewN nq)
                  clear hc1 hc2
                  generalize wr.drewN nq = wq at *
                  obtain ⟨hc1, hc2, hsw⟩ := HSWj.out wq HQ.out
                  have HSX := hid_ hsw
                  have hf1 := HQ.out.free
                  have hgl := HQ.out.lt
                  clear hsw
                  go_wp2_with fail
                  go_region
                  go_wp2_with fail
                  go_roundw
                  case rel => exact ⟨j + 1, swp dj j (j - 1), by first | go_num | (congr 1; have := HC.out; omega), ⟨by omega, by have := HC.out; omega⟩, hid_ (by rw [size_swp]; exact HSk.out), HSX, hid_ (by rw [← Hov.out]; exact HI.out)⟩
                  case measure => have := HC.out; simp [intOf]; omega
              · have HFin := hid_ ((shiftUp_stop ltN b j dj (.inl (by omega))).symm.trans HI.out)
                have e6 : decide ((j : Int) < (b : Int)) = false := decide_eq_false (by omega)
                have e8 : decide (j < b) = false := decide_eq_false (by omega)
                have HE := HJ
                go_wp2_with fail
                go_roundw
                case rel => exact ⟨i1, s + 1, dj, rfl, by go_num, by omega, by omega, by have := HS.out; omega, HSk, HE, hid_ (by rw [(HFin.out.trans HFX.out.symm), HD2.out]; exact HGO.out)⟩
                case measure => have := HS.out; simp [intOf]; omega
          · have e10 : decide ((b : Int) - (i1 : Int) ≥ 2) = false := decide_eq_false (by omega)
            have e11 : decide ((2 : Int) ≤ (b : Int) - (i1 : Int)) = false := decide_eq_false (by omega)
            have HFX := hid_ (show fixUp ltN b i1 d2 = d2 from if_neg h2)
            have HE := HSA
            go_wp2_with fail
            go_roundw
            case rel => exact ⟨i1, s + 1, d2, rfl, by go_num, by omega, by omega, by have := HS.out; omega, HSZ, HE, hid_ (by rw [HFX.out.symm, HD2.out]; exact HGO.out)⟩
            case measure => have := HS.out; simp [intOf]; omega
    · obtain rfl : s = 5 := by omega
      have HF := hid_ (show res = (dk, false) by rw [← HR.out, pi_end])
      go_wp2_with fail
      go_ret
      exact tPost_mk HF.out HK.out
end Ns
end Go.Proofs.Ytgmeggilojcoeaa
