/-
  The library's partition at uint64.
-/
import Derived.Test.YtgmeggilojcoeaaZGN1
import Derived.Sort.WalkC4
import Derived.Deep.DeepCutAuto
import Derived.Deep.CutBlock
namespace Go.Proofs.Ytgmeggilojcoeaa
set_option linter.unusedSimpArgs false
set_option linter.unusedVariables false
open Go.RowKit Go.Sort
namespace Ns
set_option linter.unusedSimpArgs false
set_option linter.unusedVariables false
theorem le_scanUp (p : Nat → Bool) (d : Array Nat) (j : Nat) : ∀ (m i : Nat), j + 1 - i ≤ m → i ≤ scanUp p d j i
  | 0, i, h => by rw [scanUp_end p d j i (.inl (by omega))]; exact Nat.le_refl _
  | m + 1, i, h => by
    by_cases hc : i ≤ j ∧ p d[i]! = true
    · rw [scanUp_go p d j i hc.1 hc.2]
      have := le_scanUp p d j m (i + 1) (by omega)
      omega
    · rw [scanUp_end p d j i (by
        rcases Nat.lt_or_ge j i with h1 | h1
        · exact .inl (by omega)
        · right
          cases hx : p d[i]!
          · rfl
          · exact absurd ⟨h1, hx⟩ hc)]
      exact Nat.le_refl _
/-- A number and a truth, and the row as it is to be. -/
def PPost (B : Nat) (w0 : World) (g off : Nat) (r : Nat × Bool × Array Nat) (e : Ending) (W : World) : Prop := e = .returned (.tuple #[.int .i64 (r.1 : Nat), .bool r.2.1]) ∧ NSt B w0 g off r.2.2 W
theorem pPost_mk {B : Nat} {w0 : World} {g off m : Nat} {z : Bool} {d : Array Nat} {r : Nat × Bool × Array Nat} {W : World} (h : r = (m, z, d)) (hs : NSt B w0 g off d W) : PPost B w0 g off r (.returned (.tuple #[.int .i64 (m : Nat), .bool z])) W := by subst h; exact ⟨rfl, hs⟩
set_option maxRecDepth 100000 in
set_option maxHeartbeats 8000000 in
theorem part_any (B : Nat) (w0 : World) (g off n c a b p : Nat) (d : Array Nat) (w : World) (h : NSt B w0 g off d w) (hn : d.size = n) (hm : n ≤ 1000000000) (hnc : n ≤ c) (hap : a < p) (hpb : p < b) (hb : b ≤ n) :
    Calls Try.prog 129 #[.slice (some ⟨g, off, none⟩) n c, .int .i64 (a : Nat), .int .i64 (b : Nat), .int .i64 (p : Nat)] w (PPost B w0 g off (partition ltN d a b p)) := by
  have HD0 := hid_ (show swp d a p = swp d a p from rfl)
  have HN := hid_ (show (swp d a p).size = n by rw [size_swp]; exact hn)
  have hc1 := h.at_ a (by omega)
  have hc2 := h.at_ p (by omega)
  have hf1 := h.free
  have hgl := h.lt
  have HS := hid_ (h.swap (i := a) (j := p) (by omega) (by omega))
  obtain ⟨d1, hd1⟩ : ∃ d1 : Array Nat, d1 = swp d a p := ⟨_, rfl⟩
  rw [← hd1] at HN HS
  have HD1 := hid_ hd1
  clear hd1 HD0
  generalize d[a]! = x at hc1 HS
  generalize d[p]! = y at hc2 HS
  have m1 : (0 : Int) ≤ (a : Int) := by omega
  have m2 : (a : Int) < (n : Int) := by omega
  have m3 : (0 : Int) ≤ (p : Int) := by omega
  have m4 : (p : Int) < (n : Int) := by omega
  have hne : ¬ a = p := by omega
  have hne2 : ¬ p = a := by omega
  clear h hn
  go_enter Try.func129, Try.ntmps129
  go_wp2_with fail
  go_region
  have hs := HS.out
  generalize (((w.setCell ⟨g, off + a, none⟩ (.int .u64 (y : Nat))).setCell ⟨g, off + p, none⟩ (.int .u64 (x : Nat))).drew) = wq at *
  have HQ := hid_ hs
  clear hs HS hc1 hc2 hf1 hgl
  obtain ⟨jb, hjb⟩ : ∃ jb : Nat, jb = b - 1 := ⟨_, rfl⟩
  have hjI : (b : Int) - 1 = (jb : Int) := by omega
  have hjn : jb + 1 = b := by omega
  have HJB := hid_ hjn
  have hjlt : jb < n := by omega
  have hajb : a < jb := by omega
  clear hjb hjn
  go_upto_block 0 with fail
  go_cut [10] (fun v10 wc => ∃ (i1 : Nat) (wx : World), wx = wc ∧ v10 = .int .i64 i1 ∧ a < i1 ∧ i1 ≤ jb + 1 ∧ Hid (NSt B w0 g off d1 wx) ∧ Hid (i1 = scanUp (fun x => ltN x d1[a]!) d1 jb (a + 1)))
  case first =>
    go_wp2_with fail
    go_loopw [10] (fun v9 wi => ∃ i1 : Nat, v9 = .int .i64 i1 ∧ a < i1 ∧ i1 ≤ jb + 1 ∧ Hid (NSt B w0 g off d1 wi) ∧ Hid (scanUp (fun x => ltN x d1[a]!) d1 jb i1 = scanUp (fun x => ltN x d1[a]!) d1 jb (a + 1))) (fun v9 _ => jb + 1 - (intOf v9).toNat)
    case atStart => exact ⟨(a + 1), by first | rfl | go_num, by omega, by omega, by assumption, hid_ rfl⟩
    case round =>
      obtain ⟨i1, rfl, hai1, hij1, HK1, HU⟩ := hrel
      by_cases hle : i1 ≤ jb
      · have hc1 := HK1.out.at_ a (by have := HN.out; omega)
        have hc2 := HK1.out.at_ i1 (by have := HN.out; omega)
        have Hgo := hid_ (fun hp => scanUp_go (fun x => ltN x d1[a]!) d1 jb i1 hle hp)
        have Hend := hid_ (fun hp => scanUp_end (fun x => ltN x d1[a]!) d1 jb i1 (.inr hp))
        obtain ⟨x, hx⟩ : ∃ x : Nat, x = d1[a]! := ⟨_, rfl⟩
        obtain ⟨y, hy⟩ : ∃ y : Nat, y = d1[i1]! := ⟨_, rfl⟩
        rw [← hx] at hc1
        rw [← hy] at hc2
        have HX := hid_ hx
        have HY := hid_ hy
        clear hx hy
        have e1 : decide ((i1 : Int) ≤ (jb : Int)) = true := decide_eq_true (by omega)
        have e2 : decide (i1 ≤ jb) = true := decide_eq_true hle
        have k1 : (0 : Int) ≤ (i1 : Int) := by omega
        have k2 : (i1 : Int) < (n : Int) := by omega
        have HLE := hid_ hle
        clear hle
        cases hl : ltN y x
        · have Hlv := hid_ (fun W => less_any y x W)
          rw [hl] at Hlv
          have hp : ltN d1[i1]! d1[a]! = false := by rw [← HX.out, ← HY.out]; exact hl
          have HU2 := hid_ (show i1 = scanUp (fun x => ltN x d1[a]!) d1 jb (a + 1) from (Hend.out hp).symm.trans HU.out)
          clear hl hp
          go_wp2_with fail
          go_quiet ((go_at_call 127; exact Calls.quiet_of_same (Hlv.out _)))
          have HE := hid_ (HK1.out.drewN nq)
          go_wp2_with fail
          go_meet
          exact ⟨i1, _, rfl, rfl, hai1, hij1, HE, HU2⟩
        · have Hlv := hid_ (fun W => less_any y x W)
          rw [hl] at Hlv
          have hp : ltN d1[i1]! d1[a]! = true := by rw [← HX.out, ← HY.out]; exact hl
          have Hov := hid_ (Hgo.out hp)
          clear hl hp
          go_wp2_with fail
          go_quiet ((go_at_call 127; exact Calls.quiet_of_same (Hlv.out _)))
          go_wp2_with fail
          go_roundw
          case rel => exact ⟨i1 + 1, by go_num, by omega, by have := HLE.out; omega, hid_ (HK1.out.drewN _), hid_ (by rw [← Hov.out]; exact HU.out)⟩
          case measure => have := HLE.out; simp [intOf]; omega
      · have e1 : decide ((i1 : Int) ≤ (jb : Int)) = false := decide_eq_false (by omega)
        have e2 : decide (i1 ≤ jb) = false := decide_eq_false hle
        have HU2 := hid_ (show i1 = scanUp (fun x => ltN x d1[a]!) d1 jb (a + 1) from (scanUp_end (fun x => ltN x d1[a]!) d1 jb i1 (.inl hle)).symm.trans HU.out)
        go_wp2_with fail
        go_quiet (fail)
        have HE := hid_ (HK1.out.drewN nq)
        go_wp2_with fail
        go_meet
        exact ⟨i1, _, rfl, rfl, hai1, hij1, HE, HU2⟩
  case rest =>
    obtain ⟨i1, wx, rfl, rfl, hai1, hij1, HW1, HU⟩ := hcut
    go_upto_block 2 with fail
    go_cut [11] (fun v11 wc => ∃ (j1 : Nat) (wx : World), wx = wc ∧ v11 = .int .i64 j1 ∧ i1 ≤ j1 + 1 ∧ j1 ≤ jb ∧ Hid (NSt B w0 g off d1 wx) ∧ Hid (j1 = scanDown (fun x => !ltN x d1[a]!) d1 i1 jb))
    case first =>
      go_wp2_with fail
      go_loopw [11] (fun v10 wi => ∃ j1 : Nat, v10 = .int .i64 j1 ∧ i1 ≤ j1 + 1 ∧ j1 ≤ jb ∧ Hid (NSt B w0 g off d1 wi) ∧ Hid (scanDown (fun x => !ltN x d1[a]!) d1 i1 j1 = scanDown (fun x => !ltN x d1[a]!) d1 i1 jb)) (fun v10 _ => (intOf v10).toNat)
      case atStart => exact ⟨jb, rfl, by omega, Nat.le_refl _, by assumption, hid_ rfl⟩
      case round =>
        obtain ⟨j1, rfl, hij1', hjj, HK2, HD⟩ := hrel
        by_cases hle : i1 ≤ j1
        · have hc1 := HK2.out.at_ a (by have := HN.out; omega)
          have hc2 := HK2.out.at_ j1 (by have := HN.out; omega)
          have Hgo := hid_ (fun hp => scanDown_go (fun x => !ltN x d1[a]!) d1 i1 j1 hle (by omega) hp)
          have Hend := hid_ (fun hp => scanDown_end (fun x => !ltN x d1[a]!) d1 i1 j1 (.inr hp))
          obtain ⟨x, hx⟩ : ∃ x : Nat, x = d1[a]! := ⟨_, rfl⟩
          obtain ⟨y, hy⟩ : ∃ y : Nat, y = d1[j1]! := ⟨_, rfl⟩
          rw [← hx] at hc1
          rw [← hy] at hc2
          have HX := hid_ hx
          have HY := hid_ hy
          clear hx hy
          have e1 : decide ((i1 : Int) ≤ (j1 : Int)) = true := decide_eq_true (by omega)
          have e2 : decide (i1 ≤ j1) = true := decide_eq_true hle
          have k1 : (0 : Int) ≤ (j1 : Int) := by omega
          have k2 : (j1 : Int) < (n : Int) := by omega
          have HLE := hid_ hle
          clear hle
          cases hl : ltN y x
          · have Hlv := hid_ (fun W => less_any y x W)
            rw [hl] at Hlv
            have hp : (!ltN d1[j1]! d1[a]!) = true := by rw [← HX.out, ← HY.out, hl]; rfl
            have Hov := hid_ (Hgo.out hp)
            clear hl hp
            go_wp2_with fail
            go_quiet ((go_at_call 127; exact Calls.quiet_of_same (Hlv.out _)))
            go_wp2_with fail
            go_roundw
            case rel => exact ⟨j1 - 1, by first | go_num | (congr 1; have := HLE.out; omega), by have := HLE.out; omega, by omega, hid_ (HK2.out.drewN _), hid_ (by rw [← Hov.out]; exact HD.out)⟩
            case measure => have := HLE.out; simp [intOf]; omega
          · have Hlv := hid_ (fun W => less_any y x W)
            rw [hl] at Hlv
            have hp : (!ltN d1[j1]! d1[a]!) = false := by rw [← HX.out, ← HY.out, hl]; rfl
            have HD2 := hid_ (show j1 = scanDown (fun x => !ltN x d1[a]!) d1 i1 jb from (Hend.out hp).symm.trans HD.out)
            clear hl hp
            go_wp2_with fail
            go_quiet ((go_at_call 127; exact Calls.quiet_of_same (Hlv.out _)))
            have HE := hid_ (HK2.out.drewN nq)
            go_wp2_with fail
            go_meet
            exact ⟨j1, _, rfl, rfl, hij1', hjj, HE, HD2⟩
        · have e1 : decide ((i1 : Int) ≤ (j1 : Int)) = false := decide_eq_false (by omega)
          have e2 : decide (i1 ≤ j1) = false := decide_eq_false hle
          have HD2 := hid_ (show j1 = scanDown (fun x => !ltN x d1[a]!) d1 i1 jb from (scanDown_end (fun x => !ltN x d1[a]!) d1 i1 j1 (.inl hle)).symm.trans HD.out)
          go_wp2_with fail
          go_quiet (fail)
          have HE := hid_ (HK2.out.drewN nq)
          go_wp2_with fail
          go_meet
          exact ⟨j1, _, rfl, rfl, hij1', hjj, HE, HD2⟩
    case rest =>
      obtain ⟨j1, wx, rfl, rfl, hij1', hjj, HT, HD⟩ := hcut
      by_cases hbr : j1 < i1
      · have e5 : decide ((i1 : Int) > (j1 : Int)) = true := decide_eq_true (by omega)
        have e6 : decide ((j1 : Int) < (i1 : Int)) = true := decide_eq_true (by omega)
        have e7 : decide (j1 < i1) = true := decide_eq_true hbr
        have HRes := hid_ (part_first_break (lt := ltN) d a b p rfl (show jb = b - 1 by have := HJB.out; omega) HD1.out HU.out HD.out hbr)
        have HF := HRes
        by_cases hja : j1 = a
        · subst hja
          have g1 := HT.out.at_ j1 (by have := HN.out; omega)
          have hf1 := HT.out.free
          have hgl := HT.out.lt
          have HSW := hid_ (HT.out.swap (i := j1) (j := j1) (by have := HN.out; omega) (by have := HN.out; omega))
          obtain ⟨u, hu⟩ : ∃ u : Nat, u = d1[j1]! := ⟨_, rfl⟩
          rw [← hu] at g1 HSW
          clear hu
          have k1 : (0 : Int) ≤ (j1 : Int) := by omega
          have k2 : (j1 : Int) < (n : Int) := by omega
          go_wp2_with fail
          go_region
          all_goals
            go_wp2_with fail
            go_ret2
            exact pPost_mk HF.out HSW.out
        · have g1 := HT.out.at_ j1 (by have := HN.out; omega)
          have g2 := HT.out.at_ a (by have := HN.out; omega)
          have hf1 := HT.out.free
          have hgl := HT.out.lt
          have HSW := hid_ (HT.out.swap (i := j1) (j := a) (by have := HN.out; omega) (by have := HN.out; omega))
          obtain ⟨u, hu⟩ : ∃ u : Nat, u = d1[j1]! := ⟨_, rfl⟩
          obtain ⟨v, hv⟩ : ∃ v : Nat, v = d1[a]! := ⟨_, rfl⟩
          rw [← hu] at g1 HSW
          rw [← hv] at g2 HSW
          clear hu hv
          have hja2 : ¬ a = j1 := by omega
          have k1 : (0 : Int) ≤ (j1 : Int) := by omega
          have k2 : (j1 : Int) < (n : Int) := by omega
          go_wp2_with fail
          go_region
          all_goals
            go_wp2_with fail
            go_ret2
            exact pPost_mk HF.out HSW.out
      · have e5 : decide ((i1 : Int) > (j1 : Int)) = false := decide_eq_false (by omega)
        have e6 : decide ((j1 : Int) < (i1 : Int)) = false := decide_eq_false (by omega)
        have e7 : decide (j1 < i1) = false := decide_eq_false hbr
        have HRes := hid_ (part_first_go (lt := ltN) d a b p rfl (show jb = b - 1 by have := HJB.out; omega) HD1.out HU.out HD.out (by omega))
        have hlt := part_scans_lt ltN a (a + 1) jb d1 (by omega) HU.out HD.out (by omega)
        have g1 := HT.out.at_ i1 (by have := HN.out; omega)
        have g2 := HT.out.at_ j1 (by have := HN.out; omega)
        have hf1 := HT.out.free
        have hgl := HT.out.lt
        have HSW := hid_ (HT.out.swap (i := i1) (j := j1) (by have := HN.out; omega) (by have := HN.out; omega))
        obtain ⟨u, hu⟩ : ∃ u : Nat, u = d1[i1]! := ⟨_, rfl⟩
        obtain ⟨v, hv⟩ : ∃ v : Nat, v = d1[j1]! := ⟨_, rfl⟩
        rw [← hu] at g1 HSW
        rw [← hv] at g2 HSW
        clear hu hv
        have hne : ¬ i1 = j1 := by omega
        have hne2 : ¬ j1 = i1 := by omega
        have k1 : (0 : Int) ≤ (i1 : Int) := by omega
        have k2 : (i1 : Int) < (n : Int) := by omega
        have k3 : (0 : Int) ≤ (j1 : Int) := by omega
        have k4 : (j1 : Int) < (n : Int) := by omega
        have HLT := hid_ hlt
        clear hlt
        go_wp2_with fail
        go_region
        obtain ⟨d2, hd2⟩ : ∃ d2 : Array Nat, d2 = swp d1 i1 j1 := ⟨_, rfl⟩
        have HN2 := hid_ (show d2.size = n by rw [hd2, size_swp]; exact HN.out)
        rw [← hd2] at HSW HRes
        have hs := HSW.out
        generalize (((wx.setCell ⟨g, off + i1, none⟩ (.int .u64 (v : Nat))).setCell ⟨g, off + j1, none⟩ (.int .u64 (u : Nat))).drew) = w3 at *
        have HS3 := hid_ hs
        clear hs HSW hd2 g1 g2 hf1 hgl
        go_wp2_with fail
        go_loopw [10, 11] (fun v10 v11 wr => ∃ (i j : Nat) (dk : Array Nat), v10 = .int .i64 i ∧ v11 = .int .i64 j ∧ a < i ∧ i ≤ j + 1 ∧ j ≤ jb ∧ Hid (dk.size = n) ∧ Hid (NSt B w0 g off dk wr) ∧ Hid (partLoop ltN a i j dk = partLoop ltN a (i1 + 1) (j1 - 1) d2)) (fun v10 v11 _ => (intOf v11 + 1 - intOf v10).toNat)
        case atStart => exact ⟨i1 + 1, j1 - 1, d2, by go_num, by first | go_num | (congr 1; have := HLT.out; omega), by omega, by have := HLT.out; omega, by omega, HN2, HS3, hid_ rfl⟩
        case round =>
          obtain ⟨i, j, dk, rfl, rfl, hai, hij, hjb2, HSk, HK, HR⟩ := hrel
          obtain ⟨w5, hw5⟩ : ∃ w5 : World, w5 = wr := ⟨_, rfl⟩
          subst hw5
          have hjn2 : j < n := by omega
          go_upto_block 6 with fail
          go_cut [10] (fun v10 wc => ∃ (i2 : Nat) (wx : World), wx = wc ∧ v10 = .int .i64 i2 ∧ a < i2 ∧ i2 ≤ j + 1 ∧ Hid (NSt B w0 g off dk wx) ∧ Hid (i2 = scanUp (fun x => ltN x dk[a]!) dk j i))
          case first =>
            go_wp2_with fail
            go_loopw [10] (fun v9 wi => ∃ i2 : Nat, v9 = .int .i64 i2 ∧ a < i2 ∧ i2 ≤ j + 1 ∧ Hid (NSt B w0 g off dk wi) ∧ Hid (scanUp (fun x => ltN x dk[a]!) dk j i2 = scanUp (fun x => ltN x dk[a]!) dk j i)) (fun v9 _ => j + 1 - (intOf v9).toNat)
            case atStart => exact ⟨i, by first | rfl | go_num, by omega, by omega, by assumption, hid_ rfl⟩
            case round =>
              obtain ⟨i2, rfl, hai1, hij1, HK1, HU⟩ := hrel
              by_cases hle : i2 ≤ j
              · have hc1 := HK1.out.at_ a (by have := HSk.out; omega)
                have hc2 := HK1.out.at_ i2 (by have := HSk.out; omega)
                have Hgo := hid_ (fun hp => scanUp_go (fun x => ltN x dk[a]!) dk j i2 hle hp)
                have Hend := hid_ (fun hp => scanUp_end (fun x => ltN x dk[a]!) dk j i2 (.inr hp))
                obtain ⟨x, hx⟩ : ∃ x : Nat, x = dk[a]! := ⟨_, rfl⟩
                obtain ⟨y, hy⟩ : ∃ y : Nat, y = dk[i2]! := ⟨_, rfl⟩
                rw [← hx] at hc1
                rw [← hy] at hc2
                have HX := hid_ hx
                have HY := hid_ hy
                clear hx hy
                have e1 : decide ((i2 : Int) ≤ (j : Int)) = true := decide_eq_true (by omega)
                have e2 : decide (i2 ≤ j) = true := decide_eq_true hle
                have k1 : (0 : Int) ≤ (i2 : Int) := by omega
                have k2 : (i2 : Int) < (n : Int) := by omega
                have HLE := hid_ hle
                clear hle
                cases hl : ltN y x
                · have Hlv := hid_ (fun W => less_any y x W)
                  rw [hl] at Hlv
                  have hp : ltN dk[i2]! dk[a]! = false := by rw [← HX.out, ← HY.out]; exact hl
                  have HU2 := hid_ (show i2 = scanUp (fun x => ltN x dk[a]!) dk j i from (Hend.out hp).symm.trans HU.out)
                  clear hl hp
                  go_wp2_with fail
                  go_quiet ((go_at_call 127; exact Calls.quiet_of_same (Hlv.out _)))
                  have HE := hid_ (HK1.out.drewN nq)
                  go_wp2_with fail
                  go_meet
                  exact ⟨i2, _, rfl, rfl, hai1, hij1, HE, HU2⟩
                · have Hlv := hid_ (fun W => less_any y x W)
                  rw [hl] at Hlv
                  have hp : ltN dk[i2]! dk[a]! = true := by rw [← HX.out, ← HY.out]; exact hl
                  have Hov := hid_ (Hgo.out hp)
                  clear hl hp
                  go_wp2_with fail
                  go_quiet ((go_at_call 127; exact Calls.quiet_of_same (Hlv.out _)))
                  go_wp2_with fail
                  go_roundw
                  case rel => exact ⟨i2 + 1, by go_num, by omega, by have := HLE.out; omega, hid_ (HK1.out.drewN _), hid_ (by rw [← Hov.out]; exact HU.out)⟩
                  case measure => have := HLE.out; simp [intOf]; omega
              · have e1 : decide ((i2 : Int) ≤ (j : Int)) = false := decide_eq_false (by omega)
                have e2 : decide (i2 ≤ j) = false := decide_eq_false hle
                have HU2 := hid_ (show i2 = scanUp (fun x => ltN x dk[a]!) dk j i from (scanUp_end (fun x => ltN x dk[a]!) dk j i2 (.inl hle)).symm.trans HU.out)
                go_wp2_with fail
                go_quiet (fail)
                have HE := hid_ (HK1.out.drewN nq)
                go_wp2_with fail
                go_meet
                exact ⟨i2, _, rfl, rfl, hai1, hij1, HE, HU2⟩
          case rest =>
            obtain ⟨i2, wx2, rfl, rfl, hai2, hij2, HW2, HU2⟩ := hcut
            go_upto_block 8 with fail
            go_cut [11] (fun v11 wc => ∃ (j2 : Nat) (wx : World), wx = wc ∧ v11 = .int .i64 j2 ∧ i2 ≤ j2 + 1 ∧ j2 ≤ j ∧ Hid (NSt B w0 g off dk wx) ∧ Hid (j2 = scanDown (fun x => !ltN x dk[a]!) dk i2 j))
            case first =>
              go_wp2_with fail
              go_loopw [11] (fun v10 wi => ∃ j2 : Nat, v10 = .int .i64 j2 ∧ i2 ≤ j2 + 1 ∧ j2 ≤ j ∧ Hid (NSt B w0 g off dk wi) ∧ Hid (scanDown (fun x => !ltN x dk[a]!) dk i2 j2 = scanDown (fun x => !ltN x dk[a]!) dk i2 j)) (fun v10 _ => (intOf v10).toNat)
              case atStart => exact ⟨j, rfl, by omega, Nat.le_refl _, by assumption, hid_ rfl⟩
              case round =>
                obtain ⟨j2, rfl, hij2', hjj, HK2, HD⟩ := hrel
                by_cases hle : i2 ≤ j2
                · have hc1 := HK2.out.at_ a (by have := HSk.out; omega)
                  have hc2 := HK2.out.at_ j2 (by have := HSk.out; omega)
                  have Hgo := hid_ (fun hp => scanDown_go (fun x => !ltN x dk[a]!) dk i2 j2 hle (by omega) hp)
                  have Hend := hid_ (fun hp => scanDown_end (fun x => !ltN x dk[a]!) dk i2 j2 (.inr hp))
                  obtain ⟨x, hx⟩ : ∃ x : Nat, x = dk[a]! := ⟨_, rfl⟩
                  obtain ⟨y, hy⟩ : ∃ y : Nat, y = dk[j2]! := ⟨_, rfl⟩
                  rw [← hx] at hc1
                  rw [← hy] at hc2
                  have HX := hid_ hx
                  have HY := hid_ hy
                  clear hx hy
                  have e1 : decide ((i2 : Int) ≤ (j2 : Int)) = true := decide_eq_true (by omega)
                  have e2 : decide (i2 ≤ j2) = true := decide_eq_true hle
                  have k1 : (0 : Int) ≤ (j2 : Int) := by omega
                  have k2 : (j2 : Int) < (n : Int) := by omega
                  have HLE := hid_ hle
                  clear hle
                  cases hl : ltN y x
                  · have Hlv := hid_ (fun W => less_any y x W)
                    rw [hl] at Hlv
                    have hp : (!ltN dk[j2]! dk[a]!) = true := by rw [← HX.out, ← HY.out, hl]; rfl
                    have Hov := hid_ (Hgo.out hp)
                    clear hl hp
                    go_wp2_with fail
                    go_quiet ((go_at_call 127; exact Calls.quiet_of_same (Hlv.out _)))
                    go_wp2_with fail
                    go_roundw
                    case rel => exact ⟨j2 - 1, by first | go_num | (congr 1; have := HLE.out; omega), by have := HLE.out; omega, by omega, hid_ (HK2.out.drewN _), hid_ (by rw [← Hov.out]; exact HD.out)⟩
                    case measure => have := HLE.out; simp [intOf]; omega
                  · have Hlv := hid_ (fun W => less_any y x W)
                    rw [hl] at Hlv
                    have hp : (!ltN dk[j2]! dk[a]!) = false := by rw [← HX.out, ← HY.out, hl]; rfl
                    have HD2 := hid_ (show j2 = scanDown (fun x => !ltN x dk[a]!) dk i2 j from (Hend.out hp).symm.trans HD.out)
                    clear hl hp
                    go_wp2_with fail
                    go_quiet ((go_at_call 127; exact Calls.quiet_of_same (Hlv.out _)))
                    have HE := hid_ (HK2.out.drewN nq)
                    go_wp2_with fail
                    go_meet
                    exact ⟨j2, _, rfl, rfl, hij2', hjj, HE, HD2⟩
                · have e1 : decide ((i2 : Int) ≤ (j2 : Int)) = false := decide_eq_false (by omega)
                  have e2 : decide (i2 ≤ j2) = false := decide_eq_false hle
                  have HD2 := hid_ (show j2 = scanDown (fun x => !ltN x dk[a]!) dk i2 j from (scanDown_end (fun x => !ltN x dk[a]!) dk i2 j2 (.inl hle)).symm.trans HD.out)
                  go_wp2_with fail
                  go_quiet (fail)
                  have HE := hid_ (HK2.out.drewN nq)
                  go_wp2_with fail
                  go_meet
                  exact ⟨j2, _, rfl, rfl, hij2', hjj, HE, HD2⟩
            case rest =>
              obtain ⟨j2, wx3, rfl, rfl, hij3, hjj2, HT2, HD2⟩ := hcut
              have HT := HT2
              by_cases hbr2 : j2 < i2
              · have e8 : decide ((i2 : Int) > (j2 : Int)) = true := decide_eq_true (by omega)
                have e9 : decide ((j2 : Int) < (i2 : Int)) = true := decide_eq_true (by omega)
                have e10 : decide (j2 < i2) = true := decide_eq_true hbr2
                have HF := hid_ (show partition ltN d a b p = (j2, false, swp dk j2 a) by rw [HRes.out, ← HR.out, part_break ltN a i j dk HU2.out HD2.out hbr2])
                by_cases hja : j2 = a
                · subst hja
                  have g1 := HT.out.at_ j2 (by have := HSk.out; omega)
                  have hf1 := HT.out.free
                  have hgl := HT.out.lt
                  have HSW := hid_ (HT.out.swap (i := j2) (j := j2) (by have := HSk.out; omega) (by have := HSk.out; omega))
                  obtain ⟨u, hu⟩ : ∃ u : Nat, u = dk[j2]! := ⟨_, rfl⟩
                  rw [← hu] at g1 HSW
                  clear hu
                  have k1 : (0 : Int) ≤ (j2 : Int) := by omega
                  have k2 : (j2 : Int) < (n : Int) := by omega
                  go_wp2_with fail
                  go_region
                  all_goals
                    go_wp2_with fail
                    go_ret2
                    exact pPost_mk HF.out HSW.out
                · have g1 := HT.out.at_ j2 (by have := HSk.out; omega)
                  have g2 := HT.out.at_ a (by have := HSk.out; omega)
                  have hf1 := HT.out.free
                  have hgl := HT.out.lt
                  have HSW := hid_ (HT.out.swap (i := j2) (j := a) (by have := HSk.out; omega) (by have := HSk.out; omega))
                  obtain ⟨u, hu⟩ : ∃ u : Nat, u = dk[j2]! := ⟨_, rfl⟩
                  obtain ⟨v, hv⟩ : ∃ v : Nat, v = dk[a]! := ⟨_, rfl⟩
                  rw [← hu] at g1 HSW
                  rw [← hv] at g2 HSW
                  clear hu hv
                  have hja2 : ¬ a = j2 := by omega
                  have k1 : (0 : Int) ≤ (j2 : Int) := by omega
                  have k2 : (j2 : Int) < (n : Int) := by omega
                  go_wp2_with fail
                  go_region
                  all_goals
                    go_wp2_with fail
                    go_ret2
                    exact pPost_mk HF.out HSW.out
              · have e8 : decide ((i2 : Int) > (j2 : Int)) = false := decide_eq_false (by omega)
                have e9 : decide ((j2 : Int) < (i2 : Int)) = false := decide_eq_false (by omega)
                have e10 : decide (j2 < i2) = false := decide_eq_false hbr2
                have hii2 : i ≤ i2 := by rw [HU2.out]; exact le_scanUp _ _ _ (j + 1 - i) i (Nat.le_refl _)
                have HGO := hid_ (part_go ltN a i j dk HU2.out HD2.out (by omega))
                have hlt := part_scans_lt ltN a i j dk (by omega) HU2.out HD2.out (by omega)
                have g1 := HT.out.at_ i2 (by have := HSk.out; omega)
                have g2 := HT.out.at_ j2 (by have := HSk.out; omega)
                have hf1 := HT.out.free
                have hgl := HT.out.lt
                have HSW := hid_ (HT.out.swap (i := i2) (j := j2) (by have := HSk.out; omega) (by have := HSk.out; omega))
                obtain ⟨u, hu⟩ : ∃ u : Nat, u = dk[i2]! := ⟨_, rfl⟩
                obtain ⟨v, hv⟩ : ∃ v : Nat, v = dk[j2]! := ⟨_, rfl⟩
                rw [← hu] at g1 HSW
                rw [← hv] at g2 HSW
                clear hu hv
                have hne : ¬ i2 = j2 := by omega
                have hne2 : ¬ j2 = i2 := by omega
                have k1 : (0 : Int) ≤ (i2 : Int) := by omega
                have k2 : (i2 : Int) < (n : Int) := by omega
                have k3 : (0 : Int) ≤ (j2 : Int) := by omega
                have k4 : (j2 : Int) < (n : Int) := by omega
                have HLT := hid_ hlt
                clear hlt
                go_wp2_with fail
                go_region
                all_goals
                  go_wp2_with fail
                  go_roundw
                  case rel => exact ⟨i2 + 1, j2 - 1, swp dk i2 j2, by go_num, by first | go_num | (congr 1; have := HLT.out; omega), by omega, by have := HLT.out; omega, by omega, hid_ (by rw [size_swp]; exact HSk.out), HSW, hid_ (by rw [← HGO.out]; exact HR.out)⟩
                  case measure => have := HLT.out; simp [intOf]; omega
end Ns
end Go.Proofs.Ytgmeggilojcoeaa
