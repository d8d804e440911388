/-
  The library's partitionEqual at uint64.
-/
import Derived.Test.YtgmeggilojcoeaaZGN1
import Derived.Sort.WalkC
namespace Go.Proofs.Ytgmeggilojcoeaa
set_option linter.unusedSimpArgs false
set_option linter.unusedVariables false
open Go.RowKit Go.Sort
namespace Ns
set_option linter.unusedSimpArgs false
set_option linter.unusedVariables false
/-- A number, and the row as it is to be. -/
def IPost (B : Nat) (w0 : World) (g off : Nat) (r : Nat) (d : Array Nat) (e : Ending) (W : World) : Prop := e = .returned (.int .i64 (r : Nat)) ∧ NSt B w0 g off d W
theorem iPost_mk {B : Nat} {w0 : World} {g off r r' : Nat} {d : Array Nat} {W : World} (h : r = r') (hs : NSt B w0 g off d W) : IPost B w0 g off r d (.returned (.int .i64 (r' : Nat))) W := ⟨by rw [h], hs⟩
set_option maxRecDepth 100000 in
set_option maxHeartbeats 8000000 in
theorem peq_any (B : Nat) (w0 : World) (g off n c a b p : Nat) (d : Array Nat) (w : World) (h : NSt B w0 g off d w) (hn : d.size = n) (hm : n ≤ 1000000000) (hnc : n ≤ c) (hap : a < p) (hpb : p < b) (hb : b ≤ n) :
    Calls Try.prog 128 #[.slice (some ⟨g, off, none⟩) n c, .int .i64 (a : Nat), .int .i64 (b : Nat), .int .i64 (p : Nat)] w (IPost B w0 g off (partitionEqual ltN d a b p).1 (partitionEqual ltN d a b p).2) := by
  have HDef := hid_ (show partitionEqual ltN d a b p = partEqLoop ltN a (a + 1) (b - 1) (swp d a p) from rfl)
  generalize partitionEqual ltN d a b p = res at *
  have HN := hid_ (show (swp d a p).size = n by rw [size_swp]; exact hn)
  have hc1 := h.at_ a (by omega)
  have hc2 := h.at_ p (by omega)
  have hf1 := h.free
  have hgl := h.lt
  have HS := hid_ (h.swap (i := a) (j := p) (by omega) (by omega))
  generalize swp d a p = d1 at *
  generalize d[a]! = x at *
  generalize d[p]! = y at *
  have m1 : (0 : Int) ≤ (a : Int) := by omega
  have m2 : (a : Int) < (n : Int) := by omega
  have m3 : (0 : Int) ≤ (p : Int) := by omega
  have m4 : (p : Int) < (n : Int) := by omega
  have hne : ¬ a = p := by omega
  have hne2 : ¬ p = a := by omega
  clear h hn
  go_enter Try.func128, Try.ntmps128
  go_wp2_with fail
  go_region
  have hs := HS.out
  generalize (((w.setCell ⟨g, off + a, none⟩ (.int .u64 (y : Nat))).setCell ⟨g, off + p, none⟩ (.int .u64 (x : Nat))).drew) = wq at *
  have HQ := hid_ hs
  clear hs HS hc1 hc2 hf1 hgl
  go_wp2_with fail
  go_loopw [9, 10] (fun v9 v10 wr => ∃ (i j : Nat) (dk : Array Nat), v9 = .int .i64 i ∧ v10 = .int .i64 j ∧ a < i ∧ i ≤ j + 1 ∧ j < b ∧ Hid (dk.size = n) ∧ Hid (NSt B w0 g off dk wr) ∧ Hid (partEqLoop ltN a i j dk = res)) (fun v9 v10 _ => (intOf v10 + 1 - intOf v9).toNat)
  case atStart => exact ⟨a + 1, b - 1, d1, by go_num, by first | go_num | (congr 1; omega), by omega, by omega, by omega, HN, HQ, hid_ HDef.out.symm⟩
  case round =>
    obtain ⟨i, j, dk, rfl, rfl, hai, hij, hjb, HSk, HK, HR⟩ := hrel
    obtain ⟨w1, hw1⟩ : ∃ w1 : World, w1 = wr := ⟨_, rfl⟩
    subst hw1
    go_wp2_with fail
    go_loopw [9] (fun v9 wi => ∃ i1 : Nat, v9 = .int .i64 i1 ∧ a < i1 ∧ i1 ≤ j + 1 ∧ i ≤ i1 ∧ Hid (NSt B w0 g off dk wi) ∧ Hid (scanUp (fun x => !ltN dk[a]! x) dk j i1 = scanUp (fun x => !ltN dk[a]! x) dk j i)) (fun v9 _ => j + 1 - (intOf v9).toNat)
    case atStart => exact ⟨i, rfl, hai, hij, Nat.le_refl _, HK, hid_ rfl⟩
    case round =>
      obtain ⟨i1, rfl, hai1, hij1, hii, HK1, HU⟩ := hrel
      by_cases hle : i1 ≤ j
      · have hc1 := HK1.out.at_ a (by have := HSk.out; omega)
        have hc2 := HK1.out.at_ i1 (by have := HSk.out; omega)
        have Hgo := hid_ (fun hp => scanUp_go (fun x => !ltN dk[a]! x) dk j i1 hle hp)
        have Hend := hid_ (fun hp => scanUp_end (fun x => !ltN dk[a]! x) dk j i1 (.inr hp))
        obtain ⟨x, hx⟩ : ∃ x : Nat, x = dk[a]! := ⟨_, rfl⟩
        obtain ⟨y, hy⟩ : ∃ y : Nat, y = dk[i1]! := ⟨_, rfl⟩
        rw [← hx] at hc1
        rw [← hy] at hc2
        have HX := hid_ hx
        have HY := hid_ hy
        clear hx hy
        have e1 : decide ((i1 : Int) ≤ (j : Int)) = true := decide_eq_true (by omega)
        have e2 : decide (i1 ≤ j) = true := decide_eq_true hle
        have k1 : (0 : Int) ≤ (i1 : Int) := by omega
        have k2 : (i1 : Int) < (n : Int) := by omega
        have HLE := hid_ hle
        clear hle
        cases hl : ltN x y
        · have Hlv := hid_ (fun W => less_any x y W)
          rw [hl] at Hlv
          have hp : (!ltN dk[a]! dk[i1]!) = true := by rw [← HX.out, ← HY.out, hl]; rfl
          have Hov := hid_ (Hgo.out hp)
          clear hl hp
          go_wp2_with fail
          go_quiet ((go_at_call 127; exact Calls.quiet_of_same (Hlv.out _)))
          go_wp2_with fail
          go_roundw
          case rel => exact ⟨i1 + 1, by go_num, by omega, by have := HLE.out; omega, by omega, hid_ (HK1.out.drewN _), hid_ (by rw [← Hov.out]; exact HU.out)⟩
          case measure => have := HLE.out; simp [intOf]; omega
        · have Hlv := hid_ (fun W => less_any x y W)
          rw [hl] at Hlv
          have hp : (!ltN dk[a]! dk[i1]!) = false := by rw [← HX.out, ← HY.out, hl]; rfl
          have HU2 := hid_ (show i1 = scanUp (fun x => !ltN dk[a]! x) dk j i from (Hend.out hp).symm.trans HU.out)
          clear hl hp
          go_wp2_with fail
          go_quiet ((go_at_call 127; exact Calls.quiet_of_same (Hlv.out _)))
          clear hc1 hc2 HX HY Hgo Hend Hlv e1 e2 k1 k2
          have HA := hid_ (HK1.out.drewN nq)
          generalize wr.drewN nq = wa at *
          go_wp2_with fail
          go_loopw [10] (fun v10 wi => ∃ j1 : Nat, v10 = .int .i64 j1 ∧ i1 ≤ j1 + 1 ∧ j1 ≤ j ∧ Hid (NSt B w0 g off dk wi) ∧ Hid (scanDown (fun x => ltN dk[a]! x) dk i1 j1 = scanDown (fun x => ltN dk[a]! x) dk i1 j)) (fun v10 _ => (intOf v10).toNat)
          case atStart => exact ⟨j, rfl, by omega, Nat.le_refl _, HA, hid_ rfl⟩
          case round =>
            obtain ⟨j1, rfl, hij1', hjj, HK2, HD⟩ := hrel
            by_cases hle2 : i1 ≤ j1
            · have c1 := HK2.out.at_ a (by have := HSk.out; omega)
              have c2 := HK2.out.at_ j1 (by have := HSk.out; omega)
              have Hgo := hid_ (fun hp => scanDown_go (fun x => ltN dk[a]! x) dk i1 j1 hle2 (by omega) hp)
              have Hend := hid_ (fun hp => scanDown_end (fun x => ltN dk[a]! x) dk i1 j1 (.inr hp))
              obtain ⟨x2, hx⟩ : ∃ x : Nat, x = dk[a]! := ⟨_, rfl⟩
              obtain ⟨y2, hy⟩ : ∃ y : Nat, y = dk[j1]! := ⟨_, rfl⟩
              rw [← hx] at c1
              rw [← hy] at c2
              have HX := hid_ hx
              have HY := hid_ hy
              clear hx hy
              have e3 : decide ((i1 : Int) ≤ (j1 : Int)) = true := decide_eq_true (by omega)
              have e4 : decide (i1 ≤ j1) = true := decide_eq_true hle2
              have p1 : (0 : Int) ≤ (j1 : Int) := by omega
              have p2 : (j1 : Int) < (n : Int) := by omega
              have HLE2 := hid_ hle2
              clear hle2
              cases hl : ltN x2 y2
              · have Hlv := hid_ (fun W => less_any x2 y2 W)
                rw [hl] at Hlv
                have hp : ltN dk[a]! dk[j1]! = false := by rw [← HX.out, ← HY.out]; exact hl
                have HD2 := hid_ (show j1 = scanDown (fun x => ltN dk[a]! x) dk i1 j from (Hend.out hp).symm.trans HD.out)
                clear hl hp
                go_wp2_with fail
                go_quiet ((go_at_call 127; exact Calls.quiet_of_same (Hlv.out _)))
                clear c1 c2
                have HT := hid_ (HK2.out.drewN nq)
                generalize wr.drewN nq = wt at *
                by_cases hbr : j1 < i1
                · have e5 : decide ((i1 : Int) > (j1 : Int)) = true := decide_eq_true (by omega)
                  have e6 : decide ((j1 : Int) < (i1 : Int)) = true := decide_eq_true (by omega)
                  have e7 : decide (j1 < i1) = true := decide_eq_true hbr
                  have HRes := hid_ ((partEq_break ltN a i j dk HU2.out HD2.out hbr).symm.trans HR.out)
                  go_wp2_with fail
                  go_ret
                  exact iPost_mk (by rw [← HRes.out]) (HT.out.to (by rw [← HRes.out]))
                · have e5 : decide ((i1 : Int) > (j1 : Int)) = false := decide_eq_false (by omega)
                  have e6 : decide ((j1 : Int) < (i1 : Int)) = false := decide_eq_false (by omega)
                  have e7 : decide (j1 < i1) = false := decide_eq_false hbr
                  have hlt := scans_lt ltN a i j dk (by omega) HU2.out HD2.out (by omega)
                  have HRes := hid_ (partEq_go ltN a i j dk HU2.out HD2.out (by omega))
                  have g1 := HT.out.at_ i1 (by have := HSk.out; omega)
                  have g2 := HT.out.at_ j1 (by have := HSk.out; omega)
                  have hf1 := HT.out.free
                  have hgl := HT.out.lt
                  have HSW := hid_ (HT.out.swap (i := i1) (j := j1) (by have := HSk.out; omega) (by have := HSk.out; omega))
                  generalize dk[i1]! = u at *
                  generalize dk[j1]! = v at *
                  have hne : ¬ i1 = j1 := by omega
                  have hne2 : ¬ j1 = i1 := by omega
                  have k1 : (0 : Int) ≤ (i1 : Int) := by omega
                  have k2 : (i1 : Int) < (n : Int) := by omega
                  have k3 : (0 : Int) ≤ (j1 : Int) := by omega
                  have k4 : (j1 : Int) < (n : Int) := by omega
                  have HLT := hid_ hlt
                  clear hlt
                  go_wp2_with fail
                  go_region
                  all_goals
                    go_wp2_with fail
                    go_roundw
                    case rel => exact ⟨i1 + 1, j1 - 1, swp dk i1 j1, by go_num, by first | go_num | (congr 1; have := HLT.out; omega), by omega, by have := HLT.out; omega, by omega, hid_ (by rw [size_swp]; exact HSk.out), HSW, hid_ (by rw [← HRes.out]; exact HR.out)⟩
                    case measure => have := HLT.out; simp [intOf]; omega
              · have Hlv := hid_ (fun W => less_any x2 y2 W)
                rw [hl] at Hlv
                have hp : ltN dk[a]! dk[j1]! = true := by rw [← HX.out, ← HY.out]; exact hl
                have Hov := hid_ (Hgo.out hp)
                clear hl hp
                go_wp2_with fail
                go_quiet ((go_at_call 127; exact Calls.quiet_of_same (Hlv.out _)))
                go_wp2_with fail
                go_roundw
                case rel => exact ⟨j1 - 1, by first | go_num | (congr 1; have := HLE2.out; omega), by have := HLE2.out; omega, by omega, hid_ (HK2.out.drewN _), hid_ (by rw [← Hov.out]; exact HD.out)⟩
                case measure => have := HLE2.out; simp [intOf]; omega
            · have e3 : decide ((i1 : Int) ≤ (j1 : Int)) = false := decide_eq_false (by omega)
              have e4 : decide (i1 ≤ j1) = false := decide_eq_false hle2
              have HD2 := hid_ (show j1 = scanDown (fun x => ltN dk[a]! x) dk i1 j from (scanDown_end (fun x => ltN dk[a]! x) dk i1 j1 (.inl hle2)).symm.trans HD.out)
              go_wp2_with fail
              go_quiet (fail)
              have HT := hid_ (HK2.out.drewN nq)
              generalize wr.drewN nq = wt at *
              by_cases hbr : j1 < i1
              · have e5 : decide ((i1 : Int) > (j1 : Int)) = true := decide_eq_true (by omega)
                have e6 : decide ((j1 : Int) < (i1 : Int)) = true := decide_eq_true (by omega)
                have e7 : decide (j1 < i1) = true := decide_eq_true hbr
                have HRes := hid_ ((partEq_break ltN a i j dk HU2.out HD2.out hbr).symm.trans HR.out)
                go_wp2_with fail
                go_ret
                exact iPost_mk (by rw [← HRes.out]) (HT.out.to (by rw [← HRes.out]))
              · have e5 : decide ((i1 : Int) > (j1 : Int)) = false := decide_eq_false (by omega)
                have e6 : decide ((j1 : Int) < (i1 : Int)) = false := decide_eq_false (by omega)
                have e7 : decide (j1 < i1) = false := decide_eq_false hbr
                have hlt := scans_lt ltN a i j dk (by omega) HU2.out HD2.out (by omega)
                have HRes := hid_ (partEq_go ltN a i j dk HU2.out HD2.out (by omega))
                have g1 := HT.out.at_ i1 (by have := HSk.out; omega)
                have g2 := HT.out.at_ j1 (by have := HSk.out; omega)
                have hf1 := HT.out.free
                have hgl := HT.out.lt
                have HSW := hid_ (HT.out.swap (i := i1) (j := j1) (by have := HSk.out; omega) (by have := HSk.out; omega))
                generalize dk[i1]! = u at *
                generalize dk[j1]! = v at *
                have hne : ¬ i1 = j1 := by omega
                have hne2 : ¬ j1 = i1 := by omega
                have k1 : (0 : Int) ≤ (i1 : Int) := by omega
                have k2 : (i1 : Int) < (n : Int) := by omega
                have k3 : (0 : Int) ≤ (j1 : Int) := by omega
                have k4 : (j1 : Int) < (n : Int) := by omega
                have HLT := hid_ hlt
                clear hlt
                go_wp2_with fail
                go_region
                all_goals
                  go_wp2_with fail
                  go_roundw
                  case rel => exact ⟨i1 + 1, j1 - 1, swp dk i1 j1, by go_num, by first | go_num | (congr 1; have := HLT.out; omega), by omega, by have := HLT.out; omega, by omega, hid_ (by rw [size_swp]; exact HSk.out), HSW, hid_ (by rw [← HRes.out]; exact HR.out)⟩
                  case measure => have := HLT.out; simp [intOf]; omega
      · have e1 : decide ((i1 : Int) ≤ (j : Int)) = false := decide_eq_false (by omega)
        have e2 : decide (i1 ≤ j) = false := decide_eq_false hle
        have HU2 := hid_ (show i1 = scanUp (fun x => !ltN dk[a]! x) dk j i from (scanUp_end (fun x => !ltN dk[a]! x) dk j i1 (.inl hle)).symm.trans HU.out)
        go_wp2_with fail
        go_quiet (fail)
        clear e1 e2
        have HA := hid_ (HK1.out.drewN nq)
        generalize wr.drewN nq = wa at *
        go_wp2_with fail
        go_loopw [10] (fun v10 wi => ∃ j1 : Nat, v10 = .int .i64 j1 ∧ i1 ≤ j1 + 1 ∧ j1 ≤ j ∧ Hid (NSt B w0 g off dk wi) ∧ Hid (scanDown (fun x => ltN dk[a]! x) dk i1 j1 = scanDown (fun x => ltN dk[a]! x) dk i1 j)) (fun v10 _ => (intOf v10).toNat)
        case atStart => exact ⟨j, rfl, by omega, Nat.le_refl _, HA, hid_ rfl⟩
        case round =>
          obtain ⟨j1, rfl, hij1', hjj, HK2, HD⟩ := hrel
          by_cases hle2 : i1 ≤ j1
          · have c1 := HK2.out.at_ a (by have := HSk.out; omega)
            have c2 := HK2.out.at_ j1 (by have := HSk.out; omega)
            have Hgo := hid_ (fun hp => scanDown_go (fun x => ltN dk[a]! x) dk i1 j1 hle2 (by omega) hp)
            have Hend := hid_ (fun hp => scanDown_end (fun x => ltN dk[a]! x) dk i1 j1 (.inr hp))
            obtain ⟨x2, hx⟩ : ∃ x : Nat, x = dk[a]! := ⟨_, rfl⟩
            obtain ⟨y2, hy⟩ : ∃ y : Nat, y = dk[j1]! := ⟨_, rfl⟩
            rw [← hx] at c1
            rw [← hy] at c2
            have HX := hid_ hx
            have HY := hid_ hy
            clear hx hy
            have e3 : decide ((i1 : Int) ≤ (j1 : Int)) = true := decide_eq_true (by omega)
            have e4 : decide (i1 ≤ j1) = true := decide_eq_true hle2
            have p1 : (0 : Int) ≤ (j1 : Int) := by omega
            have p2 : (j1 : Int) < (n : Int) := by omega
            have HLE2 := hid_ hle2
            clear hle2
            cases hl : ltN x2 y2
            · have Hlv := hid_ (fun W => less_any x2 y2 W)
              rw [hl] at Hlv
              have hp : ltN dk[a]! dk[j1]! = false := by rw [← HX.out, ← HY.out]; exact hl
              have HD2 := hid_ (show j1 = scanDown (fun x => ltN dk[a]! x) dk i1 j from (Hend.out hp).symm.trans HD.out)
              clear hl hp
              go_wp2_with fail
              go_quiet ((go_at_call 127; exact Calls.quiet_of_same (Hlv.out _)))
              clear c1 c2
              have HT := hid_ (HK2.out.drewN nq)
              generalize wr.drewN nq = wt at *
              by_cases hbr : j1 < i1
              · have e5 : decide ((i1 : Int) > (j1 : Int)) = true := decide_eq_true (by omega)
                have e6 : decide ((j1 : Int) < (i1 : Int)) = true := decide_eq_true (by omega)
                have e7 : decide (j1 < i1) = true := decide_eq_true hbr
                have HRes := hid_ ((partEq_break ltN a i j dk HU2.out HD2.out hbr).symm.trans HR.out)
                go_wp2_with fail
                go_ret
                exact iPost_mk (by rw [← HRes.out]) (HT.out.to (by rw [← HRes.out]))
              · have e5 : decide ((i1 : Int) > (j1 : Int)) = false := decide_eq_false (by omega)
                have e6 : decide ((j1 : Int) < (i1 : Int)) = false := decide_eq_false (by omega)
                have e7 : decide (j1 < i1) = false := decide_eq_false hbr
                have hlt := scans_lt ltN a i j dk (by omega) HU2.out HD2.out (by omega)
                have HRes := hid_ (partEq_go ltN a i j dk HU2.out HD2.out (by omega))
                have g1 := HT.out.at_ i1 (by have := HSk.out; omega)
                have g2 := HT.out.at_ j1 (by have := HSk.out; omega)
                have hf1 := HT.out.free
                have hgl := HT.out.lt
                have HSW := hid_ (HT.out.swap (i := i1) (j := j1) (by have := HSk.out; omega) (by have := HSk.out; omega))
                generalize dk[i1]! = u at *
                generalize dk[j1]! = v at *
                have hne : ¬ i1 = j1 := by omega
                have hne2 : ¬ j1 = i1 := by omega
                have k1 : (0 : Int) ≤ (i1 : Int) := by omega
                have k2 : (i1 : Int) < (n : Int) := by omega
                have k3 : (0 : Int) ≤ (j1 : Int) := by omega
                have k4 : (j1 : Int) < (n : Int) := by omega
                have HLT := hid_ hlt
                clear hlt
                go_wp2_with fail
                go_region
                all_goals
                  go_wp2_with fail
                  go_roundw
                  case rel => exact ⟨i1 + 1, j1 - 1, swp dk i1 j1, by go_num, by first | go_num | (congr 1; have := HLT.out; omega), by omega, by have := HLT.out; omega, by omega, hid_ (by rw [size_swp]; exact HSk.out), HSW, hid_ (by rw [← HRes.out]; exact HR.out)⟩
                  case measure => have := HLT.out; simp [intOf]; omega
            · have Hlv := hid_ (fun W => less_any x2 y2 W)
              rw [hl] at Hlv
              have hp : ltN dk[a]! dk[j1]! = true := by rw [← HX.out, ← HY.out]; exact hl
              have Hov := hid_ (Hgo.out hp)
              clear hl hp
              go_wp2_with fail
              go_quiet ((go_at_call 127; exact Calls.quiet_of_same (Hlv.out _)))
              go_wp2_with fail
              go_roundw
              case rel => exact ⟨j1 - 1, by first | go_num | (congr 1; have := HLE2.out; omega), by have := HLE2.out; omega, by omega, hid_ (HK2.out.drewN _), hid_ (by rw [← Hov.out]; exact HD.out)⟩
              case measure => have := HLE2.out; simp [intOf]; omega
          · have e3 : decide ((i1 : Int) ≤ (j1 : Int)) = false := decide_eq_false (by omega)
            have e4 : decide (i1 ≤ j1) = false := decide_eq_false hle2
            have HD2 := hid_ (show j1 = scanDown (fun x => ltN dk[a]! x) dk i1 j from (scanDown_end (fun x => ltN dk[a]! x) dk i1 j1 (.inl hle2)).symm.trans HD.out)
            go_wp2_with fail
            go_quiet (fail)
            have HT := hid_ (HK2.out.drewN nq)
            generalize wr.drewN nq = wt at *
            by_cases hbr : j1 < i1
            · have e5 : decide ((i1 : Int) > (j1 : Int)) = true := decide_eq_true (by omega)
              have e6 : decide ((j1 : Int) < (i1 : Int)) = true := decide_eq_true (by omega)
              have e7 : decide (j1 < i1) = true := decide_eq_true hbr
              have HRes := hid_ ((partEq_break ltN a i j dk HU2.out HD2.out hbr).symm.trans HR.out)
              go_wp2_with fail
              go_ret
              exact iPost_mk (by rw [← HRes.out]) (HT.out.to (by rw [← HRes.out]))
            · have e5 : decide ((i1 : Int) > (j1 : Int)) = false := decide_eq_false (by omega)
              have e6 : decide ((j1 : Int) < (i1 : Int)) = false := decide_eq_false (by omega)
              have e7 : decide (j1 < i1) = false := decide_eq_false hbr
              have hlt := scans_lt ltN a i j dk (by omega) HU2.out HD2.out (by omega)
              have HRes := hid_ (partEq_go ltN a i j dk HU2.out HD2.out (by omega))
              have g1 := HT.out.at_ i1 (by have := HSk.out; omega)
              have g2 := HT.out.at_ j1 (by have := HSk.out; omega)
              have hf1 := HT.out.free
              have hgl := HT.out.lt
              have HSW := hid_ (HT.out.swap (i := i1) (j := j1) (by have := HSk.out; omega) (by have := HSk.out; omega))
              generalize dk[i1]! = u at *
              generalize dk[j1]! = v at *
              have hne : ¬ i1 = j1 := by omega
              have hne2 : ¬ j1 = i1 := by omega
              have k1 : (0 : Int) ≤ (i1 : Int) := by omega
              have k2 : (i1 : Int) < (n : Int) := by omega
              have k3 : (0 : Int) ≤ (j1 : Int) := by omega
              have k4 : (j1 : Int) < (n : Int) := by omega
              have HLT := hid_ hlt
              clear hlt
              go_wp2_with fail
              go_region
              all_goals
                go_wp2_with fail
                go_roundw
                case rel => exact ⟨i1 + 1, j1 - 1, swp dk i1 j1, by go_num, by first | go_num | (congr 1; have := HLT.out; omega), by omega, by have := HLT.out; omega, by omega, hid_ (by rw [size_swp]; exact HSk.out), HSW, hid_ (by rw [← HRes.out]; exact HR.out)⟩
                case measure => have := HLT.out; simp [intOf]; omega
end Ns
end Go.Proofs.Ytgmeggilojcoeaa
