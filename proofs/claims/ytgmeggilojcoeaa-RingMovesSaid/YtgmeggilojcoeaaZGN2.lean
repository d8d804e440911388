/-
  The library's siftDown at uint64.
-/
import Derived.Test.YtgmeggilojcoeaaZGN1
import Derived.Sort.WalkB3
namespace Go.Proofs.Ytgmeggilojcoeaa
set_option linter.unusedSimpArgs false
set_option linter.unusedVariables false
open Go.RowKit Go.Sort
namespace Ns
set_option linter.unusedSimpArgs false
set_option linter.unusedVariables false
set_option maxRecDepth 100000 in
set_option maxHeartbeats 1000000 in
theorem sift_any (B : Nat) (w0 : World) (g off n c lo hi F : Nat) (d : Array Nat) (w : World) (h : NSt B w0 g off d w) (hn : d.size = n) (hm : n ≤ 1000000000) (hnc : n ≤ c) (hlo : lo ≤ n) (hF : F + hi ≤ n) :
    Calls Try.prog 146 #[.slice (some ⟨g, off, none⟩) n c, .int .i64 (lo : Nat), .int .i64 (hi : Nat), .int .i64 (F : Nat)] w (SPost B w0 g off (siftDown ltN hi F lo d)) := by
  have HN := hid_ hn
  have H0 := hid_ h
  clear h hn
  go_enter Try.func146, Try.ntmps146
  go_wp2_with fail
  go_loopw [8] (fun v8 wr => ∃ (root : Nat) (dk : Array Nat), v8 = .int .i64 root ∧ root ≤ n ∧ Hid (dk.size = n) ∧ Hid (NSt B w0 g off dk wr) ∧ Hid (siftDown ltN hi F root dk = siftDown ltN hi F lo d)) (fun v8 _ => hi - (intOf v8).toNat)
  case atStart => exact ⟨lo, d, rfl, hlo, HN, H0, hid_ rfl⟩
  case round =>
    obtain ⟨root, dk, rfl, hr, HSk, HK, HR⟩ := hrel
    by_cases h0 : 2 * root + 1 < hi
    · have e1 : decide (2 * (root : Int) + 1 ≥ (hi : Int)) = false := decide_eq_false (by omega)
      have e2 : decide ((hi : Int) ≤ 2 * (root : Int) + 1) = false := decide_eq_false (by omega)
      by_cases h1 : 2 * root + 2 < hi
      · have e3 : decide (2 * (root : Int) + 1 + 1 < (hi : Int)) = true := decide_eq_true (by omega)
        have p1 : (0 : Int) ≤ (F : Int) + (2 * (root : Int) + 1) := by omega
        have p2 : (F : Int) + (2 * (root : Int) + 1) < (n : Int) := by omega
        have p3 : ((F : Int) + (2 * (root : Int) + 1)).toNat = F + (2 * root + 1) := by omega
        have p4 : (0 : Int) ≤ (F : Int) + (2 * (root : Int) + 1) + 1 := by omega
        have p5 : (F : Int) + (2 * (root : Int) + 1) + 1 < (n : Int) := by omega
        have p6 : ((F : Int) + (2 * (root : Int) + 1) + 1).toNat = F + (2 * root + 2) := by omega
        have hc1 := HK.out.at_ (F + (2 * root + 1)) (by have := HSk.out; omega)
        have hc2 := HK.out.at_ (F + (2 * root + 2)) (by have := HSk.out; omega)
        cases h2 : ltN dk[F + (2 * root + 1)]! dk[F + (2 * root + 2)]!
        · have Hlw := hid_ (fun W => less_any dk[F + (2 * root + 1)]! dk[F + (2 * root + 2)]! W)
          rw [h2] at Hlw
          have H12 := hid_ (show 2 * root + 2 < hi → ltN dk[F + (2 * root + 1)]! dk[F + (2 * root + 2)]! = false from fun _ => h2)
          clear h2
          have hs1 : F + root < dk.size := by have := HSk.out; omega
          have hs2 : F + (2 * root + 1) < dk.size := by have := HSk.out; omega
          have HC := hid_ (fun (W : World) (hW : NSt B w0 g off dk W) => And.intro (hW.at_ (F + root) hs1) (And.intro (hW.at_ (F + (2 * root + 1)) hs2) (And.intro hW.free (And.intro hW.lt (hW.swap (i := F + root) (j := F + (2 * root + 1)) hs1 hs2)))))
          have Hgo := hid_ (fun h3 => sd_left_go (lt := ltN) (F := F) dk h0 H12.out h3)
          have Hst := hid_ (fun h3 => sd_left_stop (lt := ltN) (F := F) dk h0 H12.out h3)
          have n1 : (0 : Int) ≤ (F : Int) + (root : Int) := by omega
          have n2 : (F : Int) + (root : Int) < (n : Int) := by omega
          have n3 : ((F : Int) + (root : Int)).toNat = F + root := by omega
          have n4 : (0 : Int) ≤ (F : Int) + (2 * (root : Int) + 1) := by omega
          have n5 : (F : Int) + (2 * (root : Int) + 1) < (n : Int) := by omega
          have n6 : ((F : Int) + (2 * (root : Int) + 1)).toNat = F + (2 * root + 1) := by omega
          have hne : ¬ F + root = F + (2 * root + 1) := by omega
          have hne2 : ¬ F + (2 * root + 1) = F + root := by omega
          clear hs1 hs2
          go_wp2_with fail
          go_quiet ((go_at_call 127; exact Calls.quiet_of_same (Hlw.out _)))
          clear hc1 hc2
          have Hq := hid_ (HK.out.drewN nq)
          generalize wr.drewN nq = wq at *
          obtain ⟨hc1, hc2, hf1, hgl, hsw⟩ := HC.out wq Hq.out
          have HS := hid_ hsw
          have HF := hid_ hf1
          clear hsw hf1
          generalize dk[F + root]! = x at *
          generalize dk[F + (2 * root + 1)]! = y at *
          cases hl : ltN x y
          · have Hlv := hid_ (fun W => less_any x y W)
            rw [hl] at Hlv
            have Hov := hid_ (Hst.out hl)
            clear hl
            go_wp2_with fail
            go_quiet ((go_at_call 127; exact Calls.quiet_of_same (Hlv.out _)))
            go_wp2_with fail
            go_end0
            exact ⟨rfl, (Hq.out.drewN _).to (by rw [← HR.out, Hov.out])⟩
          · have Hlv := hid_ (fun W => less_any x y W)
            rw [hl] at Hlv
            have Hgv := hid_ (Hgo.out hl)
            clear hl
            go_wp2_with fail
            go_quiet ((go_at_call 127; exact Calls.quiet_of_same (Hlv.out _)))
            have Hx := hid_ (Hq.out.drewN nq)
            clear hc1 hc2
            generalize wq.drewN nq = wz at *
            obtain ⟨hc1, hc2, hf1, hgl2, hsw⟩ := HC.out wz Hx.out
            have HS2 := hid_ hsw
            clear hsw
            go_wp2_with fail
            go_region
            go_wp2_with fail
            go_roundw
            case rel => exact ⟨(2 * root + 1), swp dk (F + root) (F + (2 * root + 1)), by first | go_num | (congr 1; omega), by omega, hid_ (by rw [size_swp]; exact HSk.out), HS2, hid_ (by rw [← Hgv.out]; exact HR.out)⟩
            case measure => simp [intOf]; omega
        · have Hlw := hid_ (fun W => less_any dk[F + (2 * root + 1)]! dk[F + (2 * root + 2)]! W)
          rw [h2] at Hlw
          have H2 := hid_ h2
          clear h2
          have hs1 : F + root < dk.size := by have := HSk.out; omega
          have hs2 : F + (2 * root + 2) < dk.size := by have := HSk.out; omega
          have HC := hid_ (fun (W : World) (hW : NSt B w0 g off dk W) => And.intro (hW.at_ (F + root) hs1) (And.intro (hW.at_ (F + (2 * root + 2)) hs2) (And.intro hW.free (And.intro hW.lt (hW.swap (i := F + root) (j := F + (2 * root + 2)) hs1 hs2)))))
          have Hgo := hid_ (fun h3 => sd_right_go (lt := ltN) (F := F) dk h1 H2.out h3)
          have Hst := hid_ (fun h3 => sd_right_stop (lt := ltN) (F := F) dk h1 H2.out h3)
          have n1 : (0 : Int) ≤ (F : Int) + (root : Int) := by omega
          have n2 : (F : Int) + (root : Int) < (n : Int) := by omega
          have n3 : ((F : Int) + (root : Int)).toNat = F + root := by omega
          have n4 : (0 : Int) ≤ (F : Int) + (2 * (root : Int) + 1 + 1) := by omega
          have n5 : (F : Int) + (2 * (root : Int) + 1 + 1) < (n : Int) := by omega
          have n6 : ((F : Int) + (2 * (root : Int) + 1 + 1)).toNat = F + (2 * root + 2) := by omega
          have hne : ¬ F + root = F + (2 * root + 2) := by omega
          have hne2 : ¬ F + (2 * root + 2) = F + root := by omega
          clear hs1 hs2
          go_wp2_with fail
          go_quiet ((go_at_call 127; exact Calls.quiet_of_same (Hlw.out _)))
          clear hc1 hc2
          have Hq := hid_ (HK.out.drewN nq)
          generalize wr.drewN nq = wq at *
          obtain ⟨hc1, hc2, hf1, hgl, hsw⟩ := HC.out wq Hq.out
          have HS := hid_ hsw
          have HF := hid_ hf1
          clear hsw hf1
          generalize dk[F + root]! = x at *
          generalize dk[F + (2 * root + 2)]! = y at *
          cases hl : ltN x y
          · have Hlv := hid_ (fun W => less_any x y W)
            rw [hl] at Hlv
            have Hov := hid_ (Hst.out hl)
            clear hl
            go_wp2_with fail
            go_quiet ((go_at_call 127; exact Calls.quiet_of_same (Hlv.out _)))
            go_wp2_with fail
            go_end0
            exact ⟨rfl, (Hq.out.drewN _).to (by rw [← HR.out, Hov.out])⟩
          · have Hlv := hid_ (fun W => less_any x y W)
            rw [hl] at Hlv
            have Hgv := hid_ (Hgo.out hl)
            clear hl
            go_wp2_with fail
            go_quiet ((go_at_call 127; exact Calls.quiet_of_same (Hlv.out _)))
            have Hx := hid_ (Hq.out.drewN nq)
            clear hc1 hc2
            generalize wq.drewN nq = wz at *
            obtain ⟨hc1, hc2, hf1, hgl2, hsw⟩ := HC.out wz Hx.out
            have HS2 := hid_ hsw
            clear hsw
            go_wp2_with fail
            go_region
            go_wp2_with fail
            go_roundw
            case rel => exact ⟨(2 * root + 2), swp dk (F + root) (F + (2 * root + 2)), by first | go_num | (congr 1; omega), by omega, hid_ (by rw [size_swp]; exact HSk.out), HS2, hid_ (by rw [← Hgv.out]; exact HR.out)⟩
            case measure => simp [intOf]; omega
      · have e3 : decide (2 * (root : Int) + 1 + 1 < (hi : Int)) = false := decide_eq_false (by omega)
        have H12 := hid_ (show 2 * root + 2 < hi → ltN dk[F + (2 * root + 1)]! dk[F + (2 * root + 2)]! = false from fun h => absurd h h1)
        have hs1 : F + root < dk.size := by have := HSk.out; omega
        have hs2 : F + (2 * root + 1) < dk.size := by have := HSk.out; omega
        have HC := hid_ (fun (W : World) (hW : NSt B w0 g off dk W) => And.intro (hW.at_ (F + root) hs1) (And.intro (hW.at_ (F + (2 * root + 1)) hs2) (And.intro hW.free (And.intro hW.lt (hW.swap (i := F + root) (j := F + (2 * root + 1)) hs1 hs2)))))
        have Hgo := hid_ (fun h3 => sd_left_go (lt := ltN) (F := F) dk h0 H12.out h3)
        have Hst := hid_ (fun h3 => sd_left_stop (lt := ltN) (F := F) dk h0 H12.out h3)
        have n1 : (0 : Int) ≤ (F : Int) + (root : Int) := by omega
        have n2 : (F : Int) + (root : Int) < (n : Int) := by omega
        have n3 : ((F : Int) + (root : Int)).toNat = F + root := by omega
        have n4 : (0 : Int) ≤ (F : Int) + (2 * (root : Int) + 1) := by omega
        have n5 : (F : Int) + (2 * (root : Int) + 1) < (n : Int) := by omega
        have n6 : ((F : Int) + (2 * (root : Int) + 1)).toNat = F + (2 * root + 1) := by omega
        have hne : ¬ F + root = F + (2 * root + 1) := by omega
        have hne2 : ¬ F + (2 * root + 1) = F + root := by omega
        clear hs1 hs2
        go_wp2_with fail
        go_quiet (fail)
        have Hq := hid_ (HK.out.drewN nq)
        generalize wr.drewN nq = wq at *
        obtain ⟨hc1, hc2, hf1, hgl, hsw⟩ := HC.out wq Hq.out
        have HS := hid_ hsw
        have HF := hid_ hf1
        clear hsw hf1
        generalize dk[F + root]! = x at *
        generalize dk[F + (2 * root + 1)]! = y at *
        cases hl : ltN x y
        · have Hlv := hid_ (fun W => less_any x y W)
          rw [hl] at Hlv
          have Hov := hid_ (Hst.out hl)
          clear hl
          go_wp2_with fail
          go_quiet ((go_at_call 127; exact Calls.quiet_of_same (Hlv.out _)))
          go_wp2_with fail
          go_end0
          exact ⟨rfl, (Hq.out.drewN _).to (by rw [← HR.out, Hov.out])⟩
        · have Hlv := hid_ (fun W => less_any x y W)
          rw [hl] at Hlv
          have Hgv := hid_ (Hgo.out hl)
          clear hl
          go_wp2_with fail
          go_quiet ((go_at_call 127; exact Calls.quiet_of_same (Hlv.out _)))
          have Hx := hid_ (Hq.out.drewN nq)
          clear hc1 hc2
          generalize wq.drewN nq = wz at *
          obtain ⟨hc1, hc2, hf1, hgl2, hsw⟩ := HC.out wz Hx.out
          have HS2 := hid_ hsw
          clear hsw
          go_wp2_with fail
          go_region
          go_wp2_with fail
          go_roundw
          case rel => exact ⟨(2 * root + 1), swp dk (F + root) (F + (2 * root + 1)), by first | go_num | (congr 1; omega), by omega, hid_ (by rw [size_swp]; exact HSk.out), HS2, hid_ (by rw [← Hgv.out]; exact HR.out)⟩
          case measure => simp [intOf]; omega
    · have Hend := hid_ (show NSt B w0 g off (siftDown ltN hi F lo d) wr from HK.out.to (by rw [← HR.out, sd_end _ _ (by omega)]))
      have e1 : decide (2 * (root : Int) + 1 ≥ (hi : Int)) = true := decide_eq_true (by omega)
      have e2 : decide ((hi : Int) ≤ 2 * (root : Int) + 1) = true := decide_eq_true (by omega)
      go_wp2_with fail
      go_end0
      exact ⟨rfl, Hend.out⟩
end Ns
end Go.Proofs.Ytgmeggilojcoeaa

/-
  The library's heapSort at uint64.
-/
namespace Go.Proofs.Ytgmeggilojcoeaa
set_option linter.unusedSimpArgs false
set_option linter.unusedVariables false
open Go.RowKit Go.Sort
namespace Ns
set_option linter.unusedSimpArgs false
set_option linter.unusedVariables false
theorem size_sift (hi F root : Nat) (d : Array Nat) : (siftDown ltN hi F root d).size = d.size := size_siftDown ltN hi F (hi - root) root d (Nat.le_refl _)
set_option maxRecDepth 100000 in
set_option maxHeartbeats 4000000 in
theorem heap_any (B : Nat) (w0 : World) (g off n c a b : Nat) (d : Array Nat) (w : World) (h : NSt B w0 g off d w) (hn : d.size = n) (hm : n ≤ 1000000000) (hnc : n ≤ c) (hab : a < b) (hb : b ≤ n) :
    Calls Try.prog 122 #[.slice (some ⟨g, off, none⟩) n c, .int .i64 (a : Nat), .int .i64 (b : Nat)] w (SPost B w0 g off (heapSort ltN d a b)) := by
  have HN := hid_ hn
  have H0 := hid_ h
  clear h hn
  obtain ⟨L, hL⟩ : ∃ L : Nat, b = a + L := ⟨b - a, by omega⟩
  have hLI : ((b : Int) - (a : Int)) = (L : Int) := by omega
  have HDef := hid_ (show heapSort ltN d a b = heapPop ltN a L (heapBuild ltN L a ((L - 1) / 2 + 1) d) by unfold heapSort; rw [show b - a = L by omega])
  have hL1 : 1 ≤ L := by omega
  have hLn : a + L ≤ n := by omega
  have q1 : (1 : Int) ≤ (L : Int) := by omega
  have q2 : (0 : Int) ≤ (L : Int) - 1 := by omega
  have HLe := hid_ hL
  clear hL
  go_enter Try.func122, Try.ntmps122
  go_wp2_with fail
  go_loopw [9] (fun v9 wr => ∃ (k : Nat) (z : Int) (dk : Array Nat), v9 = .int .i64 z ∧ Hid (z + 1 = (k : Int)) ∧ k ≤ L ∧ Hid (dk.size = n) ∧ Hid (NSt B w0 g off dk wr) ∧ Hid (heapBuild ltN L a k dk = heapBuild ltN L a ((L - 1) / 2 + 1) d)) (fun v9 _ => (intOf v9 + 1).toNat)
  case atStart => exact ⟨(L - 1) / 2 + 1, ((L : Int) - 1) / 2, d, rfl, hid_ (by omega), by omega, HN, H0, hid_ rfl⟩
  case round =>
    obtain ⟨k, z, dk, rfl, HZ, hk, HSk, HK, HR⟩ := hrel
    rcases k with _ | k
    · obtain rfl : z = -1 := by have := HZ.out; omega
      obtain ⟨wz, hwz⟩ : ∃ wz : World, wz = wr := ⟨_, rfl⟩
      subst hwz
      go_wp2_with fail
      go_loopw [10] (fun v10 wi => ∃ (k : Nat) (z : Int) (dj : Array Nat), v10 = .int .i64 z ∧ Hid (z + 1 = (k : Int)) ∧ k ≤ L ∧ Hid (dj.size = n) ∧ Hid (NSt B w0 g off dj wi) ∧ Hid (heapPop ltN a k dj = heapPop ltN a L dk)) (fun v10 _ => (intOf v10 + 1).toNat)
      case atStart => exact ⟨L, (L : Int) - 1, dk, rfl, hid_ (by omega), by omega, HSk, HK, hid_ rfl⟩
      case round =>
        obtain ⟨k, z, dj, rfl, HZ2, hk2, HSj, HJ, HR2⟩ := hrel
        rcases k with _ | k
        · obtain rfl : z = -1 := by have := HZ2.out; omega
          have Hend := hid_ (show NSt B w0 g off (heapSort ltN d a b) wr from HJ.out.to (by rw [HDef.out, ← HR.out]; exact HR2.out))
          go_wp2_with fail
          go_end0
          exact ⟨rfl, Hend.out⟩
        · obtain rfl : z = (k : Int) := by have := HZ2.out; omega
          have hs1 : a < dj.size := by have := HSj.out; omega
          have hs2 : a + k < dj.size := by have := HSj.out; omega
          rcases Nat.eq_zero_or_pos k with h0 | h0
          · subst h0
            have hc1 := HJ.out.at_ a hs1
            have hf1 := HJ.out.free
            have hgl := HJ.out.lt
            have HS := hid_ (HJ.out.swap (i := a) (j := a) hs1 hs1)
            clear hs1 hs2
            generalize dj[a]! = x at *
            have m1 : (0 : Int) ≤ (a : Int) := by omega
            have m2 : (a : Int) < (n : Int) := by omega
            have m3 : ((0 : Nat) : Int) = 0 := rfl
            have m4 : (a : Int) + ((0 : Nat) : Int) = (a : Int) := by omega
            have m5 : (a : Int) + 0 = (a : Int) := by omega
            go_wp2_with fail
            go_region
            go_wp2_with fail
            have hs := HS.out
            generalize (((wr.setCell ⟨g, off + a, none⟩ (.int .u64 (x : Nat))).setCell ⟨g, off + a, none⟩ (.int .u64 (x : Nat))).drew) = wq at *
            refine Calls.mono (sift_any B w0 g off n c 0 0 a (swp dj a a) wq hs (by rw [size_swp]; exact HSj.out) hm hnc (by omega) (by omega)) ?_
            rintro e w1 ⟨rfl, hst⟩
            have HST := hid_ hst
            clear hst hs
            go_wp2_with fail
            go_roundw
            case rel => exact ⟨0, -1, siftDown ltN 0 a 0 (swp dj a a), by first | rfl | simp, hid_ (by omega), by omega, hid_ (by rw [size_sift, size_swp]; exact HSj.out), HST, hid_ HR2.out⟩
            case measure => simp [intOf]
          have hc1 := HJ.out.at_ a hs1
          have hc2 := HJ.out.at_ (a + k) hs2
          have hf1 := HJ.out.free
          have hgl := HJ.out.lt
          have HS := hid_ (HJ.out.swap (i := a) (j := a + k) hs1 hs2)
          clear hs1 hs2
          generalize dj[a]! = x at *
          generalize dj[a + k]! = y at *
          have m1 : (0 : Int) ≤ (a : Int) := by omega
          have m2 : (a : Int) < (n : Int) := by omega
          have m3 : (0 : Int) ≤ (a : Int) + (k : Int) := by omega
          have m4 : (a : Int) + (k : Int) < (n : Int) := by omega
          have m5 : ((a : Int) + (k : Int)).toNat = a + k := by omega
          have m6 : (0 : Int) ≤ (k : Int) := by omega
          have hne : ¬ a = a + k := by omega
          have hne2 : ¬ a + k = a := by omega
          have HH0 := hid_ h0
          clear h0
          go_wp2_with fail
          go_region
          go_wp2_with fail
          have hs := HS.out
          generalize (((wr.setCell ⟨g, off + a, none⟩ (.int .u64 (y : Nat))).setCell ⟨g, off + (a + k), none⟩ (.int .u64 (x : Nat))).drew) = wq at *
          refine Calls.mono (sift_any B w0 g off n c 0 k a (swp dj a (a + k)) wq hs (by rw [size_swp]; exact HSj.out) hm hnc (by omega) (by omega)) ?_
          rintro e w1 ⟨rfl, hst⟩
          have HST := hid_ hst
          clear hst hs
          go_wp2_with fail
          go_roundw
          case rel => exact ⟨k, (k : Int) - 1, siftDown ltN k a 0 (swp dj a (a + k)), rfl, hid_ (by omega), by omega, hid_ (by rw [size_sift, size_swp]; exact HSj.out), HST, hid_ HR2.out⟩
          case measure => simp [intOf]
    · obtain rfl : z = (k : Int) := by have := HZ.out; omega
      have m6 : (0 : Int) ≤ (k : Int) := by omega
      go_wp2_with fail
      refine Calls.mono (sift_any B w0 g off n c k L a dk wr HK.out HSk.out hm hnc (by omega) hLn) ?_
      rintro e w1 ⟨rfl, hst⟩
      have HST := hid_ hst
      clear hst
      go_wp2_with fail
      go_roundw
      case rel => exact ⟨k, (k : Int) - 1, siftDown ltN L a k dk, rfl, hid_ (by omega), by omega, hid_ (by rw [size_sift]; exact HSk.out), HST, hid_ HR.out⟩
      case measure => simp [intOf]
end Ns
end Go.Proofs.Ytgmeggilojcoeaa
