/-
  A row of numbers (uint64) in a block, sorted in place: how it reads, an exchange, cmp.Less.
-/
import Derived.Test.YtgmeggilojcoeaaZGRB
import Derived.Sort.WalkA
namespace Go.Proofs.Ytgmeggilojcoeaa
set_option linter.unusedSimpArgs false
set_option linter.unusedVariables false
open Go.RowKit Go.Sort
namespace Ns
set_option linter.unusedSimpArgs false
set_option linter.unusedVariables false
/-- The row in block g, from off on, reads as d and may be written; what lay below block B in w0 is as it was. -/
structure NSt (B : Nat) (w0 : World) (g off : Nat) (d : Array Nat) (W : World) : Prop where
  bel : Below B w0 W
  at_ : ∀ k, k < d.size → W.cell? ⟨g, off + k, none⟩ = some (.int .u64 (d[k]! : Nat))
  free : ∀ o, W.frozen? ⟨g, o, none⟩ = false
  old : B ≤ g
  lt : g < W.heap.size
theorem NSt.keep {B : Nat} {w0 : World} {g off : Nat} {d : Array Nat} {W W' : World} (h : NSt B w0 g off d W) (hb : Below W.heap.size W W') (hB : B ≤ W.heap.size) : NSt B w0 g off d W' :=
  ⟨h.bel.trans (hb.mono hB), fun k hk => by rw [hb.cell (p := ⟨g, off + k, none⟩) h.lt]; exact h.at_ k hk, fun o => by rw [hb.frozen (p := ⟨g, o, none⟩) h.lt]; exact h.free o, h.old, Nat.lt_of_lt_of_le h.lt hb.size⟩
theorem NSt.base {B : Nat} {w0 : World} {g off : Nat} {d : Array Nat} {W : World} (h : NSt B w0 g off d W) : B ≤ W.heap.size := Nat.le_trans h.old (Nat.le_of_lt h.lt)
theorem NSt.drewN {B : Nat} {w0 : World} {g off : Nat} {d : Array Nat} {W : World} (h : NSt B w0 g off d W) (q : Nat) : NSt B w0 g off d (W.drewN q) := h.keep (below_drewN (Below.refl _ _) q) h.base
theorem NSt.drew {B : Nat} {w0 : World} {g off : Nat} {d : Array Nat} {W : World} (h : NSt B w0 g off d W) : NSt B w0 g off d W.drew := h.keep (Below.drew (Below.refl _ _)) h.base
theorem NSt.to {B : Nat} {w0 : World} {g off : Nat} {d d' : Array Nat} {W : World} (h : NSt B w0 g off d W) (e : d = d') : NSt B w0 g off d' W := by subst e; exact h
theorem cellN_ne {w : World} {g o o' : Nat} (v : Value) (h : o' ≠ o) : (w.setCell ⟨g, o, none⟩ v).cell? ⟨g, o', none⟩ = w.cell? ⟨g, o', none⟩ :=
  World.cell?_setCell_other w ⟨g, o, none⟩ ⟨g, o', none⟩ v (fun e => by injection e with _ e; exact h e.symm)
theorem cellN_eq {w : World} {g o : Nat} {u : Value} (v : Value) (h : w.cell? ⟨g, o, none⟩ = some u) : (w.setCell ⟨g, o, none⟩ v).cell? ⟨g, o, none⟩ = some v :=
  World.cell?_setCell_same w ⟨g, o, none⟩ v h
theorem NSt.put {B : Nat} {w0 : World} {g off : Nat} {d : Array Nat} {W : World} (h : NSt B w0 g off d W) {k : Nat} (hk : k < d.size) (x : Nat) : NSt B w0 g off (d.setIfInBounds k x) (W.setCell ⟨g, off + k, none⟩ (.int .u64 (x : Nat))) := by
  refine ⟨h.bel.setCell (p := ⟨g, off + k, none⟩) h.old _, fun j hj => ?_, fun o => ?_, h.old, ?_⟩
  · rw [Array.size_setIfInBounds] at hj
    by_cases e : k = j
    · subst e
      rw [cellN_eq _ (h.at_ k hk)]
      simp [hk]
    · rw [cellN_ne _ (by omega), h.at_ j hj]
      simp [hj, e]
  · rw [World.frozen?_setCell]; exact h.free o
  · rw [World.size_setCell]; exact h.lt
/-- Two places exchanged, as one statement does it. -/
theorem NSt.swap {B : Nat} {w0 : World} {g off : Nat} {d : Array Nat} {W : World} (h : NSt B w0 g off d W) {i j : Nat} (hi : i < d.size) (hj : j < d.size) :
    NSt B w0 g off (swp d i j) ((W.setCell ⟨g, off + i, none⟩ (.int .u64 (d[j]! : Nat))).setCell ⟨g, off + j, none⟩ (.int .u64 (d[i]! : Nat))).drew :=
  ((h.put hi d[j]!).put (k := j) (by rw [Array.size_setIfInBounds]; exact hj) d[i]!).drew
theorem size_swp (d : Array Nat) (i j : Nat) : (swp d i j).size = d.size := by unfold swp; rw [Array.size_setIfInBounds, Array.size_setIfInBounds]
def ltN (x y : Nat) : Bool := decide (x < y)
theorem swoN : Go.Sort.SWO ltN where
  irrefl x := by simp [ltN]
  trans x y z h1 h2 := by simp [ltN] at *; omega
  ntrans x y z h1 h2 := by simp [ltN] at *; omega
set_option maxHeartbeats 1000000 in
theorem less_any (x y : Nat) (w : World) : Calls Try.prog 127 #[.int .u64 (x : Nat), .int .u64 (y : Nat)] w (fun e w' => e = .returned (.bool (ltN x y)) ∧ w' = w) := by
  have Hn := hid_ (fun (z : Nat) W => Rg.isnan_any z W)
  cases hl : ltN x y
  · have e1 : decide (x < y) = false := hl
    have Hl := hid_ hl
    clear hl
    go_enter Try.func127, Try.ntmps127
    go_wp2_with (go_at_call 103; (with_reducible refine Calls.mono (Hn.out _ _) ?_); rintro e w' ⟨rfl, rfl⟩)
    go_ret
    exact ⟨by rfl, rfl⟩
  · have e1 : decide (x < y) = true := hl
    have Hl := hid_ hl
    clear hl
    go_enter Try.func127, Try.ntmps127
    go_wp2_with (go_at_call 103; (with_reducible refine Calls.mono (Hn.out _ _) ?_); rintro e w' ⟨rfl, rfl⟩)
    go_ret
    exact ⟨by rfl, rfl⟩
/-- No result, the row as it is to be. -/
def SPost (B : Nat) (w0 : World) (g off : Nat) (d : Array Nat) (e : Ending) (W : World) : Prop := e = .returned (.tuple #[]) ∧ NSt B w0 g off d W
end Ns
end Go.Proofs.Ytgmeggilojcoeaa

/-
  The library's insertion sort at uint64.
-/
namespace Go.Proofs.Ytgmeggilojcoeaa
set_option linter.unusedSimpArgs false
set_option linter.unusedVariables false
open Go.RowKit Go.Sort
namespace Ns
set_option linter.unusedSimpArgs false
set_option linter.unusedVariables false
theorem size_insInner (a : Nat) : ∀ (j : Nat) (d : Array Nat), (insInner ltN a j d).size = d.size
  | 0, d => by rw [insInner_stop _ _ _ _ (.inl (Nat.zero_le _))]
  | j + 1, d => by
    by_cases h : a < j + 1 ∧ ltN d[j + 1]! d[j + 1 - 1]! = true
    · rw [insInner_go _ _ _ _ h.1 h.2, Nat.add_sub_cancel, size_insInner a j, size_swp]
    · rw [insInner_stop _ _ _ _ (by
        rcases Nat.lt_or_ge a (j + 1) with h1 | h1
        · right
          cases hx : ltN d[j + 1]! d[j + 1 - 1]!
          · rfl
          · exact absurd ⟨h1, hx⟩ h
        · exact .inl h1)]
set_option maxRecDepth 100000 in
set_option maxHeartbeats 4000000 in
theorem ins_any (B : Nat) (w0 : World) (g off n c a b : Nat) (d : Array Nat) (w : World) (h : NSt B w0 g off d w) (hn : d.size = n) (hm : n ≤ 1000000000) (hnc : n ≤ c) (hab : a ≤ b) (hb : b ≤ n) :
    Calls Try.prog 121 #[.slice (some ⟨g, off, none⟩) n c, .int .i64 (a : Nat), .int .i64 (b : Nat)] w (SPost B w0 g off (insertionSort ltN d a b)) := by
  have HN := hid_ hn
  have H0 := hid_ h
  have Hl := hid_ (fun (x y : Nat) W => less_any x y W)
  clear h hn
  go_enter Try.func121, Try.ntmps121
  go_wp2_with fail
  go_loopw [6] (fun v6 wr => ∃ (i : Nat) (dk : Array Nat), v6 = .int .i64 i ∧ a < i ∧ i ≤ b + 1 ∧ Hid (dk.size = n) ∧ Hid (NSt B w0 g off dk wr) ∧ Hid (insOuter ltN a b i dk = insOuter ltN a b (a + 1) d)) (fun v6 _ => b + 1 - (intOf v6).toNat)
  case atStart => exact ⟨a + 1, d, by go_num, by omega, by omega, HN, H0, hid_ rfl⟩
  case round =>
    obtain ⟨i, dk, rfl, hai, hib, HSk, HK, HO⟩ := hrel
    by_cases hlt : i < b
    · have HLT := hid_ hlt
      obtain ⟨wo, hwo⟩ : ∃ wo : World, wo = wr := ⟨_, rfl⟩
      subst hwo
      go_wp2_with fail
      go_loopw [7] (fun v7 wi => ∃ (j : Nat) (dj : Array Nat), v7 = .int .i64 j ∧ a ≤ j ∧ j ≤ i ∧ Hid (dj.size = n) ∧ Hid (NSt B w0 g off dj wi) ∧ Hid (insInner ltN a j dj = insInner ltN a i dk)) (fun v7 _ => (intOf v7).toNat)
      case atStart => exact ⟨i, dk, rfl, by omega, Nat.le_refl _, HSk, HK, hid_ rfl⟩
      case round =>
        obtain ⟨j, dj, rfl, haj, hji, HSj, HJ, HI⟩ := hrel
        have Hout := hid_ (fun (hs : j ≤ a ∨ ltN dj[j]! dj[j - 1]! = false) => (show insOuter ltN a b (i + 1) dj = insOuter ltN a b (a + 1) d by rw [← HO.out, insOuter_go _ _ _ _ _ HLT.out, ← HI.out, insInner_stop _ _ _ _ hs]))
        by_cases hja : a < j
        · have hc1 := HJ.out.at_ j (by have := HSj.out; omega)
          have hc2 := HJ.out.at_ (j - 1) (by have := HSj.out; omega)
          have hf := HJ.out.free
          have HSW := hid_ (fun (W : World) (hW : NSt B w0 g off dj W) => And.intro (hW.at_ j (by have := HSj.out; omega)) (And.intro (hW.at_ (j - 1) (by have := HSj.out; omega)) (hW.swap (i := j) (j := j - 1) (by have := HSj.out; omega) (by have := HSj.out; omega))))
          have Hgo := hid_ (fun hl => insInner_go (lt := ltN) a j dj hja hl)
          generalize dj[j]! = x at *
          generalize dj[j - 1]! = y at *
          have e1 : decide ((j : Int) > (a : Int)) = true := decide_eq_true (by omega)
          have e2 : decide ((a : Int) < (j : Int)) = true := decide_eq_true (by omega)
          have e3 : decide (a < j) = true := decide_eq_true hja
          have m1 : (0 : Int) ≤ (j : Int) := by omega
          have m2 : (j : Int) < (n : Int) := by omega
          have m3 : (0 : Int) ≤ (j : Int) - 1 := by omega
          have m4 : (j : Int) - 1 < (n : Int) := by omega
          have m5 : (1 : Int) ≤ (j : Int) := by omega
          have m6 : ((j : Int) - 1).toNat = j - 1 := by omega
          cases hl : ltN x y
          · have Hlv := hid_ (fun W => less_any x y W)
            rw [hl] at Hlv
            have Hov := hid_ (Hout.out (.inr hl))
            clear hl hf
            go_wp2_with fail
            go_quiet ((go_at_call 127; exact Calls.quiet_of_same (Hlv.out _)))
            go_wp2_with fail
            go_roundw
            case rel => exact ⟨i + 1, dj, by go_num, by omega, by have := HLT.out; omega, HSj, hid_ (HJ.out.drewN _), Hov⟩
            case measure => have := HLT.out; simp [intOf]; omega
          · have Hlv := hid_ (fun W => less_any x y W)
            rw [hl] at Hlv
            have Hgv := hid_ (Hgo.out hl)
            clear hl
            have HF := hid_ hf
            clear hf
            go_wp2_with fail
            go_quiet ((go_at_call 127; exact Calls.quiet_of_same (Hlv.out _)))
            have HQ := hid_ (HJ.out.drewN nq)
            clear hc1 hc2
            generalize wr.drewN nq = wq at *
            obtain ⟨hc1, hc2, hsw⟩ := HSW.out wq HQ.out
            have HS := hid_ hsw
            have hf1 := HQ.out.free
            have hgl : g < wq.heap.size := HQ.out.lt
            clear hsw
            go_wp2_with fail
            go_region
            go_wp2_with fail
            go_roundw
            case rel => exact ⟨j - 1, swp dj j (j - 1), by first | go_num | (congr 1; omega), by omega, by omega, hid_ (by rw [size_swp]; exact HSj.out), HS, hid_ (by rw [← Hgv.out]; exact HI.out)⟩
            case measure => simp [intOf]; omega
        · obtain rfl : j = a := by omega
          have e1 : decide ((j : Int) > (j : Int)) = false := decide_eq_false (by omega)
          have e2 : decide ((j : Int) < (j : Int)) = false := decide_eq_false (by omega)
          have e3 : decide (j < j) = false := decide_eq_false (by omega)
          have Hov := hid_ (Hout.out (.inl (Nat.le_refl _)))
          go_wp2_with fail
          go_quiet (fail)
          go_wp2_with fail
          go_roundw
          case rel => exact ⟨i + 1, dj, by go_num, by omega, by have := HLT.out; omega, HSj, hid_ (HJ.out.drewN _), Hov⟩
          case measure => have := HLT.out; simp [intOf]; omega
    · have Hend := hid_ (show NSt B w0 g off (insertionSort ltN d a b) wr from HK.out.to (by rw [show insertionSort ltN d a b = insOuter ltN a b (a + 1) d from rfl, ← HO.out, insOuter_stop _ _ _ _ _ hlt]))
      go_wp2_with fail
      go_end0
      exact ⟨rfl, Hend.out⟩
end Ns
end Go.Proofs.Ytgmeggilojcoeaa

/-
  The library's reverseRange at uint64.
-/
namespace Go.Proofs.Ytgmeggilojcoeaa
set_option linter.unusedSimpArgs false
set_option linter.unusedVariables false
open Go.RowKit Go.Sort
namespace Ns
set_option linter.unusedSimpArgs false
set_option linter.unusedVariables false
theorem rev_go (i j : Nat) (d : Array Nat) (h : i < j) : reverseLoop i j d = reverseLoop (i + 1) (j - 1) (swp d i j) := by rw [reverseLoop, if_pos h]
theorem rev_stop (i j : Nat) (d : Array Nat) (h : ¬ i < j) : reverseLoop i j d = d := by rw [reverseLoop, if_neg h]
set_option maxRecDepth 100000 in
set_option maxHeartbeats 4000000 in
theorem rev_any (B : Nat) (w0 : World) (g off n c a b : Nat) (d : Array Nat) (w : World) (h : NSt B w0 g off d w) (hn : d.size = n) (hm : n ≤ 1000000000) (hnc : n ≤ c) (hab : a < b) (hb : b ≤ n) :
    Calls Try.prog 125 #[.slice (some ⟨g, off, none⟩) n c, .int .i64 (a : Nat), .int .i64 (b : Nat)] w (SPost B w0 g off (reverseRange d a b)) := by
  have HN := hid_ hn
  have H0 := hid_ h
  clear h hn
  go_enter Try.func125, Try.ntmps125
  go_wp2_with fail
  go_loopw [6, 7] (fun v6 v7 wr => ∃ (i j : Nat) (dk : Array Nat), v6 = .int .i64 i ∧ v7 = .int .i64 j ∧ i ≤ n ∧ j < n ∧ Hid (dk.size = n) ∧ Hid (NSt B w0 g off dk wr) ∧ Hid (reverseLoop i j dk = reverseLoop a (b - 1) d)) (fun v6 v7 _ => (intOf v7 - intOf v6).toNat)
  case atStart => exact ⟨a, b - 1, d, rfl, by first | go_num | (congr 1; omega), by omega, by omega, HN, H0, hid_ rfl⟩
  case round =>
    obtain ⟨i, j, dk, rfl, rfl, hi, hj, HSk, HK, HR⟩ := hrel
    by_cases hlt : i < j
    · have hc1 := HK.out.at_ i (by have := HSk.out; omega)
      have hc2 := HK.out.at_ j (by have := HSk.out; omega)
      have hf1 := HK.out.free
      have hgl := HK.out.lt
      have HS := hid_ (HK.out.swap (i := i) (j := j) (by have := HSk.out; omega) (by have := HSk.out; omega))
      have Hgo := hid_ (rev_go i j dk hlt)
      generalize dk[i]! = x at *
      generalize dk[j]! = y at *
      have e1 : decide ((i : Int) < (j : Int)) = true := decide_eq_true (by omega)
      have e2 : decide (i < j) = true := decide_eq_true hlt
      have m1 : (0 : Int) ≤ (i : Int) := by omega
      have m2 : (i : Int) < (n : Int) := by omega
      have m3 : (0 : Int) ≤ (j : Int) := by omega
      have m4 : (j : Int) < (n : Int) := by omega
      have hne : ¬ i = j := by omega
      have hne2 : ¬ j = i := by omega
      have HLT := hid_ hlt
      clear hlt
      go_wp2_with fail
      go_region
      go_wp2_with fail
      go_roundw
      case rel => exact ⟨i + 1, j - 1, swp dk i j, by go_num, by first | go_num | (congr 1; have := HLT.out; omega), by have := HLT.out; omega, by omega, hid_ (by rw [size_swp]; exact HSk.out), HS, hid_ (by rw [← Hgo.out]; exact HR.out)⟩
      case measure => have := HLT.out; simp [intOf]; omega
    · have Hend := hid_ (show NSt B w0 g off (reverseRange d a b) wr from HK.out.to (by rw [show reverseRange d a b = reverseLoop a (b - 1) d from rfl, ← HR.out, rev_stop _ _ _ hlt]))
      go_wp2_with fail
      go_end0
      exact ⟨rfl, Hend.out⟩
end Ns
end Go.Proofs.Ytgmeggilojcoeaa
