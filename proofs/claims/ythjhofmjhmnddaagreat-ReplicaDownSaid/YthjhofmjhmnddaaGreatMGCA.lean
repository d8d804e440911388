/-
  A row of numbers (uint64) in a block, sorted in place: how it reads, an exchange, cmp.Less.
-/
import Derived.Test.YthjhofmjhmnddaaGreatMGAQ
import Derived.Test.YthjhofmjhmnddaaGreatMShelf
import Derived.Sort.WalkA
import Derived.Sort.Walk13a
import Derived.Sort.AssemblyPlain
import Derived.Deep.Cut
set_option linter.unusedSimpArgs false
set_option linter.unusedVariables false
namespace Go.Proofs.YthjhofmjhmnddaaGreat
open Go.RowKit Go.Sort
namespace Ns
structure NSt (B : Nat) (w0 : World) (g off : Nat) (d : Array Nat) (W : World) : Prop where
 bel : Below B w0 W
 at_ : ∀ k, k < d.size → W.cell? ⟨g, off + k, none⟩ = some (.int .u64 (d[k]! : Nat))
 free : ∀ o, W.frozen? ⟨g, o, none⟩ = false
 old : B ≤ g
 lt : g < W.heap.size
theorem NSt.keep {B : Nat} {w0 : World} {g off : Nat} {d : Array Nat} {W W' : World} (h : NSt B w0 g off d W) (hb : Below W.heap.size W W') (hB : B ≤ W.heap.size) : NSt B w0 g off d W' :=
 ⟨h.bel.trans (hb.mono hB), fun k hk => by rw [hb.cell (p := ⟨g, off + k, none⟩) h.lt]; exact h.at_ k hk, fun o => by rw [hb.frozen (p := ⟨g, o, none⟩) h.lt]; exact h.free o, h.old, Nat.lt_of_lt_of_le h.lt hb.size⟩
theorem NSt.base {B : Nat} {w0 : World} {g off : Nat} {d : Array Nat} {W : World} (h : NSt B w0 g off d W) : B ≤ W.heap.size := Nat.le_trans h.old (Nat.le_of_lt h.lt)
theorem NSt.drewN {B : Nat} {w0 : World} {g off : Nat} {d : Array Nat} {W : World} (h : NSt B w0 g off d W) (q : Nat) : NSt B w0 g off d (W.drewN q) := h.keep (below_drewN (Below.refl _ _) q) h.base
theorem NSt.drew {B : Nat} {w0 : World} {g off : Nat} {d : Array Nat} {W : World} (h : NSt B w0 g off d W) : NSt B w0 g off d W.drew := h.keep (Below.drew (Below.refl _ _)) h.base
theorem NSt.to {B : Nat} {w0 : World} {g off : Nat} {d d' : Array Nat} {W : World} (h : NSt B w0 g off d W) (e : d = d') : NSt B w0 g off d' W := by subst e; exact h
theorem cellN_ne {w : World} {g o o' : Nat} (v : Value) (h : o' ≠ o) : (w.setCell ⟨g, o, none⟩ v).cell? ⟨g, o', none⟩ = w.cell? ⟨g, o', none⟩ :=
 World.cell?_setCell_other w ⟨g, o, none⟩ ⟨g, o', none⟩ v (fun e => by injection e with _ e; exact h e.symm)
theorem cellN_eq {w : World} {g o : Nat} {u : Value} (v : Value) (h : w.cell? ⟨g, o, none⟩ = some u) : (w.setCell ⟨g, o, none⟩ v).cell? ⟨g, o, none⟩ = some v :=
 World.cell?_setCell_same w ⟨g, o, none⟩ v h
theorem NSt.put {B : Nat} {w0 : World} {g off : Nat} {d : Array Nat} {W : World} (h : NSt B w0 g off d W) {k : Nat} (hk : k < d.size) (x : Nat) : NSt B w0 g off (d.setIfInBounds k x) (W.setCell ⟨g, off + k, none⟩ (.int .u64 (x : Nat))) := by
 refine ⟨h.bel.setCell (p := ⟨g, off + k, none⟩) h.old _, fun j hj => ?_, fun o => ?_, h.old, ?_⟩
 ·rw [Array.size_setIfInBounds] at hj
  by_cases e : k = j
  ·subst e
   rw [cellN_eq _ (h.at_ k hk)]
   simp [hk]
  ·rw [cellN_ne _ (by omega), h.at_ j hj]
   simp [hj, e]
 ·rw [World.frozen?_setCell]; exact h.free o
 ·rw [World.size_setCell]; exact h.lt
theorem NSt.swap {B : Nat} {w0 : World} {g off : Nat} {d : Array Nat} {W : World} (h : NSt B w0 g off d W) {i j : Nat} (hi : i < d.size) (hj : j < d.size) :
  NSt B w0 g off (swp d i j) ((W.setCell ⟨g, off + i, none⟩ (.int .u64 (d[j]! : Nat))).setCell ⟨g, off + j, none⟩ (.int .u64 (d[i]! : Nat))).drew :=
 ((h.put hi d[j]!).put (k := j) (by rw [Array.size_setIfInBounds]; exact hj) d[i]!).drew
theorem size_swp (d : Array Nat) (i j : Nat) : (swp d i j).size = d.size := by unfold swp; rw [Array.size_setIfInBounds, Array.size_setIfInBounds]
def ltN (x y : Nat) : Bool := decide (x < y)
theorem swoN : Go.Sort.SWO ltN where
 irrefl x := by simp [ltN]
 trans x y z h1 h2 := by simp [ltN] at *; omega
 ntrans x y z h1 h2 := by simp [ltN] at *; omega
set_option maxHeartbeats 1000000 in
theorem less_any (x y : Nat) (w : World) : Calls Tryz.prog 116 #[.int .u64 (x : Nat), .int .u64 (y : Nat)] w (fun e w' => e = .returned (.bool (ltN x y)) ∧ w' = w) := by
 have Hn := hid_ (fun (z : Nat) W => Rg.isnan_any z W)
 cases hl : ltN x y
 ·have e1 : decide (x < y) = false := hl
  have Hl := hid_ hl
  clear hl
  go_enter Tryz.func116, Tryz.ntmps116
  go_wp2_with (go_at_call 144; (with_reducible refine Calls.mono (Hn.out _ _) ?_); rintro e w' ⟨rfl, rfl⟩)
  go_ret
  exact ⟨by rfl, rfl⟩
 ·have e1 : decide (x < y) = true := hl
  have Hl := hid_ hl
  clear hl
  go_enter Tryz.func116, Tryz.ntmps116
  go_wp2_with (go_at_call 144; (with_reducible refine Calls.mono (Hn.out _ _) ?_); rintro e w' ⟨rfl, rfl⟩)
  go_ret
  exact ⟨by rfl, rfl⟩
def SPost (B : Nat) (w0 : World) (g off : Nat) (d : Array Nat) (e : Ending) (W : World) : Prop := e = .returned (.tuple #[]) ∧ NSt B w0 g off d W
end Ns
end Go.Proofs.YthjhofmjhmnddaaGreat
/-
 The library's insertion sort at uint64.
-/
namespace Go.Proofs.YthjhofmjhmnddaaGreat
open Go.RowKit Go.Sort
namespace Ns
set_option maxRecDepth 100000 in
set_option maxHeartbeats 4000000 in
theorem ins_any (B : Nat) (w0 : World) (g off n c a b : Nat) (d : Array Nat) (w : World) (h : NSt B w0 g off d w) (hn : d.size = n) (hm : n ≤ 1000000000) (hnc : n ≤ c) (hab : a ≤ b) (hb : b ≤ n) :
  Calls Tryz.prog 110 #[.slice (some ⟨g, off, none⟩) n c, .int .i64 (a : Nat), .int .i64 (b : Nat)] w (SPost B w0 g off (insertionSort ltN d a b)) := by
 have HN := hid_ hn
 have H0 := hid_ h
 have Hl := hid_ (fun (x y : Nat) W => less_any x y W)
 clear h hn
 go_enter Tryz.func110, Tryz.ntmps110
 go_wp2_with fail
 go_loopw [6] (fun v6 wr => ∃ (i : Nat) (dk : Array Nat), v6 = .int .i64 i ∧ a < i ∧ i ≤ b + 1 ∧ Hid (dk.size = n) ∧ Hid (NSt B w0 g off dk wr) ∧ Hid (insOuter ltN a b i dk = insOuter ltN a b (a + 1) d)) (fun v6 _ => b + 1 - (intOf v6).toNat)
 case atStart => exact ⟨a + 1, d, by go_num, by omega, by omega, HN, H0, hid_ rfl⟩
 case round =>
  obtain ⟨i, dk, rfl, hai, hib, HSk, HK, HO⟩ := hrel
  by_cases hlt : i < b
  ·have HLT := hid_ hlt
   obtain ⟨wo, hwo⟩ : ∃ wo : World, wo = wr := ⟨_, rfl⟩
   subst hwo
   go_wp2_with fail
   go_loopw [7] (fun v7 wi => ∃ (j : Nat) (dj : Array Nat), v7 = .int .i64 j ∧ a ≤ j ∧ j ≤ i ∧ Hid (dj.size = n) ∧ Hid (NSt B w0 g off dj wi) ∧ Hid (insInner ltN a j dj = insInner ltN a i dk)) (fun v7 _ => (intOf v7).toNat)
   case atStart => exact ⟨i, dk, rfl, by omega, Nat.le_refl _, HSk, HK, hid_ rfl⟩
   case round =>
    obtain ⟨j, dj, rfl, haj, hji, HSj, HJ, HI⟩ := hrel
    have Hout := hid_ (fun (hs : j ≤ a ∨ ltN dj[j]! dj[j - 1]! = false) => (show insOuter ltN a b (i + 1) dj = insOuter ltN a b (a + 1) d by rw [← HO.out, insOuter_go _ _ _ _ _ HLT.out, ← HI.out, insInner_stop _ _ _ _ hs]))
    by_cases hja : a < j
    ·have hc1 := HJ.out.at_ j (by have := HSj.out; omega)
     have hc2 := HJ.out.at_ (j - 1) (by have := HSj.out; omega)
     have hf := HJ.out.free
     have HSW := hid_ (fun (W : World) (hW : NSt B w0 g off dj W) => And.intro (hW.at_ j (by have := HSj.out; omega)) (And.intro (hW.at_ (j - 1) (by have := HSj.out; omega)) (hW.swap (i := j) (j := j - 1) (by have := HSj.out; omega) (by have := HSj.out; omega))))
     have Hgo := hid_ (fun hl => insInner_go (lt := ltN) a j dj hja hl)
     generalize dj[j]! = x at *
     generalize dj[j - 1]! = y at *
     have e1 : decide ((j : Int) > (a : Int)) = true := decide_eq_true (by omega)
     have e2 : decide ((a : Int) < (j : Int)) = true := decide_eq_true (by omega)
     have e3 : decide (a < j) = true := decide_eq_true hja
     have m1 : (0 : Int) ≤ (j : Int) := by omega
     have m2 : (j : Int) < (n : Int) := by omega
     have m3 : (0 : Int) ≤ (j : Int) - 1 := by omega
     have m4 : (j : Int) - 1 < (n : Int) := by omega
     have m5 : (1 : Int) ≤ (j : Int) := by omega
     have m6 : ((j : Int) - 1).toNat = j - 1 := by omega
     cases hl : ltN x y
     ·have Hlv := hid_ (fun W => less_any x y W)
      rw [hl] at Hlv
      have Hov := hid_ (Hout.out (.inr hl))
      clear hl hf
      go_wp2_with fail
      go_quiet ((go_at_call 116; exact Calls.quiet_of_same (Hlv.out _)))
      go_wp2_with fail
      go_roundw
      case rel => exact ⟨i + 1, dj, by go_num, by omega, by have := HLT.out; omega, HSj, hid_ (HJ.out.drewN _), Hov⟩
      case measure => have := HLT.out; simp [intOf]; omega
     ·have Hlv := hid_ (fun W => less_any x y W)
      rw [hl] at Hlv
      have Hgv := hid_ (Hgo.out hl)
      clear hl
      have HF := hid_ hf
      clear hf
      go_wp2_with fail
      go_quiet ((go_at_call 116; exact Calls.quiet_of_same (Hlv.out _)))
      have HQ := hid_ (HJ.out.drewN nq)
      clear hc1 hc2
      generalize wr.drewN nq = wq at *
      obtain ⟨hc1, hc2, hsw⟩ := HSW.out wq HQ.out
      have HS := hid_ hsw
      have hf1 := HQ.out.free
      have hgl : g < wq.heap.size := HQ.out.lt
      clear hsw
      go_wp2_with fail
      go_region
      go_wp2_with fail
      go_roundw
      case rel => exact ⟨j - 1, swp dj j (j - 1), by first | go_num | (congr 1; omega), by omega, by omega, hid_ (by rw [size_swp]; exact HSj.out), HS, hid_ (by rw [← Hgv.out]; exact HI.out)⟩
      case measure => simp [intOf]; omega
    ·obtain rfl : j = a := by omega
     have e1 : decide ((j : Int) > (j : Int)) = false := decide_eq_false (by omega)
     have e2 : decide ((j : Int) < (j : Int)) = false := decide_eq_false (by omega)
     have e3 : decide (j < j) = false := decide_eq_false (by omega)
     have Hov := hid_ (Hout.out (.inl (Nat.le_refl _)))
     go_wp2_with fail
     go_quiet (fail)
     go_wp2_with fail
     go_roundw
     case rel => exact ⟨i + 1, dj, by go_num, by omega, by have := HLT.out; omega, HSj, hid_ (HJ.out.drewN _), Hov⟩
     case measure => have := HLT.out; simp [intOf]; omega
  ·have Hend := hid_ (show NSt B w0 g off (insertionSort ltN d a b) wr from HK.out.to (by rw [show insertionSort ltN d a b = insOuter ltN a b (a + 1) d from rfl, ← HO.out, insOuter_stop _ _ _ _ _ hlt]))
   go_wp2_with fail
   go_end0
   exact ⟨rfl, Hend.out⟩
end Ns
end Go.Proofs.YthjhofmjhmnddaaGreat
/-
 One round of pdqsort at uint64, plain: its values, their sizes and ranges.
-/
namespace Go.Proofs.YthjhofmjhmnddaaGreat
open Go.RowKit Go.Sort
namespace Ns
theorem piv_mid (lt : Nat → Nat → Bool) (d : Array Nat) (a b : Nat) (h : 12 < b - a) : a < (choosePivot lt d a b).1 ∧ (choosePivot lt d a b).1 + 1 < b := by
 obtain ⟨L, hL⟩ : ∃ L : Nat, b = a + L := ⟨b - a, by omega⟩
 subst hL
 obtain ⟨q, hq⟩ : ∃ q : Nat, q = L / 4 := ⟨_, rfl⟩
 have h0 : a + L - a = L := by omega
 have h8 : L ≥ 8 := by omega
 unfold choosePivot
 simp only []
 rw [h0, if_pos h8, ← hq]
 have q1 : 4 * q ≤ L := by omega
 have q2 : 3 ≤ q := by omega
 have key : ∀ i j k s : Nat, (a < i ∧ i + 1 < a + L) → (a < j ∧ j + 1 < a + L) → (a < k ∧ k + 1 < a + L) → a < (median lt d i j k s).1 ∧ (median lt d i j k s).1 + 1 < a + L := by
  intro i j k s hi hj hk
  rcases median_mem lt d i j k s with e | e | e <;> rw [e] <;> assumption
 have adj : ∀ i s : Nat, (a + 1 < i ∧ i + 2 < a + L) → a < (medianAdjacent lt d i s).1 ∧ (medianAdjacent lt d i s).1 + 1 < a + L := by
  intro i s hi
  rcases medianAdjacent_mem lt d i s with e | e | e <;> rw [e] <;> omega
 by_cases h50 : L ≥ 50
 ·simp only [if_pos h50]
  exact key _ _ _ _ (adj _ _ (by omega)) (adj _ _ (by omega)) (adj _ _ (by omega))
 ·simp only [if_neg h50]
  exact key _ _ _ _ (by omega) (by omega) (by omega)
structure RdOk (n : Nat) (dk : Array Nat) (a b lim : Nat) (wb wp : Bool) (res : Array Nat) (d1 : Array Nat) (lim' c1 : Nat) (c2 : Hint) (d2 : Array Nat) (pv : Nat) (hint : Hint) (p1 : Array Nat) (p2 : Bool) : Prop where
 no : wb = false → d1 = breakPatterns dk a b ∧ lim' = lim - 1
 yes : wb = true → d1 = dk ∧ lim' = lim
 piv : choosePivot ltN d1 a b = (c1, c2)
 dec : c2 = .decreasing → d2 = reverseRange d1 a b ∧ pv = (b - 1) - (c1 - a) ∧ hint = .increasing
 nod : c2 ≠ .decreasing → d2 = d1 ∧ pv = c1 ∧ hint = c2
 piy : (wb && wp && decide (hint = .increasing)) = true → partialInsertionSort ltN d2 a b = (p1, p2)
 pin : (wb && wp && decide (hint = .increasing)) = false → p1 = d2 ∧ p2 = false
 s1 : d1.size = n
 s2 : d2.size = n
 s3 : p1.size = n
 below : Go.Sort.Below ltN a b p1
 c1a : a < c1
 c1b : c1 + 1 < b
 pva : a < pv
 pvb : pv < b
 lim : lim' ≤ lim
 done : p2 = true → res = p1
 eq : p2 = false → (decide (a > 0) && !ltN p1[a - 1]! p1[pv]!) = true → a < (partitionEqual ltN p1 a b pv).1 → (partitionEqual ltN p1 a b pv).1 ≤ b → res = pdq ltN (partitionEqual ltN p1 a b pv).2 (partitionEqual ltN p1 a b pv).1 b lim' wb wp
 left : p2 = false → (decide (a > 0) && !ltN p1[a - 1]! p1[pv]!) = false → a ≤ (partition ltN p1 a b pv).1 → (partition ltN p1 a b pv).1 < b → (partition ltN p1 a b pv).1 - a < b - (partition ltN p1 a b pv).1 →
  res = pdq ltN (pdq ltN (partition ltN p1 a b pv).2.2 a (partition ltN p1 a b pv).1 lim' true true) ((partition ltN p1 a b pv).1 + 1) b lim' (decide ((partition ltN p1 a b pv).1 - a ≥ (b - a) / 8)) (partition ltN p1 a b pv).2.1
 right : p2 = false → (decide (a > 0) && !ltN p1[a - 1]! p1[pv]!) = false → a ≤ (partition ltN p1 a b pv).1 → (partition ltN p1 a b pv).1 < b → ¬ (partition ltN p1 a b pv).1 - a < b - (partition ltN p1 a b pv).1 →
  res = pdq ltN (pdq ltN (partition ltN p1 a b pv).2.2 ((partition ltN p1 a b pv).1 + 1) b lim' true true) a (partition ltN p1 a b pv).1 lim' (decide (b - (partition ltN p1 a b pv).1 ≥ (b - a) / 8)) (partition ltN p1 a b pv).2.1
theorem rd_ok {n : Nat} {dk : Array Nat} {a b lim : Nat} {wb wp : Bool} {res : Array Nat} (hn : dk.size = n) (h12 : ¬ b - a ≤ 12) (hb : b ≤ n) (hl0 : ¬ lim = 0) (hB : Go.Sort.Below ltN a b dk) (hres : pdq ltN dk a b lim wb wp = res) :
  ∃ d1 lim' c1 c2 d2 pv hint p1 p2, RdOk n dk a b lim wb wp res d1 lim' c1 c2 d2 pv hint p1 p2 := by
 obtain ⟨s1, B1, hc1, s2, B2, hpv, s3, B3⟩ := rd_facts (limit := lim) (wb := wb) (wp := wp) swoN partialInsertionSort_holds reverseRange_holds (show a < b by omega) (show b ≤ dk.size by omega) hB
 have hm := piv_mid ltN (rd ltN dk a b lim wb wp).d1 a b (by omega)
 rw [← rd_c] at hm
 refine ⟨(rd ltN dk a b lim wb wp).d1, (rd ltN dk a b lim wb wp).lim, (rd ltN dk a b lim wb wp).c.1, (rd ltN dk a b lim wb wp).c.2, (rd ltN dk a b lim wb wp).d2, (rd ltN dk a b lim wb wp).pivot, (rd ltN dk a b lim wb wp).hint, (rd ltN dk a b lim wb wp).pi.1, (rd ltN dk a b lim wb wp).pi.2, ?_⟩
 constructor
 ·rintro rfl; exact rd_false
 ·rintro rfl; exact rd_true
 ·exact rd_c.symm
 ·exact rd_dec
 ·exact rd_not
 ·intro h; exact (rd_pi_yes h).symm
 ·intro h; rw [rd_pi_no h]; exact ⟨rfl, rfl⟩
 ·omega
 ·omega
 ·omega
 ·exact B3
 ·exact hm.1
 ·exact hm.2
 ·by_cases hd : (rd ltN dk a b lim wb wp).c.2 = .decreasing
  ·rw [(rd_dec hd).2.1]; omega
  ·rw [(rd_not hd).2.1]; omega
 ·exact hpv.2
 ·exact rd_lim_le
 ·intro h; rw [← hres, pdq_done h12 hl0 h]
 ·intro h h2 h3 h4; rw [← hres]; exact pdq_eq h12 hl0 h h2 ⟨h3, h4⟩
 ·intro h h2 h3 h4 h5; rw [← hres]; exact pdq_left h12 hl0 h h2 ⟨h3, h4⟩ h5
 ·intro h h2 h3 h4 h5; rw [← hres]; exact pdq_right h12 hl0 h h2 ⟨h3, h4⟩ h5
end Ns
end Go.Proofs.YthjhofmjhmnddaaGreat
/-
 The library's slices.Sort at uint64: a sorted permutation, in place.
-/
namespace Go.Proofs.YthjhofmjhmnddaaGreat
open Go.RowKit Go.Sort
namespace Ns
def maxR : Nat := 12
theorem maxR_le : maxR ≤ 1000000 := by decide
theorem perm_of_in {d d' : Array Nat} (h : PermIn 0 d.size d d') : d'.toList.Perm d.toList := by
 have := h.2.2
 rw [← h.1] at this
 rwa [Array.extract_size, h.1, Array.extract_size] at this
theorem pairwise_of_in {d : Array Nat} (h : SortedIn ltN 0 d.size d) : d.toList.Pairwise (· ≤ ·) := by
 rw [List.pairwise_iff_getElem]
 intro i j hi hj hij
 have hi' : i < d.size := by simpa using hi
 have hj' : j < d.size := by simpa using hj
 have := h i j (Nat.zero_le _) hij hj'
 rw [getElem!_pos d i hi', getElem!_pos d j hj'] at this
 have h2 := of_decide_eq_false this
 rw [Array.getElem_toList, Array.getElem_toList]
 omega
theorem num_cell (ids : List Nat) {k : Nat} {u : Value} (h : (Rg.numE.all ids)[k]? = some u) : ∃ hk : k < ids.length, u = .int .u64 (ids[k] : Nat) := by
 have hk : k < ids.length := by
  have := (List.getElem?_eq_some_iff.1 h).1
  rw [Rg.numE.all_length] at this
  simpa [Rg.numE] using this
 refine ⟨hk, ?_⟩
 have h1 := Rg.numE.all_get ids hk 0 (by decide)
 have h2 : (Rg.numE.cf ids[k])[0]? = some (.int .u64 (ids[k] : Nat)) := rfl
 rw [h2] at h1
 have e : k * Rg.numE.K + 0 = k := by show k * 1 + 0 = k; omega
 rw [e, h] at h1
 exact Option.some.inj h1
theorem nst_of {B : Nat} {w : World} {g off n c : Nat} {ids : List Nat} (h : Rg.numE.Row w (some ⟨g, off, none⟩) n c ids) (hB : B ≤ g) (hg : g < w.heap.size) (hf : ∀ o, w.frozen? ⟨g, o, none⟩ = false) : NSt B w g off ids.toArray w := by
 refine ⟨Below.refl _ _, fun k hk => ?_, hf, hB, hg⟩
 have hk' : k < ids.length := by simpa using hk
 obtain ⟨b, o, e, _, hc⟩ := h.at_ hk'
 injection e with e
 injection e with e1 e2
 subst e1 e2
 have := hc 0 (.int .u64 (ids[k] : Nat)) rfl
 rw [show off + k * Rg.numE.K + 0 = off + k by show off + k * 1 + 0 = off + k; omega] at this
 rw [this, getElem!_pos ids.toArray k hk]
 simp
theorem row_of {B : Nat} {w0 w : World} {g off n c : Nat} {ids : List Nat} (h : NSt B w0 g off ids.toArray w) (h1 : ids.length = n) (h2 : n ≤ c) (h3 : c ≤ 9223372036854775807) : Rg.numE.Row w (some ⟨g, off, none⟩) n c ids := by
 refine ⟨fun _ => ⟨g, off, rfl, fun k u hu => ?_⟩, h1, h2, h3, fun e => by cases e⟩
 obtain ⟨hk, rfl⟩ := num_cell _ hu
 rw [h.at_ k (by simpa using hk), getElem!_pos ids.toArray k (by simpa using hk)]
 simp
def SortNum (B : Nat) (w0 : World) (g off : Nat) (ids : List Nat) (e : Ending) (W : World) : Prop := e = .returned (.tuple #[]) ∧ ∃ ids' : List Nat, ids'.Perm ids ∧ ids'.Pairwise (· ≤ ·) ∧ NSt B w0 g off ids'.toArray W
theorem sortNum_mk {B : Nat} {w0 : World} {g off n : Nat} {ids : List Nat} {d : Array Nat} {W : World} (hl : ids.length = n) (hd : pdq ltN ids.toArray 0 n d.size true true = d ∨ ∃ lim, pdq ltN ids.toArray 0 n lim true true = d) (h : NSt B w0 g off d W) : SortNum B w0 g off ids (.returned (.tuple #[])) W := by
 have hd : ∃ lim, pdq ltN ids.toArray 0 n lim true true = d := by
  rcases hd with h | h
  ·exact ⟨_, h⟩
  ·exact h
 obtain ⟨lim, rfl⟩ := hd
 have hs : ids.toArray.size = n := by simpa using hl
 have hp := pdq_sorts ltN swoN ids.toArray 0 ids.toArray.size lim true true (Nat.zero_le _) (Nat.le_refl _) (Or.inl rfl)
 rw [hs] at hp
 have h1 := hp.1
 have h2 := hp.2
 generalize pdq ltN ids.toArray 0 n lim true true = d at *
 have hds : d.size = n := by have := h1.1; omega
 refine ⟨rfl, d.toList, ?_, ?_, by simpa using h⟩
 ·have := perm_of_in (d := ids.toArray) (d' := d) (by rw [hs]; exact h1)
  simpa using this
 ·exact pairwise_of_in (by rw [hds]; exact h2)
theorem len_any (n : Nat) (w : World) (hn : n ≤ 1000000000) : Calls Tryz.prog 82 #[.int .u64 (n : Int)] w fun e w' => e = .returned (.int .i64 (Lib.bitLen n : Nat)) ∧ w' = w := by
 have h := Any.bits_Len (SlLaysF0.n15.bits { Sh.sortSpans with }) (n : Int) w (by omega) (by omega)
 rwa [Int.toNat_natCast] at h
set_option maxHeartbeats 2000000 in
theorem pdq_few (B : Nat) (w0 : World) (g off n c lim : Nat) (d : Array Nat) (w : World) (h : NSt B w0 g off d w) (hn : d.size = n) (h12 : n ≤ 12) (hnc : n ≤ c) :
  Calls Tryz.prog 81 #[.slice (some ⟨g, off, none⟩) n c, .int .i64 0, .int .i64 (n : Nat), .int .i64 (lim : Nat)] w (SPost B w0 g off (pdq ltN d 0 n lim true true)) := by
 have Hi := hid_ (show Calls Tryz.prog 110 #[.slice (some ⟨g, off, none⟩) n c, .int .i64 0, .int .i64 (n : Nat)] w _ from ins_any B w0 g off n c 0 n d w h hn (by omega) hnc (Nat.zero_le _) (Nat.le_refl _))
 have HR := hid_ (show insertionSort ltN d 0 n = pdq ltN d 0 n lim true true from (pdq_small (by omega)).symm)
 have z1 : decide ((n : Int) ≤ 12) = true := decide_eq_true (by omega)
 have z2 : decide (n ≤ 12) = true := decide_eq_true h12
 have hm : n ≤ 1000000000 := by omega
 have hm2 : (n : Int) ≤ 12 := by omega
 clear h hn h12
 go_enter Tryz.func81, Tryz.ntmps81
 go_wp2_with fail
 go_loopw [1, 2, 3] (fun i j k wr => i = .int .i64 0 ∧ j = .int .i64 (n : Nat) ∧ k = .int .i64 (lim : Nat) ∧ Hid (w = wr)) (fun _ _ _ _ => 0)
 case atStart => exact ⟨rfl, rfl, rfl, hid_ rfl⟩
 case round =>
  obtain ⟨rfl, rfl, rfl, Hw⟩ := hrel
  obtain rfl := Hw.out
  go_wp2_with fail
  refine Calls.mono Hi.out ?_
  rintro e w1 ⟨rfl, h1⟩
  have H1 := hid_ h1
  clear h1
  go_wp2_with fail
  (try simp only [Exit.inBlock, Exit.then]); refine bodyPost_ret (results_none rfl _ _ _) rfl ?_
  exact ⟨rfl, by rw [← HR.out]; exact H1.out⟩
set_option maxHeartbeats 4000000 in
theorem sort_some (B : Nat) (w0 : World) (g off n c : Nat) (ids : List Nat) (w : World) (h : NSt B w0 g off ids.toArray w) (hl : ids.length = n) (hm0 : n ≤ maxR) (hnc : n ≤ c) :
  Calls Tryz.prog 55 #[.slice (some ⟨g, off, none⟩) n c] w (SortNum B w0 g off ids) := by
 have hm : n ≤ 1000000000 := by have := Nat.le_trans hm0 maxR_le; omega
 have hlim : Lib.bitLen n ≤ 62 := Lib.bitLen_le n 62 (by omega) (by omega)
 have Hlen := hid_ (fun W => len_any n W hm)
 have Hp := hid_ (pdq_few B w0 g off n c (Lib.bitLen n) ids.toArray w h (by simpa using hl) hm0 hnc)
 have wr : IntKind.u64.wrap (n : Int) = n := by simp [IntKind.wrap, IntKind.bits, IntKind.signed]; omega
 have HL := hid_ hl
 generalize Lib.bitLen n = lim at *
 clear h hl
 go_enter Tryz.func55, Tryz.ntmps55
 go_wp2_with (go_at_call 82; (with_reducible refine Calls.mono (Hlen.out _) ?_); rintro e w' ⟨rfl, rfl⟩)
 go_wp2_with (go_at_call 81; (with_reducible refine Calls.mono Hp.out ?_); rintro e w1 ⟨rfl, h1⟩)
 go_end0
 exact sortNum_mk HL.out (.inr ⟨lim, rfl⟩) h1
set_option maxHeartbeats 2000000 in
theorem ins_zero (A : Option Addr) (c : Nat) (w : World) : Calls Tryz.prog 110 #[.slice A 0 c, .int .i64 0, .int .i64 0] w (fun e w' => e = .returned (.tuple #[]) ∧ w = w') := by
 go_enter Tryz.func110, Tryz.ntmps110
 go_wp2_with fail
 go_loop [6] (fun i => i = .int .i64 1) (fun _ => 0)
 case atStart => exact rfl
 case round =>
  obtain rfl := hrel
  go_wp2_with fail
  go_end0
  exact ⟨rfl, rfl⟩
set_option maxHeartbeats 2000000 in
theorem pdq_zero (A : Option Addr) (c : Nat) (w : World) : Calls Tryz.prog 81 #[.slice A 0 c, .int .i64 0, .int .i64 0, .int .i64 0] w (fun e w' => e = .returned (.tuple #[]) ∧ w = w') := by
 have Hi := hid_ (fun W => ins_zero A c W)
 go_enter Tryz.func81, Tryz.ntmps81
 go_wp2_with fail
 go_loop [1, 2, 3] (fun i j k => i = .int .i64 0 ∧ j = .int .i64 0 ∧ k = .int .i64 0) (fun _ _ _ => 0)
 case atStart => exact ⟨rfl, rfl, rfl⟩
 case round =>
  obtain ⟨rfl, rfl, rfl⟩ := hrel
  go_wp2_with fail
  refine Calls.mono (Hi.out _) ?_
  rintro e w' ⟨rfl, rfl⟩
  go_wp2_with fail
  (try simp only [Exit.inBlock, Exit.then]); refine bodyPost_ret (results_none rfl _ _ _) rfl ?_
  exact ⟨rfl, rfl⟩
set_option maxHeartbeats 2000000 in
theorem sort_zero (A : Option Addr) (c : Nat) (w : World) : Calls Tryz.prog 55 #[.slice A 0 c] w (fun e w' => e = .returned (.tuple #[]) ∧ w = w') := by
 have Hlen := hid_ (fun W => len_any 0 W (by omega))
 have Hp := hid_ (fun W => pdq_zero A c W)
 have e0 : Lib.bitLen 0 = 0 := by decide
 rw [e0] at Hlen
 clear e0
 go_enter Tryz.func55, Tryz.ntmps55
 go_wp2_with fail
 refine Calls.mono (Hlen.out _) ?_
 rintro e w' ⟨rfl, rfl⟩
 go_wp2_with fail
 refine Calls.mono (Hp.out _) ?_
 rintro e w1 ⟨rfl, rfl⟩
 go_wp2_with fail
 go_end0
 exact ⟨rfl, rfl⟩
end Ns
end Go.Proofs.YthjhofmjhmnddaaGreat
