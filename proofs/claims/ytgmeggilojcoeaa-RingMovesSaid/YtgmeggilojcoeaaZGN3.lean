/-
  The library's order2, median, medianAdjacent, choosePivot at uint64.
-/
import Derived.Test.YtgmeggilojcoeaaZGN1
import Derived.Sort.LotD1
namespace Go.Proofs.Ytgmeggilojcoeaa
set_option linter.unusedSimpArgs false
set_option linter.unusedVariables false
open Go.RowKit Go.Sort
namespace Ns
set_option linter.unusedSimpArgs false
set_option linter.unusedVariables false
/-- The row, and a counter in a block of its own beside it. -/
structure NCt (B : Nat) (w0 : World) (g off : Nat) (d : Array Nat) (sb s : Nat) (W : World) : Prop where
  st : NSt B w0 g off d W
  cnt : W.cell? ⟨sb, 0, none⟩ = some (.int .i64 (s : Nat))
  fr : W.frozen? ⟨sb, 0, none⟩ = false
  ne : sb ≠ g
  old : B ≤ sb
theorem NCt.keep {B : Nat} {w0 : World} {g off : Nat} {d : Array Nat} {sb s : Nat} {W W' : World} (h : NCt B w0 g off d sb s W) (hb : Below W.heap.size W W') : NCt B w0 g off d sb s W' := by
  have hl := lt_of_cell h.cnt
  exact ⟨h.st.keep hb h.st.base, by rw [hb.cell (p := ⟨sb, 0, none⟩) hl]; exact h.cnt, by rw [hb.frozen (p := ⟨sb, 0, none⟩) hl]; exact h.fr, h.ne, h.old⟩
theorem NCt.drewN {B : Nat} {w0 : World} {g off : Nat} {d : Array Nat} {sb s : Nat} {W : World} (h : NCt B w0 g off d sb s W) (q : Nat) : NCt B w0 g off d sb s (W.drewN q) := h.keep (below_drewN (Below.refl _ _) q)
theorem NCt.count {B : Nat} {w0 : World} {g off : Nat} {d : Array Nat} {sb s : Nat} {W : World} (h : NCt B w0 g off d sb s W) (t : Nat) : NCt B w0 g off d sb t (W.setCell ⟨sb, 0, none⟩ (.int .i64 (t : Nat))) := by
  have hg : ∀ o, (W.setCell ⟨sb, 0, none⟩ (.int .i64 (t : Nat))).cell? ⟨g, o, none⟩ = W.cell? ⟨g, o, none⟩ := fun o => World.cell?_setCell_other W ⟨sb, 0, none⟩ ⟨g, o, none⟩ _ (fun e => h.ne (by injection e))
  exact ⟨⟨h.st.bel.setCell (p := ⟨sb, 0, none⟩) h.old _, fun k hk => by rw [hg]; exact h.st.at_ k hk, fun o => by rw [World.frozen?_setCell]; exact h.st.free o, h.st.old, by rw [World.size_setCell]; exact h.st.lt⟩,
    World.cell?_setCell_same W ⟨sb, 0, none⟩ _ h.cnt, by rw [World.frozen?_setCell]; exact h.fr, h.ne, h.old⟩
/-- Two numbers, and the counter as it is to be. -/
def OPost (B : Nat) (w0 : World) (g off : Nat) (d : Array Nat) (sb : Nat) (r : Nat × Nat × Nat) (e : Ending) (W : World) : Prop := e = .returned (.tuple #[.int .i64 (r.1 : Nat), .int .i64 (r.2.1 : Nat)]) ∧ NCt B w0 g off d sb r.2.2 W
theorem oPost_mk {B : Nat} {w0 : World} {g off : Nat} {d : Array Nat} {sb x y s : Nat} {r : Nat × Nat × Nat} {W : World} (h : r = (x, y, s)) (hs : NCt B w0 g off d sb s W) : OPost B w0 g off d sb r (.returned (.tuple #[.int .i64 (x : Nat), .int .i64 (y : Nat)])) W := by subst h; exact ⟨rfl, hs⟩
set_option maxHeartbeats 4000000 in
theorem order2_any (B : Nat) (w0 : World) (g off n c a b : Nat) (d : Array Nat) (sb s : Nat) (w : World) (h : NCt B w0 g off d sb s w) (hn : d.size = n) (hm : n ≤ 1000000000) (hnc : n ≤ c) (ha : a < n) (hb : b < n) (hs : s ≤ 1000) :
    Calls Try.prog 155 #[.slice (some ⟨g, off, none⟩) n c, .int .i64 (a : Nat), .int .i64 (b : Nat), .pointer (some ⟨sb, 0, none⟩)] w (OPost B w0 g off d sb (order2 ltN d a b s)) := by
  have HDef := hid_ (show order2 ltN d a b s = if ltN d[b]! d[a]! then (b, a, s + 1) else (a, b, s) from rfl)
  generalize order2 ltN d a b s = r at *
  have hc1 := h.st.at_ a (by omega)
  have hc2 := h.st.at_ b (by omega)
  have hc3 := h.cnt
  have hf3 := h.fr
  have H0 := hid_ h
  have HNE := hid_ h.ne
  generalize d[a]! = x at *
  generalize d[b]! = y at *
  have m1 : (0 : Int) ≤ (a : Int) := by omega
  have m2 : (a : Int) < (n : Int) := by omega
  have m3 : (0 : Int) ≤ (b : Int) := by omega
  have m4 : (b : Int) < (n : Int) := by omega
  clear h
  have HN := hid_ hn
  clear hn
  cases hl : ltN y x
  · have Hlv := hid_ (fun W => less_any y x W)
    rw [hl] at Hlv
    have HF := hid_ (show r = (a, b, s) by rw [HDef.out, hl]; rfl)
    clear hl HDef
    go_enter Try.func155, Try.ntmps155
    go_wp2_with fail
    go_quiet ((go_at_call 127; exact Calls.quiet_of_same (Hlv.out _)))
    go_wp2_with fail
    go_ret2
    exact oPost_mk HF.out (H0.out.drewN _)
  · have Hlv := hid_ (fun W => less_any y x W)
    rw [hl] at Hlv
    have HF := hid_ (show r = (b, a, s + 1) by rw [HDef.out, hl]; rfl)
    clear hl HDef
    go_enter Try.func155, Try.ntmps155
    go_wp2_with fail
    go_quiet ((go_at_call 127; exact Calls.quiet_of_same (Hlv.out _)))
    have Hq := hid_ (H0.out.drewN nq)
    clear hc1 hc2 hc3 hf3
    generalize w.drewN nq = wq at *
    have hc3 := Hq.out.cnt
    have hf3 := Hq.out.fr
    have Hcnt := hid_ (Hq.out.count (s + 1))
    go_wp2_with fail
    go_ret2
    exact oPost_mk HF.out Hcnt.out
theorem order2_ok (d : Array Nat) {a b n : Nat} (s : Nat) (ha : a < n) (hb : b < n) : (order2 ltN d a b s).1 < n ∧ (order2 ltN d a b s).2.1 < n ∧ (order2 ltN d a b s).2.2 ≤ s + 1 := by
  unfold order2
  split
  · exact ⟨hb, ha, Nat.le_refl _⟩
  · exact ⟨ha, hb, Nat.le_succ _⟩
/-- A number, and the counter as it is to be. -/
def MPost (B : Nat) (w0 : World) (g off : Nat) (d : Array Nat) (sb : Nat) (r : Nat × Nat) (e : Ending) (W : World) : Prop := e = .returned (.int .i64 (r.1 : Nat)) ∧ NCt B w0 g off d sb r.2 W
theorem mPost_mk {B : Nat} {w0 : World} {g off : Nat} {d : Array Nat} {sb x s : Nat} {r : Nat × Nat} {W : World} (h : r = (x, s)) (hs : NCt B w0 g off d sb s W) : MPost B w0 g off d sb r (.returned (.int .i64 (x : Nat))) W := by subst h; exact ⟨rfl, hs⟩
set_option maxHeartbeats 4000000 in
theorem median_any (B : Nat) (w0 : World) (g off n c a b m : Nat) (d : Array Nat) (sb s : Nat) (w : World) (h : NCt B w0 g off d sb s w) (hn : d.size = n) (hm : n ≤ 1000000000) (hnc : n ≤ c) (ha : a < n) (hb : b < n) (hc : m < n) (hs : s ≤ 900) :
    Calls Try.prog 148 #[.slice (some ⟨g, off, none⟩) n c, .int .i64 (a : Nat), .int .i64 (b : Nat), .int .i64 (m : Nat), .pointer (some ⟨sb, 0, none⟩)] w (MPost B w0 g off d sb (median ltN d a b m s)) := by
  have k1 := order2_ok d s ha hb
  have C1 := order2_any B w0 g off n c a b d sb s w h hn hm hnc ha hb (by omega)
  have HDef := hid_ (show median ltN d a b m s = ((order2 ltN d (order2 ltN d a b s).1 (order2 ltN d (order2 ltN d a b s).2.1 m (order2 ltN d a b s).2.2).1 (order2 ltN d (order2 ltN d a b s).2.1 m (order2 ltN d a b s).2.2).2.2).2.1, (order2 ltN d (order2 ltN d a b s).1 (order2 ltN d (order2 ltN d a b s).2.1 m (order2 ltN d a b s).2.2).1 (order2 ltN d (order2 ltN d a b s).2.1 m (order2 ltN d a b s).2.2).2.2).2.2) from rfl)
  generalize order2 ltN d a b s = r1 at *
  obtain ⟨x1, y1, s1⟩ := r1
  simp only at k1 HDef
  have k2 := order2_ok d s1 k1.2.1 hc
  have C2 := hid_ (fun (W : World) (hW : NCt B w0 g off d sb s1 W) => order2_any B w0 g off n c y1 m d sb s1 W hW hn hm hnc k1.2.1 hc (by omega))
  generalize order2 ltN d y1 m s1 = r2 at *
  obtain ⟨x2, y2, s2⟩ := r2
  simp only at k2 HDef
  have C3 := hid_ (fun (W : World) (hW : NCt B w0 g off d sb s2 W) => order2_any B w0 g off n c x1 x2 d sb s2 W hW hn hm hnc k1.1 k2.1 (by omega))
  generalize order2 ltN d x1 x2 s2 = r3 at *
  obtain ⟨x3, y3, s3⟩ := r3
  simp only at HDef
  have D1 := hid_ C1
  have HF := HDef
  clear C1 h hn k1 k2 HDef
  go_enter Try.func148, Try.ntmps148
  go_wp2_with fail
  refine Calls.mono D1.out ?_
  rintro e w1 ⟨rfl, h1⟩
  have H1 := hid_ h1
  clear h1
  go_wp2_with fail
  refine Calls.mono (C2.out _ H1.out) ?_
  rintro e w2 ⟨rfl, h2⟩
  have H2 := hid_ h2
  clear h2
  go_wp2_with fail
  refine Calls.mono (C3.out _ H2.out) ?_
  rintro e w3 ⟨rfl, h3⟩
  have H3 := hid_ h3
  clear h3
  go_wp2_with fail
  go_ret
  exact mPost_mk HF.out H3.out
theorem median_ok (d : Array Nat) {a b m n : Nat} (s : Nat) (ha : a < n) (hb : b < n) (hc : m < n) : (median ltN d a b m s).1 < n ∧ (median ltN d a b m s).2 ≤ s + 3 := by
  have k1 := order2_ok d s ha hb
  have k2 := order2_ok d (order2 ltN d a b s).2.2 k1.2.1 hc
  have k3 := order2_ok d (order2 ltN d (order2 ltN d a b s).2.1 m (order2 ltN d a b s).2.2).2.2 k1.1 k2.1
  unfold median
  simp only
  omega
set_option maxHeartbeats 2000000 in
theorem medadj_any (B : Nat) (w0 : World) (g off n c a : Nat) (d : Array Nat) (sb s : Nat) (w : World) (h : NCt B w0 g off d sb s w) (hn : d.size = n) (hm : n ≤ 1000000000) (hnc : n ≤ c) (h1 : 1 ≤ a) (ha : a + 1 < n) (hs : s ≤ 900) :
    Calls Try.prog 147 #[.slice (some ⟨g, off, none⟩) n c, .int .i64 (a : Nat), .pointer (some ⟨sb, 0, none⟩)] w (MPost B w0 g off d sb (medianAdjacent ltN d a s)) := by
  have C := hid_ (median_any B w0 g off n c (a - 1) a (a + 1) d sb s w h hn hm hnc (by omega) (by omega) ha hs)
  rw [show median ltN d (a - 1) a (a + 1) s = medianAdjacent ltN d a s from rfl] at C
  generalize medianAdjacent ltN d a s = r at *
  have e1 : ((a : Int) - 1) = ((a - 1 : Nat) : Int) := by omega
  have e2 : ((a : Int) + 1) = ((a + 1 : Nat) : Int) := by omega
  obtain ⟨x, s'⟩ := r
  have HN := hid_ hn
  clear h hn
  have E1 := hid_ e1
  have E2 := hid_ e2
  clear e1 e2
  go_enter Try.func147, Try.ntmps147
  go_wp2_with fail
  rw [E1.out]
  refine Calls.mono C.out ?_
  rintro e w1 ⟨rfl, h1⟩
  have H1 := hid_ h1
  clear h1
  go_wp2_with fail
  go_ret
  exact mPost_mk rfl H1.out
end Ns
end Go.Proofs.Ytgmeggilojcoeaa

/-
  The library's choosePivot at uint64.
-/
namespace Go.Proofs.Ytgmeggilojcoeaa
set_option linter.unusedSimpArgs false
set_option linter.unusedVariables false
open Go.RowKit Go.Sort
namespace Ns
set_option linter.unusedSimpArgs false
set_option linter.unusedVariables false
def hintI : Hint → Int
  | .unknown => 0
  | .increasing => 1
  | .decreasing => 2
def hintOfN (s : Nat) : Hint := if s = 0 then .increasing else if s = 12 then .decreasing else .unknown
theorem new_cnt {B : Nat} {w0 : World} {g off : Nat} {d : Array Nat} {W : World} (h : NSt B w0 g off d W) (T : TypeId) : NCt B w0 g off d W.heap.size 0 (W.alloc (.cells #[.int .i64 0] T)) := by
  refine ⟨h.keep ((Below.refl _ _).alloc (Nat.le_refl _) _) h.base, ?_, ?_, Nat.ne_of_gt h.lt, h.base⟩
  · rw [World.cell?_alloc_mark]; rfl
  · go_simp
/-- A place and a hint; the row as it was. -/
def CPost (B : Nat) (w0 : World) (g off : Nat) (d : Array Nat) (r : Nat × Hint) (e : Ending) (W : World) : Prop := e = .returned (.tuple #[.int .i64 (r.1 : Nat), .int .i64 (hintI r.2)]) ∧ NSt B w0 g off d W
theorem cPost_mk {B : Nat} {w0 : World} {g off : Nat} {d : Array Nat} {x : Nat} {z : Int} {r : Nat × Hint} {W : World} (h1 : r.1 = x) (h2 : hintI r.2 = z) (hs : NSt B w0 g off d W) : CPost B w0 g off d r (.returned (.tuple #[.int .i64 (x : Nat), .int .i64 z])) W := by subst h1 h2; exact ⟨rfl, hs⟩
set_option maxHeartbeats 8000000 in
theorem piv_any (B : Nat) (w0 : World) (g off n c a b : Nat) (d : Array Nat) (w : World) (h : NSt B w0 g off d w) (hn : d.size = n) (hm : n ≤ 1000000000) (hnc : n ≤ c) (hab : a + 8 ≤ b) (hb : b ≤ n) :
    Calls Try.prog 124 #[.slice (some ⟨g, off, none⟩) n c, .int .i64 (a : Nat), .int .i64 (b : Nat)] w (CPost B w0 g off d (choosePivot ltN d a b)) := by
  obtain ⟨L, hL⟩ : ∃ L : Nat, b = a + L := ⟨b - a, by omega⟩
  have hLI : ((b : Int) - (a : Int)) = (L : Int) := by omega
  have q1 : (8 : Int) ≤ (L : Int) := by omega
  have q2 : decide ((L : Int) ≥ 8) = true := decide_eq_true (by omega)
  have q3 : decide ((8 : Int) ≤ (L : Int)) = true := decide_eq_true (by omega)
  have hsz := h.base
  have hbn : a + L ≤ n := by omega
  have hL8 : 8 ≤ L := by omega
  obtain ⟨i, hi⟩ : ∃ i : Nat, i = a + L / 4 * 1 := ⟨_, rfl⟩
  obtain ⟨j, hj⟩ : ∃ j : Nat, j = a + L / 4 * 2 := ⟨_, rfl⟩
  obtain ⟨k, hk⟩ : ∃ k : Nat, k = a + L / 4 * 3 := ⟨_, rfl⟩
  have eI : (a : Int) + (L : Int) / 4 = (i : Int) := by omega
  have eJ : (a : Int) + (L : Int) / 4 * 2 = (j : Int) := by omega
  have eK : (a : Int) + (L : Int) / 4 * 3 = (k : Int) := by omega
  have bi : 1 ≤ i ∧ i + 1 < n := by omega
  have bj : 1 ≤ j ∧ j + 1 < n := by omega
  have bk : 1 ≤ k ∧ k + 1 < n := by omega
  have HI := hid_ (And.intro hi (And.intro hj hk))
  have Hc0 := hid_ (new_cnt h 3)
  have hdef : choosePivot ltN d a b = (if L ≥ 50 then ((median ltN d (medianAdjacent ltN d i 0).1 (medianAdjacent ltN d j (medianAdjacent ltN d i 0).2).1 (medianAdjacent ltN d k (medianAdjacent ltN d j (medianAdjacent ltN d i 0).2).2).1 (medianAdjacent ltN d k (medianAdjacent ltN d j (medianAdjacent ltN d i 0).2).2).2).1, hintOfN (median ltN d (medianAdjacent ltN d i 0).1 (medianAdjacent ltN d j (medianAdjacent ltN d i 0).2).1 (medianAdjacent ltN d k (medianAdjacent ltN d j (medianAdjacent ltN d i 0).2).2).1 (medianAdjacent ltN d k (medianAdjacent ltN d j (medianAdjacent ltN d i 0).2).2).2).2) else ((median ltN d i j k 0).1, hintOfN (median ltN d i j k 0).2)) := by
    unfold choosePivot
    simp only
    rw [show b - a = L by omega, if_pos (show L ≥ 8 from hL8), ← hi, ← hj, ← hk]
    by_cases h50 : L ≥ 50
    · rw [if_pos h50, if_pos h50]; rfl
    · rw [if_neg h50, if_neg h50]; rfl
  have HD := hid_ hdef
  have HHn := hid_ hn
  have HBL := hid_ hL
  clear h hn hL hi hj hk hdef
  by_cases h50 : 50 ≤ L
  · have q4 : decide ((L : Int) ≥ 50) = true := decide_eq_true (by omega)
    have q5 : decide ((50 : Int) ≤ (L : Int)) = true := decide_eq_true (by omega)
    have HF0 := hid_ (HD.out.trans (if_pos h50))
    have C1 := hid_ (fun (W : World) (hW : NCt B w0 g off d w.heap.size 0 W) => medadj_any B w0 g off n c i d w.heap.size 0 W hW HHn.out hm hnc bi.1 bi.2 (by omega))
    have o1 := median_ok d (a := i - 1) (b := i) (m := i + 1) (n := n) 0 (by omega) (by omega) bi.2
    rw [show median ltN d (i - 1) i (i + 1) 0 = medianAdjacent ltN d i 0 from rfl] at o1
    generalize medianAdjacent ltN d i 0 = r1 at *
    obtain ⟨x1, s1⟩ := r1
    simp only at o1 HF0
    have C2 := hid_ (fun (W : World) (hW : NCt B w0 g off d w.heap.size s1 W) => medadj_any B w0 g off n c j d w.heap.size s1 W hW HHn.out hm hnc bj.1 bj.2 (by omega))
    have o2 := median_ok d (a := j - 1) (b := j) (m := j + 1) (n := n) s1 (by omega) (by omega) bj.2
    rw [show median ltN d (j - 1) j (j + 1) s1 = medianAdjacent ltN d j s1 from rfl] at o2
    generalize medianAdjacent ltN d j s1 = r2 at *
    obtain ⟨x2, s2⟩ := r2
    simp only at o2 HF0
    have C3 := hid_ (fun (W : World) (hW : NCt B w0 g off d w.heap.size s2 W) => medadj_any B w0 g off n c k d w.heap.size s2 W hW HHn.out hm hnc bk.1 bk.2 (by omega))
    have o3 := median_ok d (a := k - 1) (b := k) (m := k + 1) (n := n) s2 (by omega) (by omega) bk.2
    rw [show median ltN d (k - 1) k (k + 1) s2 = medianAdjacent ltN d k s2 from rfl] at o3
    generalize medianAdjacent ltN d k s2 = r3 at *
    obtain ⟨x3, s3⟩ := r3
    simp only at o3 HF0
    have C4 := hid_ (fun (W : World) (hW : NCt B w0 g off d w.heap.size s3 W) => median_any B w0 g off n c x1 x2 x3 d w.heap.size s3 W hW HHn.out hm hnc o1.1 o2.1 o3.1 (by omega))
    have o4 := median_ok d (a := x1) (b := x2) (m := x3) (n := n) s3 o1.1 o2.1 o3.1
    generalize median ltN d x1 x2 x3 s3 = r4 at *
    obtain ⟨x4, s4⟩ := r4
    simp only at o4 HF0
    have HF := HF0
    clear HD
    go_enter Try.func124, Try.ntmps124
    go_wp2_with fail
    refine Calls.mono (C1.out _ Hc0.out) ?_
    rintro e w1 ⟨rfl, h1⟩
    have HM1 := hid_ h1
    clear h1
    go_wp2_with fail
    refine Calls.mono (C2.out _ HM1.out) ?_
    rintro e w2 ⟨rfl, h2⟩
    have HM2 := hid_ h2
    clear h2
    go_wp2_with fail
    refine Calls.mono (C3.out _ HM2.out) ?_
    rintro e w3 ⟨rfl, h3⟩
    have HM3 := hid_ h3
    clear h3
    go_wp2_with fail
    refine Calls.mono (C4.out _ HM3.out) ?_
    rintro e w4 ⟨rfl, h4⟩
    have HM := hid_ h4
    clear h4
    obtain ⟨z, z1, z2, z3⟩ : ∃ z : Bool × Bool, ((s4 : Int) == 0) = z.1 ∧ ((s4 : Int) == 12) = z.2 ∧ Hid (hintI (hintOfN s4) = if z.1 then 1 else if z.2 then 2 else 0) := by
      refine ⟨((s4 : Int) == 0, (s4 : Int) == 12), rfl, rfl, hid_ ?_⟩
      unfold hintOfN
      by_cases h0 : s4 = 0
      · subst h0; rfl
      · by_cases h12 : s4 = 12
        · subst h12; rfl
        · have e0 : ((s4 : Int) == 0) = false := by simp; omega
          have e12 : ((s4 : Int) == 12) = false := by simp; omega
          rw [if_neg h0, if_neg h12, e0, e12]
          rfl
    obtain ⟨za, zb⟩ := z
    simp only at z1 z2 z3
    have hcn := HM.out.cnt
    have HSt := hid_ HM.out.st
    cases za <;> cases zb
    all_goals
      go_wp2_with fail
      go_ret2
      exact cPost_mk (by rw [HF.out]) (by rw [HF.out]; exact z3.out) HSt.out
  · have q4 : decide ((L : Int) ≥ 50) = false := decide_eq_false (by omega)
    have q5 : decide ((50 : Int) ≤ (L : Int)) = false := decide_eq_false (by omega)
    have HF0 := hid_ (HD.out.trans (if_neg h50))
    have C1 := hid_ (fun (W : World) (hW : NCt B w0 g off d w.heap.size 0 W) => median_any B w0 g off n c i j k d w.heap.size 0 W hW HHn.out hm hnc (by omega) (by omega) (by omega) (by omega))
    generalize median ltN d i j k 0 = r1 at *
    obtain ⟨x1, s1⟩ := r1
    simp only at HF0
    have HF := HF0
    clear HD
    go_enter Try.func124, Try.ntmps124
    go_wp2_with fail
    refine Calls.mono (C1.out _ Hc0.out) ?_
    rintro e w1 ⟨rfl, h1⟩
    have HM := hid_ h1
    clear h1
    obtain ⟨z, z1, z2, z3⟩ : ∃ z : Bool × Bool, ((s1 : Int) == 0) = z.1 ∧ ((s1 : Int) == 12) = z.2 ∧ Hid (hintI (hintOfN s1) = if z.1 then 1 else if z.2 then 2 else 0) := by
      refine ⟨((s1 : Int) == 0, (s1 : Int) == 12), rfl, rfl, hid_ ?_⟩
      unfold hintOfN
      by_cases h0 : s1 = 0
      · subst h0; rfl
      · by_cases h12 : s1 = 12
        · subst h12; rfl
        · have e0 : ((s1 : Int) == 0) = false := by simp; omega
          have e12 : ((s1 : Int) == 12) = false := by simp; omega
          rw [if_neg h0, if_neg h12, e0, e12]
          rfl
    obtain ⟨za, zb⟩ := z
    simp only at z1 z2 z3
    have hcn := HM.out.cnt
    have HSt := hid_ HM.out.st
    cases za <;> cases zb
    all_goals
      go_wp2_with fail
      go_ret2
      exact cPost_mk (by rw [HF.out]) (by rw [HF.out]; exact z3.out) HSt.out
end Ns
end Go.Proofs.Ytgmeggilojcoeaa
