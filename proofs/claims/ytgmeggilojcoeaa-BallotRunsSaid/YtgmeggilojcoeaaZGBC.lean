/-
  Ballots as pairs of numbers: their order, the greatest of some, the next one.
-/
import Derived.Test.YtgmeggilojcoeaaZGBA
import Derived.Test.YtgmeggilojcoeaaZGBB
import Derived.Deep.RegionHeld3
import Derived.Deep.QuietTactic
import Derived.BigQuiet
namespace Go.Proofs.Ytgmeggilojcoeaa
set_option linter.unusedSimpArgs false
set_option linter.unusedVariables false
open Go.RowKit Rg
namespace Bl
set_option linter.unusedSimpArgs false
set_option linter.unusedVariables false
/-- Ballots are laid as points are: N, then Node. -/
abbrev BalD := PtD
def lessB (a b : BalD) : Bool := decide (a.pos < b.pos ∨ (a.pos = b.pos ∧ a.id < b.id))
def sameB (a b : BalD) : Bool := decide (a.pos = b.pos) && decide (a.id = b.id)
theorem sameB_iff (a b : BalD) : sameB a b = true ↔ a = b := by
  obtain ⟨x, y⟩ := a
  obtain ⟨u, v⟩ := b
  simp [sameB]
theorem less_cf (a b : BalD) : decide (cfPt a b < 0) = lessB a b := by
  have h := ltPt a b
  unfold ltOf at h
  rw [h]
  unfold lessB PtD.Le
  rw [decide_eq_decide]
  omega
theorem less_self (a : BalD) : lessB a a = false := decide_eq_false (by omega)
theorem less_two (a b : BalD) : sameB a b = !(lessB a b || lessB b a) ∧ (lessB a b && lessB b a) = false := by
  unfold lessB sameB
  constructor
  · rw [Bool.eq_iff_iff]
    simp only [Bool.and_eq_true, decide_eq_true_eq, Bool.not_eq_true', Bool.or_eq_false_iff, decide_eq_false_iff_not]
    omega
  · rw [Bool.and_eq_false_iff]
    simp only [decide_eq_false_iff_not]
    omega
theorem less_on {a b c : BalD} (h1 : lessB a b = true) (h2 : lessB b c = true) : lessB a c = true := by
  unfold lessB at *
  have := of_decide_eq_true h1
  have := of_decide_eq_true h2
  exact decide_eq_true (by omega)
/-- The greater one of two, the first one of such as are the same. -/
def upB (m b : BalD) : BalD := if lessB m b = true then b else m
def maxF (l : List BalD) : BalD := l.foldl upB ⟨0, 0⟩
/-- m is not below any of the first k. -/
theorem up_ge (m b : BalD) : lessB (upB m b) m = false ∧ lessB (upB m b) b = false := by
  unfold upB
  by_cases h : lessB m b = true
  · rw [if_pos h]
    refine ⟨?_, less_self b⟩
    have := (less_two m b).2
    rw [h] at this
    simpa using this
  · rw [if_neg h]
    exact ⟨less_self m, by simpa using h⟩
theorem le_on {a b c : BalD} (h1 : lessB a b = false) (h2 : lessB b c = false) : lessB a c = false := by
  unfold lessB at *
  have := of_decide_eq_false h1
  have := of_decide_eq_false h2
  exact decide_eq_false (by omega)
theorem fold_ge : ∀ (l : List BalD) (m : BalD), lessB (l.foldl upB m) m = false ∧ ∀ b ∈ l, lessB (l.foldl upB m) b = false
  | [], m => ⟨less_self m, by simp⟩
  | b :: t, m => by
    obtain ⟨h1, h2⟩ := fold_ge t (upB m b)
    rw [List.foldl_cons]
    refine ⟨le_on h1 (up_ge m b).1, fun x hx => ?_⟩
    rcases List.mem_cons.1 hx with rfl | hx
    · exact le_on h1 (up_ge m x).2
    · exact h2 x hx
theorem fold_in : ∀ (l : List BalD) (m : BalD), l.foldl upB m = m ∨ l.foldl upB m ∈ l
  | [], m => .inl rfl
  | b :: t, m => by
    rw [List.foldl_cons]
    rcases fold_in t (upB m b) with h | h
    · rw [h]
      unfold upB
      split
      · exact .inr (by simp)
      · exact .inl rfl
    · exact .inr (List.mem_cons_of_mem _ h)
theorem max_ge (l : List BalD) {k : Nat} (hk : k < l.length) : lessB (maxF l) l[k] = false := (fold_ge l _).2 _ (List.getElem_mem hk)
theorem max_in (l : List BalD) (h : l ≠ []) : maxF l ∈ l := by
  rcases fold_in l ⟨0, 0⟩ with e | e
  · obtain ⟨b, t, rfl⟩ := List.exists_cons_of_ne_nil h
    have h1 := (fold_ge (b :: t) ⟨0, 0⟩).2 b (by simp)
    rw [e] at h1
    have h2 := of_decide_eq_false h1
    have hb : b = ⟨0, 0⟩ := by
      obtain ⟨x, y⟩ := b
      simp only at h2
      have : x = 0 := by omega
      have : y = 0 := by omega
      subst x y
      rfl
    show List.foldl upB ⟨0, 0⟩ (b :: t) ∈ _
    rw [e, hb]
    simp
  · exact e
theorem max_step (l : List BalD) {k : Nat} (hk : k < l.length) : maxF (l.take (k + 1)) = upB (maxF (l.take k)) l[k] := by
  unfold maxF
  rw [List.take_succ_eq_append_getElem hk, List.foldl_append]
  rfl
theorem max_wf (l : List BalD) (M : Nat) (h0 : 0 < M) (h : ∀ b ∈ l, b.pos < M ∧ b.id < M) : (maxF l).pos < M ∧ (maxF l).id < M := by
  rcases fold_in l ⟨0, 0⟩ with e | e
  · show (List.foldl upB ⟨0, 0⟩ l).pos < M ∧ (List.foldl upB ⟨0, 0⟩ l).id < M
    rw [e]
    exact ⟨h0, h0⟩
  · exact h _ e
/-- What comes next, and what is said of it. -/
def nextK (seen : BalD) (version node : Nat) : Int := if node = 0 then 1 else if seen.pos = 18446744073709551615 ∨ version = 18446744073709551615 then 12 else 0
def nextD (seen : BalD) (version node : Nat) : BalD := if node = 0 then ⟨0, 0⟩ else if seen.pos = 18446744073709551615 ∨ version = 18446744073709551615 then ⟨0, 0⟩ else ⟨max (seen.pos + 1) version, node⟩
theorem next_yes {s : BalD} {v d : Nat} (h : nextK s v d = 0) : lessB s (nextD s v d) = true ∧ v ≤ (nextD s v d).pos ∧ s.pos < (nextD s v d).pos ∧ (nextD s v d).id = d := by
  unfold nextK at h
  unfold nextD
  by_cases h0 : d = 0
  · rw [if_pos h0] at h; cases h
  · rw [if_neg h0] at h ⊢
    by_cases hx : s.pos = 18446744073709551615 ∨ v = 18446744073709551615
    · rw [if_pos hx] at h; cases h
    · rw [if_neg hx]
      refine ⟨decide_eq_true (.inl ?_), ?_, ?_, rfl⟩
      · show s.pos < max (s.pos + 1) v; omega
      · show v ≤ max (s.pos + 1) v; omega
      · show s.pos < max (s.pos + 1) v; omega
theorem next_no {s : BalD} {v d : Nat} (h : nextK s v d ≠ 0) : nextD s v d = ⟨0, 0⟩ := by
  unfold nextK at h
  unfold nextD
  by_cases h0 : d = 0
  · rw [if_pos h0]
  · rw [if_neg h0] at h ⊢
    by_cases hx : s.pos = 18446744073709551615 ∨ v = 18446744073709551615
    · rw [if_pos hx]
    · rw [if_neg hx] at h; exact absurd rfl h
theorem next_kinds (s : BalD) (v d : Nat) : (d = 0 ∧ nextK s v d = 1) ∨ (d ≠ 0 ∧ (s.pos = 18446744073709551615 ∨ v = 18446744073709551615) ∧ nextK s v d = 12) ∨ (d ≠ 0 ∧ nextK s v d = 0) := by
  unfold nextK
  by_cases h0 : d = 0
  · rw [if_pos h0]; exact .inl ⟨h0, rfl⟩
  · rw [if_neg h0]
    by_cases hx : s.pos = 18446744073709551615 ∨ v = 18446744073709551615
    · rw [if_pos hx]; exact .inr (.inl ⟨h0, hx, rfl⟩)
    · rw [if_neg hx]; exact .inr (.inr ⟨h0, rfl⟩)
theorem next_small {s : BalD} {v d : Nat} (hs : s.pos < 18446744073709551616) (hv : v < 18446744073709551616) : (nextD s v d).pos < 18446744073709551616 := by
  unfold nextD
  by_cases h0 : d = 0
  · rw [if_pos h0]; show (0 : Nat) < _; omega
  · rw [if_neg h0]
    by_cases hx : s.pos = 18446744073709551615 ∨ v = 18446744073709551615
    · rw [if_pos hx]; show (0 : Nat) < _; omega
    · rw [if_neg hx]; show max (s.pos + 1) v < _; omega
theorem max_pair {a b : BalD} (h : a.pos < b.pos) : maxF [a, b] = b := by
  unfold maxF
  rw [List.foldl_cons, List.foldl_cons, List.foldl_nil]
  have h1 : lessB (upB ⟨0, 0⟩ a) b = true := by
    unfold upB
    split
    · exact decide_eq_true (.inl h)
    · exact decide_eq_true (.inl (by show 0 < b.pos; omega))
  rw [upB, if_pos h1]
end Bl
end Go.Proofs.Ytgmeggilojcoeaa

/-
  A block of cells that is known whole.
-/
namespace Go.Proofs.Ytgmeggilojcoeaa
set_option linter.unusedSimpArgs false
set_option linter.unusedVariables false
open Go.RowKit

def Whole (w : World) (g : Nat) (t : TypeId) (cs : Array Value) : Prop := w.heap[g]? = some (.cells cs t (0, 0))
theorem Whole.cell {w : World} {g : Nat} {t : TypeId} {cs : Array Value} (h : Whole w g t cs) (i : Nat) (v : Value) (hv : cs[i]? = some v) : w.cell? ⟨g, i, none⟩ = some v := by
  unfold Whole at h
  rw [World.cell?, h]
  simpa using hv
theorem Whole.free {w : World} {g : Nat} {t : TypeId} {cs : Array Value} (h : Whole w g t cs) (i : Nat) : w.frozen? ⟨g, i, none⟩ = false := by
  unfold Whole at h
  simp [World.frozen?, h]
theorem Whole.below {w w' : World} {g B : Nat} {t : TypeId} {cs : Array Value} (h : Whole w g t cs) (hb : Below B w w') (hg : g < B) : Whole w' g t cs := (hb.block g hg).trans h
theorem Whole.lt {w : World} {g : Nat} {t : TypeId} {cs : Array Value} (h : Whole w g t cs) : g < w.heap.size := (Array.getElem?_eq_some_iff.1 h).1
theorem Whole.store {w : World} {g : Nat} {t : TypeId} {cs : Array Value} (h : Whole w g t cs) (i : Nat) (v : Value) : Whole (w.setCell ⟨g, i, none⟩ v) g t (cs.setIfInBounds i v) := by
  unfold Whole at h ⊢
  simp [World.setCell, Array.getElem?_modify, h]
theorem Whole.far {w : World} {g : Nat} {t : TypeId} {cs : Array Value} (h : Whole w g t cs) {p : Addr} (hp : g ≠ p.block) (v : Value) : Whole (w.setCell p v) g t cs := (Below.heap_setCell w p v g hp).trans h
theorem whole_new (w : World) (t : TypeId) (cs : Array Value) : Whole (w.alloc (.cells cs t)) w.heap.size t cs := heap_alloc_new w _
theorem whole_at (w : World) (g : Nat) (t : TypeId) (cs : Array Value) (h : g = w.heap.size) : Whole (w.alloc (.cells cs t)) g t cs := by
  subst h
  exact whole_new w t cs
theorem Whole.alloc {w : World} {g : Nat} {t : TypeId} {cs : Array Value} (h : Whole w g t cs) (o : Obj) : Whole (w.alloc o) g t cs := (Below.heap_alloc w o g h.lt).trans h
theorem Whole.drewN {w : World} {g : Nat} {t : TypeId} {cs : Array Value} (h : Whole w g t cs) (n : Nat) : Whole (w.drewN n) g t cs := h
theorem Whole.drew {w : World} {g : Nat} {t : TypeId} {cs : Array Value} (h : Whole w g t cs) : Whole w.drew g t cs := h
/-- Four stores, one behind the other. -/
abbrev put4 (W : World) (g : Nat) (a b c d : Value) : World := (((W.setCell ⟨g, 0, none⟩ a).setCell ⟨g, 1, none⟩ b).setCell ⟨g, 2, none⟩ c).setCell ⟨g, 3, none⟩ d
theorem whole_put4 {W : World} {g : Nat} {T : TypeId} {a b c d : Value} (h : Whole W g T #[a, b, c, d]) (a' b' c' d' : Value) : Whole (put4 W g a' b' c' d') g T #[a', b', c', d'] :=
  (((h.store 0 a').store 1 b').store 2 c').store 3 d'
theorem below_put4 {B : Nat} {w W : World} {g : Nat} (h : Below B w W) (hg : B ≤ g) (a b c d : Value) : Below B w (put4 W g a b c d) :=
  (((h.setCell (p := ⟨g, 0, none⟩) hg a).setCell (p := ⟨g, 1, none⟩) hg b).setCell (p := ⟨g, 2, none⟩) hg c).setCell (p := ⟨g, 3, none⟩) hg d
end Go.Proofs.Ytgmeggilojcoeaa

/-
  Less, Max, Next, of the program and of the document.
-/
namespace Go.Proofs.Ytgmeggilojcoeaa
set_option linter.unusedSimpArgs false
set_option linter.unusedVariables false
open Go.RowKit Rg

namespace Bl
set_option linter.unusedSimpArgs false
set_option linter.unusedVariables false
set_option maxHeartbeats 4000000 in
theorem comp_any (a b : BalD) (W : World) : Calls Try.prog 65 #[ptVal a, ptVal b] W (RetB W.heap.size W (.int .i64 (cfPt a b))) := by
  have Hk := hid_ (show cfPt a b = orI (cmpN a.pos b.pos) (cmpN a.id b.id) from rfl)
  have Hc := hid_ (fun (x y : Nat) (W' : World) => compare_any x y W')
  have Ho := hid_ (fun (g : Nat) (x y : Int) (W' : World) h0 h1 => or_any g x y W' h0 h1)
  unfold CmpPost at Hc Ho
  generalize cfPt a b = k at *
  go_enter Try.func65, Try.ntmps65
  go_wp2_with fail
  go_region_held3 (fun w' => w'.cell? ⟨W.heap.size, 0, none⟩ = some (.int .u64 (a.pos : Nat)) ∧ w'.cell? ⟨W.heap.size, 1, none⟩ = some (.int .u64 (a.id : Nat)) ∧ w'.cell? ⟨W.heap.size + 1, 0, none⟩ = some (.int .u64 (b.pos : Nat)) ∧ w'.cell? ⟨W.heap.size + 1, 1, none⟩ = some (.int .u64 (b.id : Nat))) (go_keep)
    (first | (go_at_call 81; (with_reducible refine Calls.mono (Hc.out _ _ _) ?_); rintro e w' ⟨rfl, rfl⟩) | (go_at_call 80; (with_reducible refine Calls.mono (Ho.out _ (cmpN a.pos b.pos) (cmpN a.id b.id) _ (new_at _ _ _ _ (by simp) 0 _ rfl) (new_at _ _ _ _ (by simp) 1 _ rfl)) ?_); rintro e w' ⟨rfl, rfl⟩) | fail)
  go_wp2_with fail
  go_ret
  exact retB_mk (by rw [Hk.out]; rfl) (by repeat (first | exact Below.refl _ _ | apply Below.drew | refine Below.alloc ?_ (by simp; try omega) _))
set_option maxHeartbeats 4000000 in
theorem less_any (a b : BalD) (W : World) : Calls Try.prog 35 #[ptVal a, ptVal b] W (RetB W.heap.size W (.bool (lessB a b))) := by
  have Hc := hid_ (fun (W' : World) => comp_any a b W')
  have HB := hid_ (((Below.refl W.heap.size W).alloc (Nat.le_refl _) (.cells #[.int .u64 (a.pos : Nat), .int .u64 (a.id : Nat)] 66)).alloc (by simp) (.cells #[.int .u64 (b.pos : Nat), .int .u64 (b.id : Nat)] 66))
  have HL := hid_ (less_cf a b)
  generalize cfPt a b = k at *
  go_enter Try.func35, Try.ntmps35
  go_wp2_with fail
  (with_reducible refine Calls.mono (Hc.out _) ?_)
  rintro e w1 ⟨rfl, hb⟩
  have HB1 := hid_ (HB.out.trans (hb.mono HB.out.size))
  clear hb
  go_wp2_with fail
  go_ret
  exact retB_mk (by rw [← HL.out]; rfl) HB1.out
set_option maxHeartbeats 4000000 in
theorem rless_any (a b : BalD) (W : World) : Calls Try.prog 36 #[ptVal a, ptVal b] W (RetB W.heap.size W (.bool (lessB a b))) := by
  obtain ⟨x, y⟩ := a
  obtain ⟨u, v⟩ := b
  have hlt : lessB ⟨x, y⟩ ⟨u, v⟩ = decide (x < u ∨ (x = u ∧ y < v)) := rfl
  have hw := (((Below.refl W.heap.size W).alloc (Nat.le_refl _) (.cells #[.int .u64 (x : Nat), .int .u64 (y : Nat)] 66)).alloc (by simp) (.cells #[.int .u64 (u : Nat), .int .u64 (v : Nat)] 66))
  have HW := hid_ hw
  clear hw
  rcases Nat.lt_trichotomy x u with h1 | h1 | h1
  · have H := hid_ (show lessB ⟨x, y⟩ ⟨u, v⟩ = true by rw [hlt]; exact decide_eq_true (.inl h1))
    have e1 : decide (x < u) = true := decide_eq_true h1
    clear hlt h1
    go_enter Try.func36, Try.ntmps36
    go_wp2
    go_ret
    exact retB_mk (by rw [H.out]; rfl) HW.out
  · subst h1
    have e1 : decide (x < x) = false := decide_eq_false (by omega)
    have e2 : (x == x) = true := by simp
    by_cases h2 : y < v
    · have H := hid_ (show lessB ⟨x, y⟩ ⟨x, v⟩ = true by rw [hlt]; exact decide_eq_true (.inr ⟨rfl, h2⟩))
      have e3 : decide (y < v) = true := decide_eq_true h2
      clear hlt h2
      go_enter Try.func36, Try.ntmps36
      go_wp2
      go_ret
      exact retB_mk (by rw [H.out]; rfl) HW.out
    · have H := hid_ (show lessB ⟨x, y⟩ ⟨x, v⟩ = false by rw [hlt]; exact decide_eq_false (by omega))
      have e3 : decide (y < v) = false := decide_eq_false h2
      clear hlt h2
      go_enter Try.func36, Try.ntmps36
      go_wp2
      go_ret
      exact retB_mk (by rw [H.out]; rfl) HW.out
  · have H := hid_ (show lessB ⟨x, y⟩ ⟨u, v⟩ = false by rw [hlt]; exact decide_eq_false (by omega))
    have e1 : decide (x < u) = false := decide_eq_false (by omega)
    have e2 : (x == u) = false := by simp; omega
    have e3 : ((x : Int) == (u : Int)) = false := by simp; omega
    clear hlt h1
    go_enter Try.func36, Try.ntmps36
    go_wp2
    go_ret
    exact retB_mk (by rw [H.out]; rfl) HW.out
end Bl
end Go.Proofs.Ytgmeggilojcoeaa

/-
  The greatest of some, of the program and of the document.
-/
namespace Go.Proofs.Ytgmeggilojcoeaa
set_option linter.unusedSimpArgs false
set_option linter.unusedVariables false
open Go.RowKit Rg

namespace Bl
set_option linter.unusedSimpArgs false
set_option linter.unusedVariables false
abbrev balCells (m : BalD) : Array Value := #[.int .u64 (m.pos : Nat), .int .u64 (m.id : Nat)]
theorem bal_at {w : World} {A : Option Addr} {n c : Nat} {l : List BalD} (h : ptE.Row w A n c l) {k : Nat} (hk : k < l.length) : ∃ b off, A = some ⟨b, off, none⟩ ∧ b < w.heap.size ∧ w.cell? ⟨b, off + k * 2, none⟩ = some (.int .u64 (l[k].pos : Nat)) ∧ w.cell? ⟨b, off + k * 2 + 1, none⟩ = some (.int .u64 (l[k].id : Nat)) := by
  obtain ⟨b, off, e, hb, hc⟩ := h.at_ hk
  exact ⟨b, off, e, hb, hc 0 _ rfl, hc 1 _ rfl⟩
/-- The greatest so far lies in block g. -/
theorem whole_set2 {w : World} {g : Nat} {t : TypeId} {a b : Value} (h : Whole w g t #[a, b]) (a' b' : Value) : Whole ((w.setCell ⟨g, 0, none⟩ a').setCell ⟨g, 1, none⟩ b') g t #[a', b'] := (h.store 0 a').store 1 b'
theorem below_set2 {B : Nat} {w W : World} {g : Nat} (h : Below B w W) (hg : B ≤ g) (a b : Value) : Below B w ((W.setCell ⟨g, 0, none⟩ a).setCell ⟨g, 1, none⟩ b) :=
  (h.setCell (p := ⟨g, 0, none⟩) hg a).setCell (p := ⟨g, 1, none⟩) hg b
set_option maxRecDepth 20000 in
set_option maxHeartbeats 4000000 in
theorem greatest_any (A : Option Addr) (n c : Nat) (l : List BalD) (w : World) (h : ptE.Row w A n c l) : Calls Try.prog 66 #[.agg #[.int .u64 0, .int .u64 0], .slice A n c] w (RetB w.heap.size w (ptVal (maxF l))) := by
  have hle := h.le
  have HL := hid_ h.len
  have HR := hid_ h
  have HLess := hid_ (fun (a b : BalD) (W : World) => less_any a b W)
  clear h
  go_enter Try.func66, Try.ntmps66
  go_wp2_with fail
  go_loopw [11] (fun vi wr => ∃ k : Nat, k ≤ n ∧ vi = .int .i64 (k : Nat) ∧ Hid (Below w.heap.size w wr) ∧ Hid (Whole wr (w.heap.size + 1) 66 (balCells ⟨0, 0⟩)) ∧ Hid (Whole wr (w.heap.size + 1 + 1) 66 (balCells (maxF (l.take k))))) (fun vi _ => n - (intOf vi).toNat)
  case atStart =>
    refine ⟨0, Nat.zero_le _, rfl, hid_ ((((Below.refl _ _).alloc (Nat.le_refl _) _).alloc (by simp) _).alloc (by simp; omega) _), hid_ ((whole_at _ _ _ _ (by simp)).alloc _), hid_ (whole_at _ _ _ _ (by simp))⟩
  case round =>
    obtain ⟨k, hk, rfl, HB, HW1, HW⟩ := hrel
    have HS := hid_ HB.out.size
    by_cases hlt : k < n
    · have hkl : k < l.length := by rw [HL.out]; exact hlt
      obtain ⟨b, off, rfl, hbl, c0, c1⟩ := bal_at (HR.out.below HB.out) hkl
      have x1 : (k : Int) < (n : Int) := by omega
      have x2 : (0 : Int) ≤ (k : Int) := by omega
      have HST := hid_ (max_step l hkl)
      have HK := hid_ hlt
      generalize l[k] = z at *
      generalize maxF (l.take k) = m at *
      have z0 : wr.cell? ⟨w.heap.size + 1 + 1, 0, none⟩ = some (.int .u64 (m.pos : Nat)) := HW.out.cell 0 _ rfl
      have z1 : wr.cell? ⟨w.heap.size + 1 + 1, 1, none⟩ = some (.int .u64 (m.id : Nat)) := HW.out.cell 1 _ rfl
      have HBa := hid_ (HB.out.alloc HB.out.size (.cells #[.int .u64 (z.pos : Nat), .int .u64 (z.id : Nat)] 66))
      have HWz := hid_ (whole_new wr 66 #[.int .u64 (z.pos : Nat), .int .u64 (z.id : Nat)])
      have HW1a := hid_ (HW1.out.alloc (.cells #[.int .u64 (z.pos : Nat), .int .u64 (z.id : Nat)] 66))
      have HWa := hid_ (HW.out.alloc (.cells #[.int .u64 (z.pos : Nat), .int .u64 (z.id : Nat)] 66))
      have d0 := HWa.out.cell 0 (.int .u64 (m.pos : Nat)) rfl
      have d1 := HWa.out.cell 1 (.int .u64 (m.id : Nat)) rfl
      clear hlt hkl hbl
      go_wp2_with fail
      (with_reducible refine Calls.mono (HLess.out _ _ _) ?_)
      rintro e w2 ⟨rfl, hb2⟩
      have HB2 := hid_ (HBa.out.trans (hb2.mono HBa.out.size))
      have HW12 := hid_ (HW1a.out.below hb2 HW1a.out.lt)
      have HW2 := hid_ (HWa.out.below hb2 HWa.out.lt)
      have HWz2 := hid_ (HWz.out.below hb2 HWz.out.lt)
      clear hb2
      cases hlm : lessB m z
      · have HF := hid_ (show maxF (l.take (k + 1)) = m by rw [HST.out]; unfold upB; rw [hlm]; rfl)
        clear hlm
        go_wp2_with fail
        go_roundw
        case rel => exact ⟨k + 1, by have := HK.out; omega, by go_num, HB2, HW12, hid_ (by rw [HF.out]; exact HW2.out)⟩
        case measure => have := HK.out; simp [intOf]; omega
      · have HF := hid_ (show maxF (l.take (k + 1)) = z by rw [HST.out]; unfold upB; rw [hlm]; rfl)
        have y0 : w2.cell? ⟨wr.heap.size, 0, none⟩ = some (.int .u64 (z.pos : Nat)) := HWz2.out.cell 0 _ rfl
        have y1 : w2.cell? ⟨wr.heap.size, 1, none⟩ = some (.int .u64 (z.id : Nat)) := HWz2.out.cell 1 _ rfl
        have v0 : w2.cell? ⟨w.heap.size + 1 + 1, 0, none⟩ = some (.int .u64 (m.pos : Nat)) := HW2.out.cell 0 _ rfl
        have v1 : w2.cell? ⟨w.heap.size + 1 + 1, 1, none⟩ = some (.int .u64 (m.id : Nat)) := HW2.out.cell 1 _ rfl
        have f0 := HW2.out.free 0
        have f1 := HW2.out.free 1
        clear hlm
        go_wp2_with fail
        go_roundw
        case rel => exact ⟨k + 1, by have := HK.out; omega, by go_num, hid_ (below_set2 HB2.out (by omega) _ _), hid_ ((HW12.out.far (by simp) _).far (by simp) _), hid_ (by rw [HF.out]; exact whole_set2 HW2.out _ _)⟩
        case measure => have := HK.out; simp [intOf]; omega
    · obtain rfl : k = n := by omega
      have HE := hid_ (show l.take k = l by rw [List.take_of_length_le]; rw [HL.out]; exact Nat.le_refl _)
      rw [HE.out] at HW
      generalize maxF l = m at *
      have z0 : wr.cell? ⟨w.heap.size + 1 + 1, 0, none⟩ = some (.int .u64 (m.pos : Nat)) := HW.out.cell 0 _ rfl
      have z1 : wr.cell? ⟨w.heap.size + 1 + 1, 1, none⟩ = some (.int .u64 (m.id : Nat)) := HW.out.cell 1 _ rfl
      have y0 : wr.cell? ⟨w.heap.size + 1, 0, none⟩ = some (.int .u64 0) := HW1.out.cell 0 _ rfl
      have y1 : wr.cell? ⟨w.heap.size + 1, 1, none⟩ = some (.int .u64 0) := HW1.out.cell 1 _ rfl
      have f0 := HW1.out.free 0
      have f1 := HW1.out.free 1
      go_wp2_with fail
      exact bodyPost_ret (results_cell_row rfl _ _ (w.heap.size + 1) 66 #[.int .u64 (m.pos : Nat), .int .u64 (m.id : Nat)] (0, 0) _ rfl ((HW1.out.store 0 _).store 1 _) Try.underlying66 rfl rfl) rfl (retB_mk rfl (below_set2 HB.out (by omega) _ _))
set_option maxRecDepth 20000 in
set_option maxHeartbeats 4000000 in
theorem max_any (A : Option Addr) (n c : Nat) (l : List BalD) (w : World) (h : ptE.Row w A n c l) : Calls Try.prog 37 #[.slice A n c] w (RetB w.heap.size w (ptVal (maxF l))) := by
  have HW := hid_ (whole_new w 66 #[.int .u64 0, .int .u64 0])
  have HB := hid_ ((Below.refl w.heap.size w).alloc (Nat.le_refl _) (.cells #[.int .u64 0, .int .u64 0] 66))
  have HG := hid_ (greatest_any A n c l (w.alloc (.cells #[.int .u64 0, .int .u64 0] 66)) (h.below ((Below.refl _ _).alloc (Nat.le_refl _) _)))
  generalize maxF l = m at *
  clear h
  go_enter Try.func37, Try.ntmps37
  go_wp2_with fail
  (with_reducible refine Calls.mono HG.out ?_)
  rintro e w1 ⟨rfl, hb⟩
  have HB1 := hid_ (HB.out.trans (hb.mono HB.out.size))
  have HW1 := hid_ (HW.out.below hb HW.out.lt)
  have y0 : w1.cell? ⟨w.heap.size, 0, none⟩ = some (.int .u64 0) := HW1.out.cell 0 _ rfl
  have y1 : w1.cell? ⟨w.heap.size, 1, none⟩ = some (.int .u64 0) := HW1.out.cell 1 _ rfl
  have f0 := HW1.out.free 0
  have f1 := HW1.out.free 1
  clear hb
  go_wp2_with fail
  exact bodyPost_ret (results_cell_row rfl _ _ w.heap.size 66 #[.int .u64 (m.pos : Nat), .int .u64 (m.id : Nat)] (0, 0) _ rfl ((HW1.out.store 0 _).store 1 _) Try.underlying66 rfl rfl) rfl (retB_mk rfl (below_set2 HB1.out (Nat.le_refl _) _ _))
/-- A ballot's two cells, and others, stand. -/
abbrev TwoBal (w1 : World) (g1 o1 g2 : Nat) (z m : BalD) (W : World) : Prop :=
  Below w1.heap.size w1 W ∧ W.cell? ⟨g1, o1, none⟩ = some (.int .u64 (z.pos : Nat)) ∧ W.cell? ⟨g1, o1 + 1, none⟩ = some (.int .u64 (z.id : Nat)) ∧ W.cell? ⟨g2, 0, none⟩ = some (.int .u64 (m.pos : Nat)) ∧ W.cell? ⟨g2, 1, none⟩ = some (.int .u64 (m.id : Nat))
theorem twoBal_keep {w1 W W' : World} {g1 o1 g2 : Nat} {z m : BalD} (h : TwoBal w1 g1 o1 g2 z m W) (hb : Below W.heap.size W W') : TwoBal w1 g1 o1 g2 z m W' := by
  obtain ⟨h0, a, b, c, d⟩ := h
  exact ⟨h0.trans (hb.mono h0.size), by rw [hb.cell (lt_of_cell a)]; exact a, by rw [hb.cell (lt_of_cell b)]; exact b, by rw [hb.cell (lt_of_cell c)]; exact c, by rw [hb.cell (lt_of_cell d)]; exact d⟩
set_option maxRecDepth 20000 in
set_option maxHeartbeats 4000000 in
theorem rmax_any (A : Option Addr) (n c : Nat) (l : List BalD) (w : World) (h : ptE.Row w A n c l) : Calls Try.prog 38 #[.slice A n c] w (RetB w.heap.size w (ptVal (maxF l))) := by
  have hle := h.le
  have HL := hid_ h.len
  have HR := hid_ h
  have HLess := hid_ (fun (a b : BalD) (W : World) => show Calls Try.prog 36 #[.agg #[.int .u64 (a.pos : Nat), .int .u64 (a.id : Nat)], .agg #[.int .u64 (b.pos : Nat), .int .u64 (b.id : Nat)]] W (RetB W.heap.size W (.bool (lessB a b))) from rless_any a b W)
  clear h
  go_enter Try.func38, Try.ntmps38
  go_wp2_with fail
  go_loopw [4] (fun vi wr => ∃ k : Nat, k ≤ n ∧ vi = .int .i64 (k : Nat) ∧ Hid (Below w.heap.size w wr) ∧ Hid (Whole wr w.heap.size 66 (balCells ⟨0, 0⟩)) ∧ Hid (Whole wr (w.heap.size + 1) 66 (balCells (maxF (l.take k))))) (fun vi _ => n - (intOf vi).toNat)
  case atStart =>
    refine ⟨0, Nat.zero_le _, rfl, hid_ (((Below.refl _ _).alloc (Nat.le_refl _) _).alloc (by simp) _), hid_ ((whole_at _ _ _ _ (by simp)).alloc _), hid_ (whole_at _ _ _ _ (by simp))⟩
  case round =>
    obtain ⟨k, hk, rfl, HB, HW1, HW⟩ := hrel
    have HS := hid_ HB.out.size
    by_cases hlt : k < n
    · have hkl : k < l.length := by rw [HL.out]; exact hlt
      obtain ⟨b, off, rfl, hbl, c0, c1⟩ := bal_at (HR.out.below HB.out) hkl
      have x1 : (k : Int) < (n : Int) := by omega
      have x2 : (0 : Int) ≤ (k : Int) := by omega
      have HST := hid_ (max_step l hkl)
      have HK := hid_ hlt
      generalize l[k] = z at *
      generalize maxF (l.take k) = m at *
      have S0 : TwoBal wr b (off + k * 2) (w.heap.size + 1) z m wr := ⟨Below.refl _ _, c0, c1, HW.out.cell 0 _ rfl, HW.out.cell 1 _ rfl⟩
      clear hlt hkl hbl c0 c1
      go_wp2_with fail
      go_region_held3 (TwoBal wr b (off + k * 2) (w.heap.size + 1) z m) (first | assumption | (refine twoBal_keep (by assumption) (by assumption)) | (refine twoBal_keep (by assumption) (Below.drew (Below.refl _ _))))
        (first | (go_at_call 36; (with_reducible refine Calls.mono (HLess.out m z _) ?_); rintro e w' ⟨rfl, hb'⟩) | fail)
      have hS2 : TwoBal wr b (off + k * 2) (w.heap.size + 1) z m w' := by assumption
      obtain ⟨wq, hwq⟩ : ∃ wq : World, wq = w' := ⟨_, rfl⟩
      subst hwq
      have HBq := hid_ (HB.out.trans (hS2.1.mono HB.out.size))
      have HW1q := hid_ (HW1.out.below hS2.1 HW1.out.lt)
      have HWq := hid_ (HW.out.below hS2.1 HW.out.lt)
      cases hlm : lessB m z
      · have HF := hid_ (show maxF (l.take (k + 1)) = m by rw [HST.out]; unfold upB; rw [hlm]; rfl)
        clear hlm
        go_wp2_with fail
        go_roundw
        case rel => exact ⟨k + 1, by have := HK.out; omega, by go_num, HBq, HW1q, hid_ (by rw [HF.out]; exact HWq.out)⟩
        case measure => have := HK.out; simp [intOf]; omega
      · have HF := hid_ (show maxF (l.take (k + 1)) = z by rw [HST.out]; unfold upB; rw [hlm]; rfl)
        obtain ⟨-, y0, y1, v0, v1⟩ := hS2
        have f0 := HWq.out.free 0
        have f1 := HWq.out.free 1
        clear hlm
        go_wp2_with fail
        go_roundw
        case rel => exact ⟨k + 1, by have := HK.out; omega, by go_num, hid_ (below_set2 HBq.out (by omega) _ _), hid_ ((HW1q.out.far (by simp) _).far (by simp) _), hid_ (by rw [HF.out]; exact whole_set2 HWq.out _ _)⟩
        case measure => have := HK.out; simp [intOf]; omega
    · obtain rfl : k = n := by omega
      have HE := hid_ (show l.take k = l by rw [List.take_of_length_le]; rw [HL.out]; exact Nat.le_refl _)
      rw [HE.out] at HW
      generalize maxF l = m at *
      have z0 : wr.cell? ⟨w.heap.size + 1, 0, none⟩ = some (.int .u64 (m.pos : Nat)) := HW.out.cell 0 _ rfl
      have z1 : wr.cell? ⟨w.heap.size + 1, 1, none⟩ = some (.int .u64 (m.id : Nat)) := HW.out.cell 1 _ rfl
      have y0 : wr.cell? ⟨w.heap.size, 0, none⟩ = some (.int .u64 0) := HW1.out.cell 0 _ rfl
      have y1 : wr.cell? ⟨w.heap.size, 1, none⟩ = some (.int .u64 0) := HW1.out.cell 1 _ rfl
      have f0 := HW1.out.free 0
      have f1 := HW1.out.free 1
      go_wp2_with fail
      exact bodyPost_ret (results_cell_row rfl _ _ w.heap.size 66 #[.int .u64 (m.pos : Nat), .int .u64 (m.id : Nat)] (0, 0) _ rfl ((HW1.out.store 0 _).store 1 _) Try.underlying66 rfl rfl) rfl (retB_mk rfl (below_set2 HB.out (Nat.le_refl _) _ _))
end Bl
end Go.Proofs.Ytgmeggilojcoeaa
