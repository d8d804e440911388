/-
  Ballots as pairs of numbers: their order, the greatest of some, the next one.
-/
import Derived.Test.YtljlhaillmeedaaZGRA
import Derived.Test.YtljlhaillmeedaaZGRK
import Derived.Deep.RegionHeld3
import Derived.Deep.QuietTactic
import Derived.BigQuiet
import Derived.Lib.MinMax
import Derived.Deep.Slices
import Derived.Deep.DrawnRows
import Derived.OpenShut
import Derived.Laws.StructEq
import Derived.Lib.QuietBelow
namespace Go.Proofs.Ytljlhaillmeedaa
set_option linter.unusedSimpArgs false
set_option linter.unusedVariables false
open Go.RowKit Rg
namespace Bl
set_option linter.unusedSimpArgs false
set_option linter.unusedVariables false
/-- Ballots are laid as points are: N, then Node. -/
abbrev BalD := PtD
def lessB (a b : BalD) : Bool := decide (a.pos < b.pos ∨ (a.pos = b.pos ∧ a.id < b.id))
def sameB (a b : BalD) : Bool := decide (a.pos = b.pos) && decide (a.id = b.id)
theorem sameB_iff (a b : BalD) : sameB a b = true ↔ a = b := by
  obtain ⟨x, y⟩ := a
  obtain ⟨u, v⟩ := b
  simp [sameB]
theorem less_cf (a b : BalD) : decide (cfPt a b < 0) = lessB a b := by
  have h := ltPt a b
  unfold ltOf at h
  rw [h]
  unfold lessB PtD.Le
  rw [decide_eq_decide]
  omega
theorem less_self (a : BalD) : lessB a a = false := decide_eq_false (by omega)
theorem less_two (a b : BalD) : sameB a b = !(lessB a b || lessB b a) ∧ (lessB a b && lessB b a) = false := by
  unfold lessB sameB
  constructor
  · rw [Bool.eq_iff_iff]
    simp only [Bool.and_eq_true, decide_eq_true_eq, Bool.not_eq_true', Bool.or_eq_false_iff, decide_eq_false_iff_not]
    omega
  · rw [Bool.and_eq_false_iff]
    simp only [decide_eq_false_iff_not]
    omega
theorem less_on {a b c : BalD} (h1 : lessB a b = true) (h2 : lessB b c = true) : lessB a c = true := by
  unfold lessB at *
  have := of_decide_eq_true h1
  have := of_decide_eq_true h2
  exact decide_eq_true (by omega)
/-- The greater one of two, the first one of such as are the same. -/
def upB (m b : BalD) : BalD := if lessB m b = true then b else m
def maxF (l : List BalD) : BalD := l.foldl upB ⟨0, 0⟩
/-- m is not below any of the first k. -/
theorem up_ge (m b : BalD) : lessB (upB m b) m = false ∧ lessB (upB m b) b = false := by
  unfold upB
  by_cases h : lessB m b = true
  · rw [if_pos h]
    refine ⟨?_, less_self b⟩
    have := (less_two m b).2
    rw [h] at this
    simpa using this
  · rw [if_neg h]
    exact ⟨less_self m, by simpa using h⟩
theorem le_on {a b c : BalD} (h1 : lessB a b = false) (h2 : lessB b c = false) : lessB a c = false := by
  unfold lessB at *
  have := of_decide_eq_false h1
  have := of_decide_eq_false h2
  exact decide_eq_false (by omega)
theorem fold_ge : ∀ (l : List BalD) (m : BalD), lessB (l.foldl upB m) m = false ∧ ∀ b ∈ l, lessB (l.foldl upB m) b = false
  | [], m => ⟨less_self m, by simp⟩
  | b :: t, m => by
    obtain ⟨h1, h2⟩ := fold_ge t (upB m b)
    rw [List.foldl_cons]
    refine ⟨le_on h1 (up_ge m b).1, fun x hx => ?_⟩
    rcases List.mem_cons.1 hx with rfl | hx
    · exact le_on h1 (up_ge m x).2
    · exact h2 x hx
theorem fold_in : ∀ (l : List BalD) (m : BalD), l.foldl upB m = m ∨ l.foldl upB m ∈ l
  | [], m => .inl rfl
  | b :: t, m => by
    rw [List.foldl_cons]
    rcases fold_in t (upB m b) with h | h
    · rw [h]
      unfold upB
      split
      · exact .inr (by simp)
      · exact .inl rfl
    · exact .inr (List.mem_cons_of_mem _ h)
theorem max_ge (l : List BalD) {k : Nat} (hk : k < l.length) : lessB (maxF l) l[k] = false := (fold_ge l _).2 _ (List.getElem_mem hk)
theorem max_in (l : List BalD) (h : l ≠ []) : maxF l ∈ l := by
  rcases fold_in l ⟨0, 0⟩ with e | e
  · obtain ⟨b, t, rfl⟩ := List.exists_cons_of_ne_nil h
    have h1 := (fold_ge (b :: t) ⟨0, 0⟩).2 b (by simp)
    rw [e] at h1
    have h2 := of_decide_eq_false h1
    have hb : b = ⟨0, 0⟩ := by
      obtain ⟨x, y⟩ := b
      simp only at h2
      have : x = 0 := by omega
      have : y = 0 := by omega
      subst x y
      rfl
    show List.foldl upB ⟨0, 0⟩ (b :: t) ∈ _
    rw [e, hb]
    simp
  · exact e
theorem max_step (l : List BalD) {k : Nat} (hk : k < l.length) : maxF (l.take (k + 1)) = upB (maxF (l.take k)) l[k] := by
  unfold maxF
  rw [List.take_succ_eq_append_getElem hk, List.foldl_append]
  rfl
theorem max_wf (l : List BalD) (M : Nat) (h0 : 0 < M) (h : ∀ b ∈ l, b.pos < M ∧ b.id < M) : (maxF l).pos < M ∧ (maxF l).id < M := by
  rcases fold_in l ⟨0, 0⟩ with e | e
  · show (List.foldl upB ⟨0, 0⟩ l).pos < M ∧ (List.foldl upB ⟨0, 0⟩ l).id < M
    rw [e]
    exact ⟨h0, h0⟩
  · exact h _ e
/-- What comes next, and what is said of it. -/
def nextK (seen : BalD) (version node : Nat) : Int := if node = 0 then 1 else if seen.pos = 18446744073709551615 ∨ version = 18446744073709551615 then 12 else 0
def nextD (seen : BalD) (version node : Nat) : BalD := if node = 0 then ⟨0, 0⟩ else if seen.pos = 18446744073709551615 ∨ version = 18446744073709551615 then ⟨0, 0⟩ else ⟨max (seen.pos + 1) version, node⟩
theorem next_yes {s : BalD} {v d : Nat} (h : nextK s v d = 0) : lessB s (nextD s v d) = true ∧ v ≤ (nextD s v d).pos ∧ s.pos < (nextD s v d).pos ∧ (nextD s v d).id = d := by
  unfold nextK at h
  unfold nextD
  by_cases h0 : d = 0
  · rw [if_pos h0] at h; cases h
  · rw [if_neg h0] at h ⊢
    by_cases hx : s.pos = 18446744073709551615 ∨ v = 18446744073709551615
    · rw [if_pos hx] at h; cases h
    · rw [if_neg hx]
      refine ⟨decide_eq_true (.inl ?_), ?_, ?_, rfl⟩
      · show s.pos < max (s.pos + 1) v; omega
      · show v ≤ max (s.pos + 1) v; omega
      · show s.pos < max (s.pos + 1) v; omega
theorem next_no {s : BalD} {v d : Nat} (h : nextK s v d ≠ 0) : nextD s v d = ⟨0, 0⟩ := by
  unfold nextK at h
  unfold nextD
  by_cases h0 : d = 0
  · rw [if_pos h0]
  · rw [if_neg h0] at h ⊢
    by_cases hx : s.pos = 18446744073709551615 ∨ v = 18446744073709551615
    · rw [if_pos hx]
    · rw [if_neg hx] at h; exact absurd rfl h
theorem next_kinds (s : BalD) (v d : Nat) : (d = 0 ∧ nextK s v d = 1) ∨ (d ≠ 0 ∧ (s.pos = 18446744073709551615 ∨ v = 18446744073709551615) ∧ nextK s v d = 12) ∨ (d ≠ 0 ∧ nextK s v d = 0) := by
  unfold nextK
  by_cases h0 : d = 0
  · rw [if_pos h0]; exact .inl ⟨h0, rfl⟩
  · rw [if_neg h0]
    by_cases hx : s.pos = 18446744073709551615 ∨ v = 18446744073709551615
    · rw [if_pos hx]; exact .inr (.inl ⟨h0, hx, rfl⟩)
    · rw [if_neg hx]; exact .inr (.inr ⟨h0, rfl⟩)
theorem next_small {s : BalD} {v d : Nat} (hs : s.pos < 18446744073709551616) (hv : v < 18446744073709551616) : (nextD s v d).pos < 18446744073709551616 := by
  unfold nextD
  by_cases h0 : d = 0
  · rw [if_pos h0]; show (0 : Nat) < _; omega
  · rw [if_neg h0]
    by_cases hx : s.pos = 18446744073709551615 ∨ v = 18446744073709551615
    · rw [if_pos hx]; show (0 : Nat) < _; omega
    · rw [if_neg hx]; show max (s.pos + 1) v < _; omega
theorem max_pair {a b : BalD} (h : a.pos < b.pos) : maxF [a, b] = b := by
  unfold maxF
  rw [List.foldl_cons, List.foldl_cons, List.foldl_nil]
  have h1 : lessB (upB ⟨0, 0⟩ a) b = true := by
    unfold upB
    split
    · exact decide_eq_true (.inl h)
    · exact decide_eq_true (.inl (by show 0 < b.pos; omega))
  rw [upB, if_pos h1]
end Bl
end Go.Proofs.Ytljlhaillmeedaa

/-
  Less, Max, Next, of the program and of the document.
-/
namespace Go.Proofs.Ytljlhaillmeedaa
set_option linter.unusedSimpArgs false
set_option linter.unusedVariables false
open Go.RowKit Rg

namespace Bl
set_option linter.unusedSimpArgs false
set_option linter.unusedVariables false
set_option maxHeartbeats 4000000 in
theorem comp_any (a b : BalD) (W : World) : Calls Try.prog 78 #[ptVal a, ptVal b] W (RetB W.heap.size W (.int .i64 (cfPt a b))) := by
  have Hk := hid_ (show cfPt a b = orI (cmpN a.pos b.pos) (cmpN a.id b.id) from rfl)
  have Hc := hid_ (fun (x y : Nat) (W' : World) => compare_any x y W')
  have Ho := hid_ (fun (g : Nat) (x y : Int) (W' : World) h0 h1 => or_any g x y W' h0 h1)
  unfold CmpPost at Hc Ho
  generalize cfPt a b = k at *
  go_enter Try.func78, Try.ntmps78
  go_wp2_with fail
  go_region_held3 (fun w' => w'.cell? ⟨W.heap.size, 0, none⟩ = some (.int .u64 (a.pos : Nat)) ∧ w'.cell? ⟨W.heap.size, 1, none⟩ = some (.int .u64 (a.id : Nat)) ∧ w'.cell? ⟨W.heap.size + 1, 0, none⟩ = some (.int .u64 (b.pos : Nat)) ∧ w'.cell? ⟨W.heap.size + 1, 1, none⟩ = some (.int .u64 (b.id : Nat))) (go_keep)
    (first | (go_at_call 97; (with_reducible refine Calls.mono (Hc.out _ _ _) ?_); rintro e w' ⟨rfl, rfl⟩) | (go_at_call 96; (with_reducible refine Calls.mono (Ho.out _ (cmpN a.pos b.pos) (cmpN a.id b.id) _ (new_at _ _ _ _ (by simp) 0 _ rfl) (new_at _ _ _ _ (by simp) 1 _ rfl)) ?_); rintro e w' ⟨rfl, rfl⟩) | fail)
  go_wp2_with fail
  go_ret
  exact retB_mk (by rw [Hk.out]; rfl) (by repeat (first | exact Below.refl _ _ | apply Below.drew | refine Below.alloc ?_ (by simp; try omega) _))
set_option maxHeartbeats 4000000 in
theorem less_any (a b : BalD) (W : World) : Calls Try.prog 62 #[ptVal a, ptVal b] W (RetB W.heap.size W (.bool (lessB a b))) := by
  have Hc := hid_ (fun (W' : World) => comp_any a b W')
  have HB := hid_ (((Below.refl W.heap.size W).alloc (Nat.le_refl _) (.cells #[.int .u64 (a.pos : Nat), .int .u64 (a.id : Nat)] 50)).alloc (by simp) (.cells #[.int .u64 (b.pos : Nat), .int .u64 (b.id : Nat)] 50))
  have HL := hid_ (less_cf a b)
  generalize cfPt a b = k at *
  go_enter Try.func62, Try.ntmps62
  go_wp2_with fail
  (with_reducible refine Calls.mono (Hc.out _) ?_)
  rintro e w1 ⟨rfl, hb⟩
  have HB1 := hid_ (HB.out.trans (hb.mono HB.out.size))
  clear hb
  go_wp2_with fail
  go_ret
  exact retB_mk (by rw [← HL.out]; rfl) HB1.out
set_option maxHeartbeats 4000000 in
theorem rless_any (a b : BalD) (W : World) : Calls Try.prog 37 #[ptVal a, ptVal b] W (RetB W.heap.size W (.bool (lessB a b))) := by
  obtain ⟨x, y⟩ := a
  obtain ⟨u, v⟩ := b
  have hlt : lessB ⟨x, y⟩ ⟨u, v⟩ = decide (x < u ∨ (x = u ∧ y < v)) := rfl
  have hw := (((Below.refl W.heap.size W).alloc (Nat.le_refl _) (.cells #[.int .u64 (x : Nat), .int .u64 (y : Nat)] 50)).alloc (by simp) (.cells #[.int .u64 (u : Nat), .int .u64 (v : Nat)] 50))
  have HW := hid_ hw
  clear hw
  rcases Nat.lt_trichotomy x u with h1 | h1 | h1
  · have H := hid_ (show lessB ⟨x, y⟩ ⟨u, v⟩ = true by rw [hlt]; exact decide_eq_true (.inl h1))
    have e1 : decide (x < u) = true := decide_eq_true h1
    clear hlt h1
    go_enter Try.func37, Try.ntmps37
    go_wp2
    go_ret
    exact retB_mk (by rw [H.out]; rfl) HW.out
  · subst h1
    have e1 : decide (x < x) = false := decide_eq_false (by omega)
    have e2 : (x == x) = true := by simp
    by_cases h2 : y < v
    · have H := hid_ (show lessB ⟨x, y⟩ ⟨x, v⟩ = true by rw [hlt]; exact decide_eq_true (.inr ⟨rfl, h2⟩))
      have e3 : decide (y < v) = true := decide_eq_true h2
      clear hlt h2
      go_enter Try.func37, Try.ntmps37
      go_wp2
      go_ret
      exact retB_mk (by rw [H.out]; rfl) HW.out
    · have H := hid_ (show lessB ⟨x, y⟩ ⟨x, v⟩ = false by rw [hlt]; exact decide_eq_false (by omega))
      have e3 : decide (y < v) = false := decide_eq_false h2
      clear hlt h2
      go_enter Try.func37, Try.ntmps37
      go_wp2
      go_ret
      exact retB_mk (by rw [H.out]; rfl) HW.out
  · have H := hid_ (show lessB ⟨x, y⟩ ⟨u, v⟩ = false by rw [hlt]; exact decide_eq_false (by omega))
    have e1 : decide (x < u) = false := decide_eq_false (by omega)
    have e2 : (x == u) = false := by simp; omega
    have e3 : ((x : Int) == (u : Int)) = false := by simp; omega
    clear hlt h1
    go_enter Try.func37, Try.ntmps37
    go_wp2
    go_ret
    exact retB_mk (by rw [H.out]; rfl) HW.out
end Bl
end Go.Proofs.Ytljlhaillmeedaa

/-
  The greatest of some, of the program and of the document.
-/
namespace Go.Proofs.Ytljlhaillmeedaa
set_option linter.unusedSimpArgs false
set_option linter.unusedVariables false
open Go.RowKit Rg

namespace Bl
set_option linter.unusedSimpArgs false
set_option linter.unusedVariables false
abbrev balCells (m : BalD) : Array Value := #[.int .u64 (m.pos : Nat), .int .u64 (m.id : Nat)]
theorem bal_at {w : World} {A : Option Addr} {n c : Nat} {l : List BalD} (h : ptE.Row w A n c l) {k : Nat} (hk : k < l.length) : ∃ b off, A = some ⟨b, off, none⟩ ∧ b < w.heap.size ∧ w.cell? ⟨b, off + k * 2, none⟩ = some (.int .u64 (l[k].pos : Nat)) ∧ w.cell? ⟨b, off + k * 2 + 1, none⟩ = some (.int .u64 (l[k].id : Nat)) := by
  obtain ⟨b, off, e, hb, hc⟩ := h.at_ hk
  exact ⟨b, off, e, hb, hc 0 _ rfl, hc 1 _ rfl⟩
/-- The greatest so far lies in block g. -/
theorem whole_set2 {w : World} {g : Nat} {t : TypeId} {a b : Value} (h : Whole w g t #[a, b]) (a' b' : Value) : Whole ((w.setCell ⟨g, 0, none⟩ a').setCell ⟨g, 1, none⟩ b') g t #[a', b'] := (h.store 0 a').store 1 b'
theorem below_set2 {B : Nat} {w W : World} {g : Nat} (h : Below B w W) (hg : B ≤ g) (a b : Value) : Below B w ((W.setCell ⟨g, 0, none⟩ a).setCell ⟨g, 1, none⟩ b) :=
  (h.setCell (p := ⟨g, 0, none⟩) hg a).setCell (p := ⟨g, 1, none⟩) hg b
/-- A ballot's two cells, and others, stand. -/
abbrev TwoBal (w1 : World) (g1 o1 g2 : Nat) (z m : BalD) (W : World) : Prop :=
  Below w1.heap.size w1 W ∧ W.cell? ⟨g1, o1, none⟩ = some (.int .u64 (z.pos : Nat)) ∧ W.cell? ⟨g1, o1 + 1, none⟩ = some (.int .u64 (z.id : Nat)) ∧ W.cell? ⟨g2, 0, none⟩ = some (.int .u64 (m.pos : Nat)) ∧ W.cell? ⟨g2, 1, none⟩ = some (.int .u64 (m.id : Nat))
theorem twoBal_keep {w1 W W' : World} {g1 o1 g2 : Nat} {z m : BalD} (h : TwoBal w1 g1 o1 g2 z m W) (hb : Below W.heap.size W W') : TwoBal w1 g1 o1 g2 z m W' := by
  obtain ⟨h0, a, b, c, d⟩ := h
  exact ⟨h0.trans (hb.mono h0.size), by rw [hb.cell (lt_of_cell a)]; exact a, by rw [hb.cell (lt_of_cell b)]; exact b, by rw [hb.cell (lt_of_cell c)]; exact c, by rw [hb.cell (lt_of_cell d)]; exact d⟩
set_option maxRecDepth 20000 in
set_option maxHeartbeats 4000000 in
theorem rmax_any (A : Option Addr) (n c : Nat) (l : List BalD) (w : World) (h : ptE.Row w A n c l) : Calls Try.prog 41 #[.slice A n c] w (RetB w.heap.size w (ptVal (maxF l))) := by
  have hle := h.le
  have HL := hid_ h.len
  have HR := hid_ h
  have HLess := hid_ (fun (a b : BalD) (W : World) => show Calls Try.prog 37 #[.agg #[.int .u64 (a.pos : Nat), .int .u64 (a.id : Nat)], .agg #[.int .u64 (b.pos : Nat), .int .u64 (b.id : Nat)]] W (RetB W.heap.size W (.bool (lessB a b))) from rless_any a b W)
  clear h
  go_enter Try.func41, Try.ntmps41
  go_wp2_with fail
  go_loopw [4] (fun vi wr => ∃ k : Nat, k ≤ n ∧ vi = .int .i64 (k : Nat) ∧ Hid (Below w.heap.size w wr) ∧ Hid (Whole wr w.heap.size 50 (balCells ⟨0, 0⟩)) ∧ Hid (Whole wr (w.heap.size + 1) 50 (balCells (maxF (l.take k))))) (fun vi _ => n - (intOf vi).toNat)
  case atStart =>
    refine ⟨0, Nat.zero_le _, rfl, hid_ (((Below.refl _ _).alloc (Nat.le_refl _) _).alloc (by simp) _), hid_ ((whole_at _ _ _ _ (by simp)).alloc _), hid_ (whole_at _ _ _ _ (by simp))⟩
  case round =>
    obtain ⟨k, hk, rfl, HB, HW1, HW⟩ := hrel
    have HS := hid_ HB.out.size
    by_cases hlt : k < n
    · have hkl : k < l.length := by rw [HL.out]; exact hlt
      obtain ⟨b, off, rfl, hbl, c0, c1⟩ := bal_at (HR.out.below HB.out) hkl
      have x1 : (k : Int) < (n : Int) := by omega
      have x2 : (0 : Int) ≤ (k : Int) := by omega
      have HST := hid_ (max_step l hkl)
      have HK := hid_ hlt
      generalize l[k] = z at *
      generalize maxF (l.take k) = m at *
      have S0 : TwoBal wr b (off + k * 2) (w.heap.size + 1) z m wr := ⟨Below.refl _ _, c0, c1, HW.out.cell 0 _ rfl, HW.out.cell 1 _ rfl⟩
      clear hlt hkl hbl c0 c1
      go_wp2_with fail
      go_region_held3 (TwoBal wr b (off + k * 2) (w.heap.size + 1) z m) (first | assumption | (refine twoBal_keep (by assumption) (by assumption)) | (refine twoBal_keep (by assumption) (Below.drew (Below.refl _ _))))
        (first | (go_at_call 37; (with_reducible refine Calls.mono (HLess.out m z _) ?_); rintro e w' ⟨rfl, hb'⟩) | fail)
      have hS2 : TwoBal wr b (off + k * 2) (w.heap.size + 1) z m w' := by assumption
      obtain ⟨wq, hwq⟩ : ∃ wq : World, wq = w' := ⟨_, rfl⟩
      subst hwq
      have HBq := hid_ (HB.out.trans (hS2.1.mono HB.out.size))
      have HW1q := hid_ (HW1.out.below hS2.1 HW1.out.lt)
      have HWq := hid_ (HW.out.below hS2.1 HW.out.lt)
      cases hlm : lessB m z
      · have HF := hid_ (show maxF (l.take (k + 1)) = m by rw [HST.out]; unfold upB; rw [hlm]; rfl)
        clear hlm
        go_wp2_with fail
        go_roundw
        case rel => exact ⟨k + 1, by have := HK.out; omega, by go_num, HBq, HW1q, hid_ (by rw [HF.out]; exact HWq.out)⟩
        case measure => have := HK.out; simp [intOf]; omega
      · have HF := hid_ (show maxF (l.take (k + 1)) = z by rw [HST.out]; unfold upB; rw [hlm]; rfl)
        obtain ⟨-, y0, y1, v0, v1⟩ := hS2
        have f0 := HWq.out.free 0
        have f1 := HWq.out.free 1
        clear hlm
        go_wp2_with fail
        go_roundw
        case rel => exact ⟨k + 1, by have := HK.out; omega, by go_num, hid_ (below_set2 HBq.out (by omega) _ _), hid_ ((HW1q.out.far (by simp) _).far (by simp) _), hid_ (by rw [HF.out]; exact whole_set2 HWq.out _ _)⟩
        case measure => have := HK.out; simp [intOf]; omega
    · obtain rfl : k = n := by omega
      have HE := hid_ (show l.take k = l by rw [List.take_of_length_le]; rw [HL.out]; exact Nat.le_refl _)
      rw [HE.out] at HW
      generalize maxF l = m at *
      have z0 : wr.cell? ⟨w.heap.size + 1, 0, none⟩ = some (.int .u64 (m.pos : Nat)) := HW.out.cell 0 _ rfl
      have z1 : wr.cell? ⟨w.heap.size + 1, 1, none⟩ = some (.int .u64 (m.id : Nat)) := HW.out.cell 1 _ rfl
      have y0 : wr.cell? ⟨w.heap.size, 0, none⟩ = some (.int .u64 0) := HW1.out.cell 0 _ rfl
      have y1 : wr.cell? ⟨w.heap.size, 1, none⟩ = some (.int .u64 0) := HW1.out.cell 1 _ rfl
      have f0 := HW1.out.free 0
      have f1 := HW1.out.free 1
      go_wp2_with fail
      exact bodyPost_ret (results_cell_row rfl _ _ w.heap.size 50 #[.int .u64 (m.pos : Nat), .int .u64 (m.id : Nat)] (0, 0) _ rfl ((HW1.out.store 0 _).store 1 _) Try.underlying50 rfl rfl) rfl (retB_mk rfl (below_set2 HB.out (Nat.le_refl _) _ _))
end Bl
end Go.Proofs.Ytljlhaillmeedaa

/-
  The next ballot, of the program and of the document.
-/
namespace Go.Proofs.Ytljlhaillmeedaa
set_option linter.unusedSimpArgs false
set_option linter.unusedVariables false
open Go.RowKit Rg
namespace Bl
set_option linter.unusedSimpArgs false
set_option linter.unusedVariables false
set_option maxRecDepth 20000 in
set_option maxHeartbeats 4000000 in
theorem next_any (s : BalD) (v d : Nat) (w : World) (hs : s.pos < 18446744073709551616) (hv : v < 18446744073709551616) : Calls Try.prog 39 #[ptVal s, .int .u64 (v : Nat), .int .u64 (d : Nat)] w (RetB w.heap.size w (.tuple #[ptVal (nextD s v d), .int .i64 (nextK s v d)])) := by
  have HB := hid_ (fun (x y : Value) => ((Below.refl w.heap.size w).alloc (Nat.le_refl _) (.cells #[.int .u64 (s.pos : Nat), .int .u64 (s.id : Nat)] 50)).alloc (by simp) (.cells #[x, y] 50))
  by_cases h0 : d = 0
  · subst h0
    have Hk := hid_ (show nextK s v 0 = 1 ∧ nextD s v 0 = ⟨0, 0⟩ from ⟨rfl, rfl⟩)
    rw [Hk.out.1, Hk.out.2]
    clear Hk
    go_enter Try.func39, Try.ntmps39
    go_wp2_with fail
    exact bodyPost_ret (v := .tuple #[ptVal ⟨0, 0⟩, .int .i64 1]) (by simp [results, Try.results39, go_sem]) rfl (retB_mk rfl (HB.out _ _))
  · have e1 : (d == 0) = false := by simpa using h0
    have e2 : ((d : Int) == 0) = false := by simp; omega
    by_cases hx : s.pos = 18446744073709551615 ∨ v = 18446744073709551615
    · have Hk := hid_ (show nextK s v d = 12 ∧ nextD s v d = ⟨0, 0⟩ by unfold nextK nextD; rw [if_neg h0, if_pos hx, if_neg h0, if_pos hx]; exact ⟨rfl, rfl⟩)
      rw [Hk.out.1, Hk.out.2]
      clear Hk
      by_cases hp : s.pos = 18446744073709551615
      · have f1 : (((s.pos : Nat) : Int) == 18446744073709551615) = true := by rw [beq_iff_eq]; omega
        have f2 : (s.pos == 18446744073709551615) = true := by rw [beq_iff_eq]; exact hp
        clear hp hx h0
        go_enter Try.func39, Try.ntmps39
        go_wp2_with fail
        exact bodyPost_ret (v := .tuple #[ptVal ⟨0, 0⟩, .int .i64 12]) (by simp [results, Try.results39, go_sem]) rfl (retB_mk rfl (HB.out _ _))
      · have f1 : (((s.pos : Nat) : Int) == 18446744073709551615) = false := by rw [beq_eq_false_iff_ne]; omega
        have f2 : (s.pos == 18446744073709551615) = false := by rw [beq_eq_false_iff_ne]; exact hp
        have f3 : (((v : Nat) : Int) == 18446744073709551615) = true := by rw [beq_iff_eq]; omega
        have f4 : (v == 18446744073709551615) = true := by rw [beq_iff_eq]; omega
        clear hp hx h0
        go_enter Try.func39, Try.ntmps39
        go_wp2_with fail
        exact bodyPost_ret (v := .tuple #[ptVal ⟨0, 0⟩, .int .i64 12]) (by simp [results, Try.results39, go_sem]) rfl (retB_mk rfl (HB.out _ _))
    · have Hk := hid_ (show nextK s v d = 0 ∧ nextD s v d = ⟨max (s.pos + 1) v, d⟩ by unfold nextK nextD; rw [if_neg h0, if_neg hx, if_neg h0, if_neg hx]; exact ⟨rfl, rfl⟩)
      rw [Hk.out.1, Hk.out.2]
      have f1 : (((s.pos : Nat) : Int) == 18446744073709551615) = false := by rw [beq_eq_false_iff_ne]; omega
      have f2 : (s.pos == 18446744073709551615) = false := by rw [beq_eq_false_iff_ne]; omega
      have f3 : (((v : Nat) : Int) == 18446744073709551615) = false := by rw [beq_eq_false_iff_ne]; omega
      have f4 : (v == 18446744073709551615) = false := by rw [beq_eq_false_iff_ne]; omega
      have f5 : IntKind.u64.wrap ((s.pos : Int) + 1) = (s.pos : Int) + 1 := by simp [IntKind.wrap, IntKind.bits, IntKind.signed]; omega
      obtain ⟨m, hm⟩ : ∃ m : Nat, m = max (s.pos + 1) v := ⟨_, rfl⟩
      have hm2 : max ((s.pos : Int) + 1) (v : Int) = (m : Int) := by omega
      rw [← hm]
      clear hx h0 hm Hk
      go_enter Try.func39, Try.ntmps39
      go_wp2_with fail
      exact bodyPost_ret (v := .tuple #[ptVal ⟨m, d⟩, .int .i64 0]) (by simp [results, Try.results39, go_sem]) rfl (retB_mk rfl (HB.out _ _))
end Bl
end Go.Proofs.Ytljlhaillmeedaa

/-
  Numbers, ballots and rows of them that a law is given.
-/
namespace Go.Proofs.Ytljlhaillmeedaa
set_option linter.unusedSimpArgs false
set_option linter.unusedVariables false
open Go.RowKit Rg
namespace Bl
set_option linter.unusedSimpArgs false
set_option linter.unusedVariables false
theorem u64_of {n : Int} (h : (Lit.int .u64 n).wf = true) : ∃ c : Nat, n = (c : Int) ∧ c < 18446744073709551616 := by
  have h1 : 0 ≤ n ∧ n ≤ 18446744073709551615 := by simpa [Lit.wf, IntKind.min, IntKind.max, IntKind.bits, IntKind.signed] using h
  exact ⟨n.toNat, by omega, by omega⟩
theorem u64s_of : ∀ zs : List Int, (∀ n ∈ zs, (Lit.int .u64 n).wf = true) → ∃ l : List Nat, l.map (fun c : Nat => (c : Int)) = zs ∧ ∀ i ∈ l, i < 18446744073709551616
  | [], _ => ⟨[], rfl, by simp⟩
  | z :: zs, h => by
    obtain ⟨c, hc, hlt⟩ := u64_of (h z (by simp))
    obtain ⟨l, hl, hb⟩ := u64s_of zs (fun n hn => h n (by simp [hn]))
    refine ⟨c :: l, by simp [hc, hl], fun i hi => ?_⟩
    rcases List.mem_cons.1 hi with rfl | hi
    · exact hlt
    · exact hb i hi
/-- A row of numbers that came in. -/
structure NumRow (w : World) (A : Option Addr) (n c : Nat) (l : List Nat) : Prop where
  at_ : ∀ k (hk : k < l.length), ∃ b off, A = some ⟨b, off, none⟩ ∧ w.cell? ⟨b, off + k, none⟩ = some (.int .u64 (l[k] : Nat))
  len : l.length = n
  cap : n ≤ c
  max : c ≤ 9223372036854775807
theorem NumRow.below {w w' : World} {A : Option Addr} {n c : Nat} {l : List Nat} (h : NumRow w A n c l) (hb : Below w.heap.size w w') : NumRow w' A n c l :=
  ⟨fun k hk => by
    obtain ⟨b, off, e, hc⟩ := h.at_ k hk
    exact ⟨b, off, e, by rw [hb.cell (lt_of_cell hc)]; exact hc⟩, h.len, h.cap, h.max⟩
theorem nums_of {w : World} {a : Option Addr} {len cap : Nat} {zs : List Int}
    (h : (a = none ∧ len = 0 ∧ cap = 0 ∧ zs = []) ∨
      ∃ x, a = some x ∧ len ≤ cap ∧ cap ≤ maxLen ∧ zs.length = cap ∧ (∀ i, i < zs.length → w.cell? (x.add i) = some (.int .u64 (zs.getD i 0))) ∧ ∀ n ∈ zs, (Lit.int .u64 n).wf = true) :
    ∃ ids : List Nat, NumRow w a len cap ids ∧ ∀ i ∈ ids, i < 18446744073709551616 := by
  rcases h with ⟨rfl, rfl, rfl, rfl⟩ | ⟨x, rfl, hl, hm, hz, hcell, hwz⟩
  · exact ⟨[], ⟨fun k hk => by simp at hk, rfl, Nat.le_refl _, by omega⟩, by simp⟩
  · obtain ⟨l, rfl, hb⟩ := u64s_of zs hwz
    have hlen : l.length = cap := by simpa using hz
    unfold maxLen at hm
    refine ⟨l.take len, ⟨fun k hk => ?_, by rw [List.length_take]; omega, hl, by omega⟩, fun i hi => hb i (List.mem_of_mem_take hi)⟩
    have hkl : k < l.length := by rw [List.length_take] at hk; omega
    have h1 := hcell k (by simpa using hkl)
    obtain ⟨b, off, spot⟩ := x
    have h0 := hcell 0 (by simp; omega)
    have hs : spot = none := by simpa [Addr.add] using World.cell?_spot h0
    subst hs
    rw [add_plain] at h1
    refine ⟨b, off, rfl, ?_⟩
    rw [h1]
    simp [hkl]
section
open Go.ChangeShapes Go.WideShapes
theorem cells_u64 : Try.prog.cellsOf 48 = 1 := by kernel_rfl
theorem cells_bal : Try.prog.cellsOf 50 = 2 := by kernel_rfl
theorem two_cells {cs : List Value} (h : cs.length = 2) : ∃ a b, cs = [a, b] := by
  match cs, h with
  | [a, b], _ => exact ⟨a, b, rfl⟩
variable {H : Type} {enc : TypeId × Value → H} {w : World} {base : Nat} {spare : Nat → Bool} {held : Bool} {fuel : Nat}
/-- A ballot whose numbers fit. -/
def Wf (p : BalD) : Prop := p.pos < 18446744073709551616 ∧ p.id < 18446744073709551616
theorem bal_cells {cs : List Value} {x : DataW H × List MemPlace} (h : DataW.trod enc Try.prog w base spare held fuel 50 cs = some x) : ∃ s : BalD, Wf s ∧ cs = cfP s := by
  obtain ⟨xs, n, _, _, hlen, hxl, hf⟩ := DataW.trod_struct Try.underlying50 h
  rw [cells_bal] at hlen
  obtain ⟨a, b, rfl⟩ := two_cells hlen
  have hxl' : xs.length = 2 := hxl
  have h0 : DataW.trod enc Try.prog w base spare held n 48 (([a, b].drop 0).take (Try.prog.cellsOf 48)) = xs[0]? := hf 0 _ rfl
  have h1 : DataW.trod enc Try.prog w base spare held n 48 (([a, b].drop 1).take (Try.prog.cellsOf 48)) = xs[1]? := hf 1 _ rfl
  rw [cells_u64] at h0 h1
  rw [List.getElem?_eq_getElem (by omega)] at h0 h1
  obtain ⟨n0, e0, _, w0⟩ := DataW.trod_int Try.underlying48 h0
  obtain ⟨n1, e1, _, w1⟩ := DataW.trod_int Try.underlying48 h1
  obtain ⟨m0, rfl, g0⟩ := u64_of w0
  obtain ⟨m1, rfl, g1⟩ := u64_of w1
  simp at e0 e1
  exact ⟨⟨m0, m1⟩, ⟨g0, g1⟩, by rw [e0, e1]; rfl⟩
/-- What a ballot that came in is known to be. -/
def BalV (_w : World) (v : Value) : Prop := ∃ m : BalD, Wf m ∧ v = ptVal m
set_option maxRecDepth 100000 in
theorem open_balV {v : Value} {d : DataW H} {p : List MemPlace} {x : Reach} {r : Nat}
    (hv : Value.okWide Try.prog w x r 50 v) (h : DataW.Trod enc Try.prog w base spare held 50 v d p) : BalV w v := by
  obtain ⟨cs, rfl, _⟩ := okWide_struct Try.underlying50 hv
  obtain ⟨fuel, hf⟩ := h
  obtain ⟨s, hs, hc⟩ := bal_cells hf
  refine ⟨s, hs, ?_⟩
  have : cs.toList = cfP s := by simpa [Value.cells] using hc
  have e : cs = (cfP s).toArray := by rw [← this]
  rw [e]
  rfl
/-- What a list of ballots that came in is known to be. -/
def BalsV (w : World) (v : Value) : Prop := ∃ A n c ss, v = .slice A n c ∧ ptE.Row w A n c ss ∧ ∀ s ∈ ss, Wf s
set_option maxRecDepth 100000 in
theorem open_balsV {v : Value} {d : DataW H} {p : List MemPlace} {x : Reach} {r : Nat}
    (hv : Value.okWide Try.prog w x r 87 v) (h : DataW.Trod enc Try.prog w base (fun _ => true) held 87 v d p) : BalsV w v := by
  obtain ⟨a0, len0, cap0, rfl⟩ := okWide_slice Try.underlying87 hv
  obtain ⟨fuel, hf⟩ := h
  rcases Go.Deep.open_slice Try.underlying87 hf with ⟨hcs, _⟩ | ⟨a, len, cap, m, n, D, Pl, hcs, _, h1, h2, hm, _, h3⟩
  · simp [Value.cells] at hcs
    obtain ⟨rfl, rfl, rfl⟩ := hcs
    exact ⟨_, _, _, [], rfl, Enc.Row.none w, by simp⟩
  · simp [Value.cells] at hcs
    obtain ⟨rfl, rfl, rfl⟩ := hcs
    simp only [if_true] at hm
    subst hm
    have hone : ∀ k, k < m → ∃ s : BalD, Wf s ∧ ∀ j u, (cfP s)[j]? = some u → w.cell? ((a.add (k * 2)).add j) = some u := fun k hk => by
      obtain ⟨cs', g1, g2⟩ := h3 k hk
      rw [cells_bal] at g1
      obtain ⟨s, hs, rfl⟩ := bal_cells g2
      obtain ⟨_, _, hat⟩ := World.cells?_some g1
      refine ⟨s, hs, fun j u hu => ?_⟩
      have hj : j < 2 := (List.getElem?_eq_some_iff.1 hu).1
      rw [hat j hj]
      exact hu
    obtain ⟨f, hf'⟩ := Go.Deep.choose_lt hone
    refine ⟨_, _, _, (List.range len0).map f, rfl, ⟨fun hne => ?_, by simp, h1, by unfold maxLen at h2; omega, fun e => by cases e⟩, ?_⟩
    · have hpos : 0 < len0 := by
        rcases Nat.eq_zero_or_pos len0 with e | e
        · subst e; exact absurd rfl hne
        · exact e
      obtain ⟨b, off, spot⟩ := a
      have h0 := (hf' 0 (by omega)).2 0 _ rfl
      have hs : spot = none := by simpa [Addr.add] using World.cell?_spot h0
      subst hs
      refine ⟨b, off, rfl, fun k u hu => ?_⟩
      have hk : k < len0 * 2 := by
        have := (List.getElem?_eq_some_iff.1 hu).1
        rw [ptE.all_length, List.length_map, List.length_range] at this
        exact this
      have hk2 : k / 2 < ((List.range len0).map f).length := by simp; omega
      have hm := ptE.all_get _ hk2 (k % 2) (by show _ < 2; omega)
      rw [show k / 2 * ptE.K + k % 2 = k by show k / 2 * 2 + k % 2 = k; omega, hu] at hm
      rw [List.getElem_map, List.getElem_range] at hm
      have h4 := (hf' (k / 2) (by omega)).2 (k % 2) u hm.symm
      rwa [add_plain, add_plain, show off + k / 2 * 2 + k % 2 = off + k by omega] at h4
    · intro s hs
      obtain ⟨k, hk, rfl⟩ := List.mem_map.1 hs
      exact (hf' k (by have := List.mem_range.1 hk; omega)).1
end
end Bl
end Go.Proofs.Ytljlhaillmeedaa

/-
  Ballots held against one another whole; the chapter's example.
-/
namespace Go.Proofs.Ytljlhaillmeedaa
set_option linter.unusedSimpArgs false
set_option linter.unusedVariables false
open Go.RowKit Rg
namespace Bl
set_option linter.unusedSimpArgs false
set_option linter.unusedVariables false
set_option maxRecDepth 100000 in
theorem bal_equalIn (a b : BalD) (w : World) : (Op.equalIn 10000 50 (ptVal a) (ptVal b)).run Try.prog w = .ok (sameB a b) w := by
  rw [run_equalIn_agg w 9999 50 _ _ (by kernel_rfl) (by kernel_rfl)]
  simp [Program.fieldsOf, Try.underlying50, Op.eqFields, part, go_sem]
  simp only [Int.ofNat_inj]
  unfold sameB
  repeat' split
  all_goals simp_all
theorem bal_eql (a b : BalD) (w : World) : (binOp .eql 50 (ptVal a) (ptVal b)).run Try.prog w = .ok (.bool (sameB a b)) w := by
  rw [run_eql_struct, bal_equalIn]
  rfl
theorem bal_neq (a b : BalD) (w : World) : (binOp .neq 50 (ptVal a) (ptVal b)).run Try.prog w = .ok (.bool (!sameB a b)) w := by
  rw [run_neq_struct, bal_equalIn]
  rfl
theorem same_self (a : BalD) : sameB a a = true := (sameB_iff a a).2 rfl
/-- Is m among the first k, or is there none at all? -/
def isF (l : List BalD) (m : BalD) (k : Nat) : Bool := decide (l.length = 0) || (l.take k).any (fun x => sameB x m)
theorem isF_succ {l : List BalD} {m : BalD} {k : Nat} (hk : k < l.length) : isF l m (k + 1) = (isF l m k || sameB l[k] m) := by
  unfold isF
  rw [List.take_succ_eq_append_getElem hk, List.any_append, Bool.or_assoc]
  simp
theorem isF_max (l : List BalD) : isF l (maxF l) l.length = true := by
  unfold isF
  rw [List.take_length, Bool.or_eq_true, decide_eq_true_eq, List.any_eq_true]
  by_cases h : l = []
  · left; rw [h]; rfl
  · right; exact ⟨_, max_in l h, same_self _⟩
end Bl
end Go.Proofs.Ytljlhaillmeedaa
