/-
  Ballots as pairs of numbers: their order, the greatest of some, the next one.
-/
import Derived.Test.YthjhofmjhmnddaaGreatMGAA
import Derived.Test.YthjhofmjhmnddaaGreatMGAQ
import Derived.Deep.RegionHeld3
import Derived.Deep.QuietTactic
import Derived.BigQuiet
import Derived.Lib.MinMax
import Derived.Deep.Slices
import Derived.Deep.DrawnRows
import Derived.OpenShut
import Derived.Laws.StructEq
import Derived.Lib.QuietBelow
set_option linter.unusedSimpArgs false
set_option linter.unusedVariables false
namespace Go.Proofs.YthjhofmjhmnddaaGreat
open Go.RowKit Rg
namespace Bl
abbrev BalD := PtD
def lessB (a b : BalD) : Bool := decide (a.pos < b.pos ∨ (a.pos = b.pos ∧ a.id < b.id))
def sameB (a b : BalD) : Bool := decide (a.pos = b.pos) && decide (a.id = b.id)
theorem sameB_iff (a b : BalD) : sameB a b = true ↔ a = b := by
 obtain ⟨x, y⟩ := a
 obtain ⟨u, v⟩ := b
 simp [sameB]
theorem less_cf (a b : BalD) : decide (cfPt a b < 0) = lessB a b := by
 have h := ltPt a b
 unfold ltOf at h
 rw [h]
 unfold lessB PtD.Le
 rw [decide_eq_decide]
 omega
theorem less_self (a : BalD) : lessB a a = false := decide_eq_false (by omega)
def upB (m b : BalD) : BalD := if lessB m b = true then b else m
def maxF (l : List BalD) : BalD := l.foldl upB ⟨0, 0⟩
theorem le_on {a b c : BalD} (h1 : lessB a b = false) (h2 : lessB b c = false) : lessB a c = false := by
 unfold lessB at *
 have := of_decide_eq_false h1
 have := of_decide_eq_false h2
 exact decide_eq_false (by omega)
def nextK (seen : BalD) (version node : Nat) : Int := if node = 0 then 1 else if seen.pos = 18446744073709551615 ∨ version = 18446744073709551615 then 12 else 0
def nextD (seen : BalD) (version node : Nat) : BalD := if node = 0 then ⟨0, 0⟩ else if seen.pos = 18446744073709551615 ∨ version = 18446744073709551615 then ⟨0, 0⟩ else ⟨max (seen.pos + 1) version, node⟩
end Bl
end Go.Proofs.YthjhofmjhmnddaaGreat
/-
 Less, Max, Next, of the program and of the document.
-/
namespace Go.Proofs.YthjhofmjhmnddaaGreat
open Go.RowKit Rg
namespace Bl
set_option maxHeartbeats 4000000 in
theorem comp_any (a b : BalD) (W : World) : Calls Tryz.prog 147 #[ptVal a, ptVal b] W (RetB W.heap.size W (.int .i64 (cfPt a b))) := by
 have Hk := hid_ (show cfPt a b = orI (cmpN a.pos b.pos) (cmpN a.id b.id) from rfl)
 have Hc := hid_ (fun (x y : Nat) (W' : World) => compare_any x y W')
 have Ho := hid_ (fun (g : Nat) (x y : Int) (W' : World) h0 h1 => or_any g x y W' h0 h1)
 unfold CmpPost at Hc Ho
 generalize cfPt a b = k at *
 go_enter Tryz.func147, Tryz.ntmps147
 go_wp2_with fail
 go_region_held3 (fun w' => w'.cell? ⟨W.heap.size, 0, none⟩ = some (.int .u64 (a.pos : Nat)) ∧ w'.cell? ⟨W.heap.size, 1, none⟩ = some (.int .u64 (a.id : Nat)) ∧ w'.cell? ⟨W.heap.size + 1, 0, none⟩ = some (.int .u64 (b.pos : Nat)) ∧ w'.cell? ⟨W.heap.size + 1, 1, none⟩ = some (.int .u64 (b.id : Nat))) (go_keep)
  (first | (go_at_call 152; (with_reducible refine Calls.mono (Hc.out _ _ _) ?_); rintro e w' ⟨rfl, rfl⟩) | (go_at_call 171; (with_reducible refine Calls.mono (Ho.out _ (cmpN a.pos b.pos) (cmpN a.id b.id) _ (new_at _ _ _ _ (by simp) 0 _ rfl) (new_at _ _ _ _ (by simp) 1 _ rfl)) ?_); rintro e w' ⟨rfl, rfl⟩) | fail)
 go_wp2_with fail
 go_ret
 exact retB_mk (by rw [Hk.out]; rfl) (by repeat (first | exact Below.refl _ _ | apply Below.drew | refine Below.alloc ?_ (by simp; try omega) _))
set_option maxHeartbeats 4000000 in
theorem less_any (a b : BalD) (W : World) : Calls Tryz.prog 126 #[ptVal a, ptVal b] W (RetB W.heap.size W (.bool (lessB a b))) := by
 have Hc := hid_ (fun (W' : World) => comp_any a b W')
 have HB := hid_ (((Below.refl W.heap.size W).alloc (Nat.le_refl _) (.cells #[.int .u64 (a.pos : Nat), .int .u64 (a.id : Nat)] 35)).alloc (by simp) (.cells #[.int .u64 (b.pos : Nat), .int .u64 (b.id : Nat)] 35))
 have HL := hid_ (less_cf a b)
 generalize cfPt a b = k at *
 go_enter Tryz.func126, Tryz.ntmps126
 go_wp2_with fail
 (with_reducible refine Calls.mono (Hc.out _) ?_)
 rintro e w1 ⟨rfl, hb⟩
 have HB1 := hid_ (HB.out.trans (hb.mono HB.out.size))
 clear hb
 go_wp2_with fail
 go_ret
 exact retB_mk (by rw [← HL.out]; rfl) HB1.out
set_option maxHeartbeats 4000000 in
theorem rless_any (a b : BalD) (W : World) : Calls Tryz.prog 26 #[ptVal a, ptVal b] W (RetB W.heap.size W (.bool (lessB a b))) := by
 obtain ⟨x, y⟩ := a
 obtain ⟨u, v⟩ := b
 have hlt : lessB ⟨x, y⟩ ⟨u, v⟩ = decide (x < u ∨ (x = u ∧ y < v)) := rfl
 have hw := (((Below.refl W.heap.size W).alloc (Nat.le_refl _) (.cells #[.int .u64 (x : Nat), .int .u64 (y : Nat)] 35)).alloc (by simp) (.cells #[.int .u64 (u : Nat), .int .u64 (v : Nat)] 35))
 have HW := hid_ hw
 clear hw
 rcases Nat.lt_trichotomy x u with h1 | h1 | h1
 ·have H := hid_ (show lessB ⟨x, y⟩ ⟨u, v⟩ = true by rw [hlt]; exact decide_eq_true (.inl h1))
  have e1 : decide (x < u) = true := decide_eq_true h1
  clear hlt h1
  go_enter Tryz.func26, Tryz.ntmps26
  go_wp2
  go_ret
  exact retB_mk (by rw [H.out]; rfl) HW.out
 ·subst h1
  have e1 : decide (x < x) = false := decide_eq_false (by omega)
  have e2 : (x == x) = true := by simp
  by_cases h2 : y < v
  ·have H := hid_ (show lessB ⟨x, y⟩ ⟨x, v⟩ = true by rw [hlt]; exact decide_eq_true (.inr ⟨rfl, h2⟩))
   have e3 : decide (y < v) = true := decide_eq_true h2
   clear hlt h2
   go_enter Tryz.func26, Tryz.ntmps26
   go_wp2
   go_ret
   exact retB_mk (by rw [H.out]; rfl) HW.out
  ·have H := hid_ (show lessB ⟨x, y⟩ ⟨x, v⟩ = false by rw [hlt]; exact decide_eq_false (by omega))
   have e3 : decide (y < v) = false := decide_eq_false h2
   clear hlt h2
   go_enter Tryz.func26, Tryz.ntmps26
   go_wp2
   go_ret
   exact retB_mk (by rw [H.out]; rfl) HW.out
 ·have H := hid_ (show lessB ⟨x, y⟩ ⟨u, v⟩ = false by rw [hlt]; exact decide_eq_false (by omega))
  have e1 : decide (x < u) = false := decide_eq_false (by omega)
  have e2 : (x == u) = false := by simp; omega
  have e3 : ((x : Int) == (u : Int)) = false := by simp; omega
  clear hlt h1
  go_enter Tryz.func26, Tryz.ntmps26
  go_wp2
  go_ret
  exact retB_mk (by rw [H.out]; rfl) HW.out
end Bl
end Go.Proofs.YthjhofmjhmnddaaGreat
/-
 The greatest of some, of the program and of the document.
-/
namespace Go.Proofs.YthjhofmjhmnddaaGreat
open Go.RowKit Rg
namespace Bl
abbrev balCells (m : BalD) : Array Value := #[.int .u64 (m.pos : Nat), .int .u64 (m.id : Nat)]
theorem below_set2 {B : Nat} {w W : World} {g : Nat} (h : Below B w W) (hg : B ≤ g) (a b : Value) : Below B w ((W.setCell ⟨g, 0, none⟩ a).setCell ⟨g, 1, none⟩ b) :=
 (h.setCell (p := ⟨g, 0, none⟩) hg a).setCell (p := ⟨g, 1, none⟩) hg b
abbrev TwoBal (w1 : World) (g1 o1 g2 : Nat) (z m : BalD) (W : World) : Prop :=
 Below w1.heap.size w1 W ∧ W.cell? ⟨g1, o1, none⟩ = some (.int .u64 (z.pos : Nat)) ∧ W.cell? ⟨g1, o1 + 1, none⟩ = some (.int .u64 (z.id : Nat)) ∧ W.cell? ⟨g2, 0, none⟩ = some (.int .u64 (m.pos : Nat)) ∧ W.cell? ⟨g2, 1, none⟩ = some (.int .u64 (m.id : Nat))
end Bl
end Go.Proofs.YthjhofmjhmnddaaGreat
/-
 The next ballot, of the program and of the document.
-/
namespace Go.Proofs.YthjhofmjhmnddaaGreat
open Go.RowKit Rg
namespace Bl
end Bl
end Go.Proofs.YthjhofmjhmnddaaGreat
/-
 Numbers, ballots and rows of them that a law is given.
-/
namespace Go.Proofs.YthjhofmjhmnddaaGreat
open Go.RowKit Rg
namespace Bl
structure NumRow (w : World) (A : Option Addr) (n c : Nat) (l : List Nat) : Prop where
 at_ : ∀ k (hk : k < l.length), ∃ b off, A = some ⟨b, off, none⟩ ∧ w.cell? ⟨b, off + k, none⟩ = some (.int .u64 (l[k] : Nat))
 len : l.length = n
 cap : n ≤ c
 max : c ≤ 9223372036854775807
theorem NumRow.below {w w' : World} {A : Option Addr} {n c : Nat} {l : List Nat} (h : NumRow w A n c l) (hb : Below w.heap.size w w') : NumRow w' A n c l :=
 ⟨fun k hk => by
  obtain ⟨b, off, e, hc⟩ := h.at_ k hk
  exact ⟨b, off, e, by rw [hb.cell (lt_of_cell hc)]; exact hc⟩, h.len, h.cap, h.max⟩
section
open Go.ChangeShapes Go.WideShapes
variable {H : Type} {enc : TypeId × Value → H} {w : World} {base : Nat} {spare : Nat → Bool} {held : Bool} {fuel : Nat}
def Wf (p : BalD) : Prop := p.pos < 18446744073709551616 ∧ p.id < 18446744073709551616
def BalV (_w : World) (v : Value) : Prop := ∃ m : BalD, Wf m ∧ v = ptVal m
def BalsV (w : World) (v : Value) : Prop := ∃ A n c ss, v = .slice A n c ∧ ptE.Row w A n c ss ∧ ∀ s ∈ ss, Wf s
end
end Bl
end Go.Proofs.YthjhofmjhmnddaaGreat
/-
 Ballots held against one another whole; the chapter's example.
-/
namespace Go.Proofs.YthjhofmjhmnddaaGreat
open Go.RowKit Rg
namespace Bl
set_option maxRecDepth 100000 in
theorem bal_equalIn (a b : BalD) (w : World) : (Op.equalIn 10000 35 (ptVal a) (ptVal b)).run Tryz.prog w = .ok (sameB a b) w := by
 rw [run_equalIn_agg w 9999 35 _ _ (by kernel_rfl) (by kernel_rfl)]
 simp [Program.fieldsOf, Tryz.underlying35, Op.eqFields, part, go_sem]
 simp only [Int.ofNat_inj]
 unfold sameB
 repeat' split
 all_goals simp_all
theorem bal_eql (a b : BalD) (w : World) : (binOp .eql 35 (ptVal a) (ptVal b)).run Tryz.prog w = .ok (.bool (sameB a b)) w := by
 rw [run_eql_struct, bal_equalIn]
 rfl
def isF (l : List BalD) (m : BalD) (k : Nat) : Bool := decide (l.length = 0) || (l.take k).any (fun x => sameB x m)
end Bl
end Go.Proofs.YthjhofmjhmnddaaGreat
