/-
  What of a node's view never falls; its own member is alive.
-/
import Derived.Test.YtcmoelphjdehaaaZGV1
import Derived.Test.YtcmoelphjdehaaaZGosAlive
import Derived.Deep.DeepCutAuto
import Derived.Deep.CutBlock
import Derived.Deep.RegionHeld3
import Derived.Lib.QuietBelow
namespace Go.Proofs.Ytcmoelphjdehaaa
set_option linter.unusedSimpArgs false
set_option linter.unusedVariables false
open Go.RowKit Ru Vw
namespace Gs
set_option linter.unusedSimpArgs false
set_option linter.unusedVariables false
/-- Each of a is in r, or one that is not older. -/
def IsUnder (a r : List MemberD) : Prop := ∀ m ∈ a, ∃ m', getF r m.id = some m' ∧ newerB m m' = false
theorem under_refl {a : List MemberD} (h : Rising a) : IsUnder a a := fun m hm => ⟨m, getF_mem h hm, by unfold newerB; exact decide_eq_false (by omega)⟩
theorem newer_up {m x y : MemberD} (h : newerB m x = false) (h2 : x.inc < y.inc ∨ (x.inc = y.inc ∧ x.state ≤ y.state)) : newerB m y = false := by
  unfold newerB at *
  have := of_decide_eq_false h
  exact decide_eq_false (by omega)
theorem objF_up (self : Nat) (left : Bool) (m : MemberD) : m.inc < (objF self left m).inc ∨ (m.inc = (objF self left m).inc ∧ m.state ≤ (objF self left m).state) := by
  unfold objF
  split
  · exact .inl (by simp only; omega)
  · exact .inr ⟨rfl, Int.le_refl _⟩
theorem goneF_up {self : Nat} {m : MemberD} (h : okMem m = true) : m.inc < (goneF self m).inc ∨ (m.inc = (goneF self m).inc ∧ m.state ≤ (goneF self m).state) := by
  rw [ok_iff] at h
  unfold goneF
  split
  · exact .inr ⟨rfl, h.2.2⟩
  · exact .inr ⟨rfl, Int.le_refl _⟩
theorem judF_up {self time wait : Nat} {hd : Nat → Option Nat} {m : MemberD} (h : okMem m = true) : m.inc < (judF self time wait hd m).inc ∨ (m.inc = (judF self time wait hd m).inc ∧ m.state ≤ (judF self time wait hd m).state) := by
  rw [ok_iff] at h
  unfold judF
  split
  · exact .inr ⟨rfl, Int.le_refl _⟩
  · exact .inr ⟨rfl, (nextF_in h.2).2.2⟩
theorem under_map {a : List MemberD} (h : Rising a) {f : MemberD → MemberD} (hf : ∀ m, (f m).id = m.id) (hu : ∀ m ∈ a, m.inc < (f m).inc ∨ (m.inc = (f m).inc ∧ m.state ≤ (f m).state)) : IsUnder a (a.map f) := fun m hm =>
  ⟨f m, by rw [getF_map hf, getF_mem h hm]; rfl, newer_up (by unfold newerB; exact decide_eq_false (by omega)) (hu m hm)⟩
theorem under_hear {d : NodeD} (h : NOk d) (frm now : Nat) (l : List MemberD) : IsUnder d.ms (hearD d frm l now).ms := by
  unfold hearD
  split
  · rename_i hk
    obtain ⟨h1, h2⟩ := hearK_zero hk
    intro m hm
    obtain ⟨m', e, hn, _⟩ := merge_below (right_rising h.right) (mg_isMerge h.right h1) hm
    refine ⟨objF d.self d.left m', ?_, newer_up hn (objF_up _ _ _)⟩
    show getF ((mgF d.ms l).map (objF d.self d.left)) m.id = _
    rw [getF_map (objF_id _ _), e]
    rfl
  · exact under_refl (right_rising h.right)
theorem under_tick {d : NodeD} (h : NOk d) (now : Nat) : IsUnder d.ms (tickD d now).ms := by
  unfold tickD
  split
  · exact under_refl (right_rising h.right)
  · exact under_map (right_rising h.right) (judF_id _ _ _ _) (fun m hm => judF_up (right_ok h.right m hm))
theorem under_leave {d : NodeD} (h : NOk d) : IsUnder d.ms (leaveD d).ms := under_map (right_rising h.right) (goneF_id _) (fun m hm => goneF_up (right_ok h.right m hm))
/-- What holds of a node while nobody told of it what is beyond all measure. -/
def RInv (self : Nat) (left : Bool) (d : NodeD) : Prop := d.self = self ∧ d.left = left ∧ ∃ m, getF d.ms self = some m ∧ (left = false → m.state = 0 ∧ m.inc ≤ 1099511627777)
theorem rinv_new (self inc period wait now : Nat) (h : inc ≤ 1099511627776) : RInv self false (newD self inc period wait now) := by
  refine ⟨rfl, rfl, ⟨self, inc, 0⟩, ?_, fun _ => ⟨rfl, by simp only; omega⟩⟩
  show getF [(⟨self, inc, 0⟩ : MemberD)] self = _
  rw [getF_cons, if_pos rfl]
theorem rinv_hear {self : Nat} {left : Bool} {d : NodeD} (h : NOk d) (hr : RInv self left d) (frm now : Nat) {l : List MemberD} (hl : ∀ m ∈ l, m.id = self → m.inc ≤ 1099511627776) : RInv self left (hearD d frm l now) := by
  unfold hearD
  split
  · rename_i hk
    obtain ⟨h1, h2⟩ := hearK_zero hk
    obtain ⟨rfl, rfl, m, hm, hs⟩ := hr
    have hg := (mg_isMerge h.right h1).2 d.self
    rw [hm] at hg
    obtain ⟨x, hx, hxc⟩ : ∃ x, getF (mgF d.ms l) d.self = some x ∧ (x = m ∨ (x ∈ l ∧ newerB x m = true)) := by
      rcases hb : getF l d.self with _ | y
      · rw [hb] at hg
        exact ⟨m, hg, .inl rfl⟩
      · rw [hb] at hg
        by_cases hn : newerB y m = true
        · exact ⟨y, by rw [hg]; show some (joinM m y) = _; unfold joinM; rw [if_pos hn], .inr ⟨(getF_some hb).1, hn⟩⟩
        · exact ⟨m, by rw [hg]; show some (joinM m y) = _; unfold joinM; rw [if_neg hn], .inl rfl⟩
    have hxid := (getF_some hx).2
    refine ⟨rfl, rfl, objF d.self d.left x, ?_, fun hleft => ?_⟩
    · show getF ((mgF d.ms l).map (objF d.self d.left)) d.self = _
      rw [getF_map (objF_id _ _), hx]
      rfl
    · have hs := hs hleft
      have hok := right_ok (mg_right h.right h1 h2) x (getF_some hx).1
      rw [ok_iff] at hok
      have hinc : x.inc ≤ 1099511627777 ∧ (x.state ≠ 0 → x.inc ≤ 1099511627776) := by
        rcases hxc with rfl | ⟨hxl, hn⟩
        · exact ⟨hs.2, fun h3 => absurd hs.1 h3⟩
        · have := hl x hxl hxid
          exact ⟨by omega, fun _ => this⟩
      unfold objF objects
      rw [decide_eq_true hxid, hleft]
      by_cases h0 : x.state = 0
      · rw [h0]
        simp only [ne_eq, not_true_eq_false, decide_false, Bool.false_and, Bool.and_false, Bool.false_eq_true, if_false]
        exact ⟨h0, hinc.1⟩
      · have := hinc.2 h0
        rw [decide_eq_true h0, decide_eq_true (show x.inc ≠ 18446744073709551615 by omega)]
        simp only [Bool.not_false, Bool.and_self, if_true]
        exact ⟨trivial, by omega⟩
  · exact hr
theorem rinv_tick {self : Nat} {left : Bool} {d : NodeD} (hr : RInv self left d) (now : Nat) : RInv self left (tickD d now) := by
  unfold tickD
  split
  · exact hr
  · obtain ⟨rfl, rfl, m, hm, hs⟩ := hr
    refine ⟨rfl, rfl, m, ?_, hs⟩
    show getF (d.ms.map (judF d.self (max d.time now) d.wait d.heard)) d.self = _
    rw [getF_map (judF_id _ _ _ _), hm]
    exact congrArg some (judF_self (getF_some hm).2)
theorem rinv_leave {self : Nat} {left : Bool} {d : NodeD} (hr : RInv self left d) : RInv self true (leaveD d) := by
  obtain ⟨rfl, rfl, m, hm, hs⟩ := hr
  refine ⟨rfl, rfl, goneF d.self m, ?_, fun h => by cases h⟩
  show getF (d.ms.map (goneF d.self)) d.self = _
  rw [getF_map (goneF_id _), hm]
  rfl
theorem memRow_lt {w : World} {A : Option Addr} {n c : Nat} {l : List MemberD} (h : MemRow w A n c l) (hne : l ≠ []) : ∀ a, A = some a → a.block < w.heap.size := by
  intro a e
  obtain ⟨b, off, e2, hc⟩ := h.cells (Enc.all_ne memE hne)
  rw [e] at e2
  cases e2
  obtain ⟨x, t, hx⟩ := List.exists_cons_of_ne_nil (Enc.all_ne memE hne)
  exact lt_of_cell (hc 0 x (by show (memE.all l)[0]? = _; rw [hx]; rfl))
theorem apart_step {w : World} {A : Option Addr} {Q Q' : Nat → Prop} (h : ∀ a, A = some a → ¬ Q a.block) (hlt : ∀ a, A = some a → a.block < w.heap.size) (hq : ∀ q, Q' q → Q q ∨ w.heap.size ≤ q) : ∀ a, A = some a → ¬ Q' a.block := fun a e h1 => by
  rcases hq _ h1 with h2 | h2
  · exact h a e h2
  · have := hlt a e; omega
/-- Two members stand. -/
abbrev MemTwoG (w1 : World) (g1 o1 g2 : Nat) (s t : MemberD) (W : World) : Prop :=
  Below w1.heap.size w1 W ∧ W.cell? ⟨g1, o1, none⟩ = some (.int .u64 (s.id : Nat)) ∧ W.cell? ⟨g1, o1 + 1, none⟩ = some (.int .u64 (s.inc : Nat)) ∧ W.cell? ⟨g1, o1 + 2, none⟩ = some (.int .i64 s.state) ∧
    W.cell? ⟨g2, 0, none⟩ = some (.int .u64 (t.id : Nat)) ∧ W.cell? ⟨g2, 1, none⟩ = some (.int .u64 (t.inc : Nat)) ∧ W.cell? ⟨g2, 2, none⟩ = some (.int .i64 t.state)
theorem memTwoG_keep {w1 W W' : World} {g1 o1 g2 : Nat} {s t : MemberD} (h : MemTwoG w1 g1 o1 g2 s t W) (hb : Below W.heap.size W W') : MemTwoG w1 g1 o1 g2 s t W' := by
  obtain ⟨h0, a, b, c, d, e, f⟩ := h
  exact ⟨h0.trans (hb.mono h0.size), by rw [hb.cell (lt_of_cell a)]; exact a, by rw [hb.cell (lt_of_cell b)]; exact b, by rw [hb.cell (lt_of_cell c)]; exact c, by rw [hb.cell (lt_of_cell d)]; exact d, by rw [hb.cell (lt_of_cell e)]; exact e, by rw [hb.cell (lt_of_cell f)]; exact f⟩
/-- One member stands. -/
abbrev MemOneG (w1 : World) (g : Nat) (x y : Nat) (s : Int) (W : World) : Prop :=
  Below w1.heap.size w1 W ∧ W.cell? ⟨g, 0, none⟩ = some (.int .u64 (x : Nat)) ∧ W.cell? ⟨g, 1, none⟩ = some (.int .u64 (y : Nat)) ∧ W.cell? ⟨g, 2, none⟩ = some (.int .i64 s)
theorem memOneG_keep {w1 W W' : World} {g : Nat} {x y : Nat} {s : Int} (h : MemOneG w1 g x y s W) (hb : Below W.heap.size W W') : MemOneG w1 g x y s W' := by
  obtain ⟨h0, a, b, c⟩ := h
  exact ⟨h0.trans (hb.mono h0.size), by rw [hb.cell (lt_of_cell a)]; exact a, by rw [hb.cell (lt_of_cell b)]; exact b, by rw [hb.cell (lt_of_cell c)]; exact c⟩
theorem mem_neqG (m : MemberD) (w : World) : (binOp .neq 82 (memVal m) (memVal m)).run Try.prog w = .ok (.bool false) w := by
  rw [mem_neq]
  have : sameM m m = true := by unfold sameM; simp
  rw [this]
  rfl
end Gs
end Go.Proofs.Ytcmoelphjdehaaa

/-
  Two nodes in a law's hands; a node that has left.
-/
namespace Go.Proofs.Ytcmoelphjdehaaa
set_option linter.unusedSimpArgs false
set_option linter.unusedVariables false
open Go.RowKit Ru Vw
namespace Gs
set_option linter.unusedSimpArgs false
set_option linter.unusedVariables false
theorem two_nodes {B : Nat} {w0 w w' : World} {g1 g2 : Nat} {Q1 Q2 : Nat → Prop} {d1 d2 d1' : NodeD} {R : World → Value → Prop} {e : Ending} (h1 : NdB B w0 w g1 Q1 d1) (h2 : NdB B w0 w g2 Q2 d2) (h3 : ∀ q, Q1 q → ¬ Q2 q) (k : NdPost w g1 Q1 R d1' e w') :
    ∃ v, e = .returned v ∧ R w' v ∧ ∃ Q1', NdB B w0 w' g1 Q1' d1' ∧ NdB B w0 w' g2 Q2 d2 ∧ (∀ q, Q1' q → ¬ Q2 q) ∧ Tn Q1 w w' ∧ ∀ q, Q1' q → Q1 q ∨ w.heap.size ≤ q := by
  obtain ⟨v, he, hr, Q1', h4, ht, h5⟩ := h1.post k
  refine ⟨v, he, hr, Q1', h4, ⟨h2.nd.tn ht (fun q hq2 hq1 => h3 q hq1 hq2), h4.below, h2.own, h2.base⟩, fun q hq hq2 => ?_, ht, h5⟩
  rcases h5 q hq with h6 | h6
  · exact h3 q h6 hq2
  · have := h2.nd.qlt q hq2; omega
def LInv (inc : Nat) (d : NodeD) : Prop := d.self = 1 ∧ d.left = true ∧ getF d.ms 1 = some ⟨1, inc, 2⟩
theorem linv_new (inc period wait now : Nat) : LInv inc (leaveD (newD 1 inc period wait now)) := by
  refine ⟨rfl, rfl, ?_⟩
  show getF ([(⟨1, inc, 0⟩ : MemberD)].map (goneF 1)) 1 = _
  rw [List.map_cons, List.map_nil, getF_cons]
  rfl
theorem linv_hear {inc : Nat} {d : NodeD} (h : NOk d) (hr : LInv inc d) (frm now : Nat) {l : List MemberD} (hl : ∀ m ∈ l, m.id ≠ 1) : LInv inc (hearD d frm l now) := by
  unfold hearD
  split
  · rename_i hk
    obtain ⟨h1, h2⟩ := hearK_zero hk
    obtain ⟨hs, hlf, hm⟩ := hr
    refine ⟨hs, hlf, ?_⟩
    show getF ((mgF d.ms l).map (objF d.self d.left)) 1 = _
    rw [getF_map (objF_id _ _), (mg_isMerge h.right h1).2, hm, getF_none.2 hl, joinO_none]
    show some (objF d.self d.left ⟨1, inc, 2⟩) = _
    rw [hlf, objF_same (objects_left _ _)]
  · exact hr
theorem linv_tick {inc : Nat} {d : NodeD} (hr : LInv inc d) (now : Nat) : LInv inc (tickD d now) := by
  unfold tickD
  split
  · exact hr
  · obtain ⟨hs, hlf, hm⟩ := hr
    refine ⟨hs, hlf, ?_⟩
    show getF (d.ms.map (judF d.self (max d.time now) d.wait d.heard)) 1 = _
    rw [getF_map (judF_id _ _ _ _), hm]
    exact congrArg some (judF_self hs.symm)
/-- What the other one is told. -/
theorem told_k {d : NodeD} (h : NOk d) : hearK (newD 2 1 5 10 0) d.ms = 0 ∨ hearK (newD 2 1 5 10 0) d.ms = 4 := by
  unfold hearK
  rw [if_pos h.right]
  split
  · exact .inr rfl
  · exact .inl rfl
theorem told_yes {inc : Nat} {d : NodeD} (h : NOk d) (hr : LInv inc d) (hk : hearK (newD 2 1 5 10 0) d.ms = 0) : getF (hearD (newD 2 1 5 10 0) 1 d.ms 1).ms 1 = some ⟨1, inc, 2⟩ := by
  unfold hearD
  rw [if_pos hk]
  show getF ((mgF [(⟨2, 1, 0⟩ : MemberD)] d.ms).map (objF 2 false)) 1 = _
  have h1 : rightV [(⟨2, 1, 0⟩ : MemberD)] = true := by decide
  rw [getF_map (objF_id _ _), (mg_isMerge h1 h.right).2, hr.2.2]
  have h2 : getF [(⟨2, 1, 0⟩ : MemberD)] 1 = none := by rw [getF_cons]; rfl
  rw [h2]
  show some (objF 2 false ⟨1, inc, 2⟩) = _
  rw [objF_other (show (1 : Nat) ≠ 2 by decide)]
theorem told_no {d : NodeD} (hk : hearK (newD 2 1 5 10 0) d.ms = 4) : (hearD (newD 2 1 5 10 0) 1 d.ms 1).ms = [⟨2, 1, 0⟩] := by
  unfold hearD
  rw [if_neg (by omega)]
  rfl
end Gs
end Go.Proofs.Ytcmoelphjdehaaa

/-
  A node that hears of one member again and again, and of another never.
-/
namespace Go.Proofs.Ytcmoelphjdehaaa
set_option linter.unusedSimpArgs false
set_option linter.unusedVariables false
open Go.RowKit Ru Vw
namespace Gs
set_option linter.unusedSimpArgs false
set_option linter.unusedVariables false
def threeM (s : Int) : List MemberD := [⟨1, 1, 0⟩, ⟨2, 1, 0⟩, ⟨3, 1, s⟩]
/-- The node: its time, when it is due, the third member's state, when the second was heard. -/
def HSt (per wai now due : Nat) (s : Int) (h2 : Nat) (d : NodeD) : Prop :=
  d.self = 1 ∧ d.left = false ∧ d.period = per ∧ d.wait = wai ∧ d.time = now ∧ d.due = due ∧ d.ms = threeM s ∧ d.heard 2 = some h2 ∧ d.heard 3 = some 0
theorem hst_start (per wai : Nat) : hearK (newD 1 1 per wai 0) [⟨2, 1, 0⟩, ⟨3, 1, 0⟩] = 0 ∧ HSt per wai 0 0 0 0 (hearD (newD 1 1 per wai 0) 2 [⟨2, 1, 0⟩, ⟨3, 1, 0⟩] 0) := by
  have h1 : rightV [(⟨2, 1, 0⟩ : MemberD), ⟨3, 1, 0⟩] = true := by decide
  have h2 : mgF (newD 1 1 per wai 0).ms [⟨2, 1, 0⟩, ⟨3, 1, 0⟩] = threeM 0 := by simp [mgF, newD, putM, threeM]
  have hk : hearK (newD 1 1 per wai 0) [⟨2, 1, 0⟩, ⟨3, 1, 0⟩] = 0 := by
    unfold hearK
    rw [if_pos h1, h2]
    rfl
  refine ⟨hk, ?_⟩
  unfold hearD
  rw [if_pos hk]
  unfold heardD
  rw [h2]
  refine ⟨rfl, rfl, rfl, rfl, rfl, rfl, ?_, ?_, ?_⟩
  · simp [threeM, objF, objects, newD]
  · simp [noteF, threeM, newD]
  · simp [noteF, threeM, newD]
theorem hst_hear {per wai now due h2 : Nat} {s : Int} {d : NodeD} (h : HSt per wai now due s h2 d) (hs : 0 ≤ s ∧ s ≤ 2) {t : Nat} (ht : now ≤ t) : HSt per wai t due s t (hearD d 2 [⟨2, 1, 0⟩] t) := by
  obtain ⟨a1, a2, a3, a4, a5, a6, a7, a8, a9⟩ := h
  have h1 : rightV [(⟨2, 1, 0⟩ : MemberD)] = true := by decide
  have hm : mgF d.ms [⟨2, 1, 0⟩] = threeM s := by
    rw [a7]
    simp [mgF, threeM, putM, joinM, newerB]
  have hk : hearK d [⟨2, 1, 0⟩] = 0 := by
    unfold hearK
    rw [if_pos h1, hm]
    rfl
  unfold hearD
  rw [if_pos hk]
  unfold heardD
  rw [hm, a1, a2]
  refine ⟨rfl, rfl, a3, a4, by show max d.time t = t; omega, a6, ?_, ?_, ?_⟩
  · simp [threeM, objF, objects]
  · show noteF 1 2 (max d.time t) (threeM s) d.heard 2 = some t
    simp [noteF, threeM]
    omega
  · show noteF 1 2 (max d.time t) (threeM s) d.heard 3 = some 0
    simp [noteF, threeM, a9]
theorem hst_ticked {per wai now due h2 : Nat} {s : Int} {d : NodeD} (h : HSt per wai now due s h2 d) {t : Nat} (ht : now ≤ t) (hd : due ≤ t) (h2t : h2 ≤ t) (hw : t - h2 < wai) (hb : t + per < 18446744073709551615) :
    HSt per wai t (t + per) (nextF s t wai) h2 (tickD d t) ∧ ∀ p, tickR d t p = whomF 1 (threeM (nextF s t wai)) p := by
  obtain ⟨a1, a2, a3, a4, a5, a6, a7, a8, a9⟩ := h
  have hmax : max d.time t = t := by omega
  have hms : (tickedD d t).ms = threeM (nextF s t wai) := by
    show d.ms.map (judF d.self (max d.time t) d.wait d.heard) = _
    rw [a7, hmax, a1, a4]
    have e2 : nextF 0 (t - h2) wai = 0 := by unfold nextF; rw [if_neg (by decide), if_pos rfl, if_neg (by omega)]
    simp [threeM, judF, silentF, a8, a9, e2]
  have hno : ¬ max d.time t < d.due := by omega
  constructor
  · unfold tickD
    rw [if_neg hno]
    refine ⟨a1, a2, a3, a4, hmax, ?_, hms, a8, a9⟩
    show max d.time t + min d.period (18446744073709551615 - max d.time t) = _
    rw [hmax, a3]
    omega
  · intro p
    unfold tickR
    rw [if_neg hno, hms, a1]
theorem hst_tick {per wai now due h2 : Nat} {s : Int} {d : NodeD} (h : HSt per wai now due s h2 d) (hs : 0 ≤ s ∧ s ≤ 2) {t : Nat} (ht : now ≤ t) (h2t : h2 ≤ t) (hw : t - h2 < wai) (hb : t + per < 18446744073709551615) (hdn : due ≤ now + per) :
    ∃ due' s', HSt per wai t due' s' h2 (tickD d t) ∧ (0 ≤ s' ∧ s' ≤ 2) ∧ due' ≤ t + per := by
  by_cases hd : due ≤ t
  · obtain ⟨h1, _⟩ := hst_ticked h ht hd h2t hw hb
    have := nextF_in (a := t) (b := wai) hs
    exact ⟨_, _, h1, ⟨this.1, this.2.1⟩, Nat.le_refl _⟩
  · obtain ⟨a1, a2, a3, a4, a5, a6, a7, a8, a9⟩ := h
    refine ⟨due, s, ?_, hs, by omega⟩
    unfold tickD
    rw [if_pos (by omega)]
    exact ⟨a1, a2, a3, a4, by show max d.time t = t; omega, a6, a7, a8, a9⟩
theorem whom_three (s : Int) (p : Nat) : whomF 1 (threeM s) p = [2, 3] := by
  by_cases h : s = 2
  · subst h
    simp [whomF, goneIds, idsF, threeM, Nat.mod_one]
  · simp [whomF, goneIds, idsF, threeM, h]
theorem get_two (s : Int) : getF (threeM s) 2 = some ⟨2, 1, 0⟩ := rfl
theorem get_three (s : Int) : getF (threeM s) 3 = some ⟨3, 1, s⟩ := rfl
theorem last_state {s : Int} {late per wai : Nat} (hs : 0 ≤ s ∧ s ≤ 2) (h : 3 * wai ≤ late) (hw : 1 ≤ wai) : nextF (nextF s late wai) (late + per) wai = 2 := by
  have n0 : nextF 0 late wai = 1 := by unfold nextF; rw [if_neg (by decide), if_pos rfl, if_pos (by omega)]
  have n1 : ∀ x, 2 * wai ≤ x → nextF 1 x wai = 2 := fun x hx => by unfold nextF; rw [if_pos rfl, if_pos hx]
  have n2 : ∀ x, nextF 2 x wai = 2 := fun x => by unfold nextF; rw [if_neg (by decide), if_neg (by decide)]
  rcases (show s = 0 ∨ s = 1 ∨ s = 2 by omega) with rfl | rfl | rfl
  · rw [n0, n1 _ (by omega)]
  · rw [n1 _ (by omega), n2]
  · rw [n2, n2]
theorem wf_small (x y : Nat) (s : Int) (h1 : x < 1000) (h2 : y < 1000) (h3 : s = 0) : MemberD.Wf ⟨x, y, s⟩ := ⟨by simp only; omega, by simp only; omega, by simp only; omega, by simp only; omega⟩
end Gs
end Go.Proofs.Ytcmoelphjdehaaa

/-
  Numbers that a law is given; the calls on a node that is told of the second member.
-/
namespace Go.Proofs.Ytcmoelphjdehaaa
set_option linter.unusedSimpArgs false
set_option linter.unusedVariables false
open Go.RowKit Ru Vw
namespace Gs
set_option linter.unusedSimpArgs false
set_option linter.unusedVariables false
theorem u64_of {n : Int} (h : (Lit.int .u64 n).wf = true) : ∃ c : Nat, n = (c : Int) ∧ c < 18446744073709551616 := by
  have h1 : 0 ≤ n ∧ n ≤ 18446744073709551615 := by simpa [Lit.wf, IntKind.min, IntKind.max, IntKind.bits, IntKind.signed] using h
  exact ⟨n.toNat, by omega, by omega⟩
theorem u64s_of : ∀ zs : List Int, (∀ n ∈ zs, (Lit.int .u64 n).wf = true) → ∃ l : List Nat, l.map (fun c : Nat => (c : Int)) = zs ∧ ∀ i ∈ l, i < 18446744073709551616
  | [], _ => ⟨[], rfl, by simp⟩
  | z :: zs, h => by
    obtain ⟨c, hc, hlt⟩ := u64_of (h z (by simp))
    obtain ⟨l, hl, hb⟩ := u64s_of zs (fun n hn => h n (by simp [hn]))
    refine ⟨c :: l, by simp [hc, hl], fun i hi => ?_⟩
    rcases List.mem_cons.1 hi with rfl | hi
    · exact hlt
    · exact hb i hi
theorem num_all (ids : List Nat) {k : Nat} {u : Value} (h : (Rg.numE.all ids)[k]? = some u) : ∃ hk : k < ids.length, u = .int .u64 (ids[k] : Nat) := by
  have hk : k < ids.length := by
    have := (List.getElem?_eq_some_iff.1 h).1
    rw [Rg.numE.all_length] at this
    simpa [Rg.numE] using this
  refine ⟨hk, ?_⟩
  have h1 := Rg.numE.all_get ids hk 0 (by decide)
  have h2 : (Rg.numE.cf ids[k])[0]? = some (.int .u64 (ids[k] : Nat)) := rfl
  rw [h2] at h1
  have e : k * Rg.numE.K + 0 = k := by show k * 1 + 0 = k; omega
  rw [e, h] at h1
  exact Option.some.inj h1
theorem nums_of {w : World} {a : Option Addr} {len cap : Nat} {zs : List Int}
    (h : (a = none ∧ len = 0 ∧ cap = 0 ∧ zs = []) ∨
      ∃ x, a = some x ∧ len ≤ cap ∧ cap ≤ maxLen ∧ zs.length = cap ∧ (∀ i, i < zs.length → w.cell? (x.add i) = some (.int .u64 (zs.getD i 0))) ∧ ∀ n ∈ zs, (Lit.int .u64 n).wf = true) :
    ∃ ids : List Nat, Rg.numE.Row w a len cap ids ∧ (∀ i ∈ ids, i < 18446744073709551616) ∧ (cap = 0 ∨ ∃ b off, a = some ⟨b, off, none⟩) := by
  rcases h with ⟨rfl, rfl, rfl, rfl⟩ | ⟨x, rfl, hl, hm, hz, hcell, hwz⟩
  · exact ⟨[], Enc.Row.none w, by simp, .inl rfl⟩
  · obtain ⟨l, rfl, hb⟩ := u64s_of zs hwz
    have hlen : l.length = cap := by simpa using hz
    unfold maxLen at hm
    rcases Nat.eq_zero_or_pos cap with h0 | hpos
    · subst h0
      have : l = [] := List.eq_nil_of_length_eq_zero hlen
      subst this
      obtain rfl : len = 0 := by omega
      exact ⟨[], ⟨Holds.nil _ _, rfl, Nat.le_refl _, by omega, fun e => by cases e⟩, by simp, .inl rfl⟩
    · obtain ⟨b, off, spot⟩ := x
      have h0 := hcell 0 (by simpa [hlen] using hpos)
      have hs : spot = none := by simpa [Addr.add] using World.cell?_spot h0
      subst hs
      refine ⟨l.take len, ⟨fun _ => ⟨b, off, rfl, fun k u hu => ?_⟩, by rw [List.length_take]; omega, hl, by omega, fun e => by cases e⟩, fun i hi => hb i (List.mem_of_mem_take hi), .inr ⟨b, off, rfl⟩⟩
      obtain ⟨hk, rfl⟩ := num_all _ hu
      have hkl : k < l.length := by rw [List.length_take] at hk; omega
      have h1 := hcell k (by simpa using hkl)
      rw [add_plain] at h1
      rw [h1]
      simp [hkl]
/-- The place of ids[m:]. -/
theorem two_wf : ∀ m ∈ ([⟨2, 1, 0⟩] : List MemberD), m.Wf := by
  intro m hm
  rw [List.mem_singleton] at hm
  subst hm
  exact wf_small 2 1 0 (by omega) (by omega) rfl
theorem hear_two {B : Nat} {w0 W : World} {g : Nat} {Q : Nat → Prop} {d : NodeD} {per wai now due h2 : Nat} {s : Int} (h : NdB B w0 W g Q d) (hs : HSt per wai now due s h2 d) (hr : 0 ≤ s ∧ s ≤ 2) (t : Nat) (ht : now ≤ t) (htb : t < 18446744073709551616) :
    Calls Try.prog 43 #[.pointer (some ⟨g, 0, none⟩), .int .u64 2, .slice (some ⟨W.heap.size, 0, none⟩) 1 1, .int .u64 (t : Nat)] (W.alloc (.cells #[.int .u64 2, .int .u64 1, .int .i64 0] 82))
      (fun e w' => ∃ k Q' d', e = .returned (.int .i64 k) ∧ NdB B w0 w' g Q' d' ∧ HSt per wai t due s t d') := by
  have h1 := h.later ((Below.refl _ _).alloc (Nat.le_refl _) (.cells #[.int .u64 2, .int .u64 1, .int .i64 0] 82))
  have hrow : MemRow (W.alloc (.cells #[.int .u64 2, .int .u64 1, .int .i64 0] 82)) (some ⟨W.heap.size, 0, none⟩) 1 1 [⟨2, 1, 0⟩] :=
    memRow_of_enc (Enc.own_litK (E := memE) (e := 82) W [⟨2, 1, 0⟩] _ rfl 1 rfl (by decide) 0 (Nat.zero_le _)).row
  refine Calls.mono (hear_any g Q d 2 t _ 1 1 [⟨2, 1, 0⟩] _ h1.nd hrow two_wf (fun a e _ hq => by cases e; exact h.row_new _ (Nat.le_refl _) hq) htb) ?_
  intro e w' hx
  obtain ⟨v, rfl, hv, Q', hN, -, -⟩ := h1.post hx
  obtain rfl : v = .int .i64 (hearK d [⟨2, 1, 0⟩]) := hv
  exact ⟨_, Q', _, rfl, hN, hst_hear hs hr ht⟩
theorem tick_two {B : Nat} {w0 W : World} {g : Nat} {Q : Nat → Prop} {d : NodeD} {per wai now due h2 : Nat} {s : Int} (h : NdB B w0 W g Q d) (hs : HSt per wai now due s h2 d) (hr : 0 ≤ s ∧ s ≤ 2) (t : Nat) (ht : now ≤ t) (h2t : h2 ≤ t) (hw : t - h2 < wai) (hb : t + per < 18446744073709551615) (hdn : due ≤ now + per) :
    Calls Try.prog 44 #[.pointer (some ⟨g, 0, none⟩), .int .u64 (t : Nat), .int .u64 0] W
      (fun e w' => ∃ A m c due' s' Q' d', e = .returned (.slice A m c) ∧ NdB B w0 w' g Q' d' ∧ HSt per wai t due' s' h2 d' ∧ (0 ≤ s' ∧ s' ≤ 2) ∧ due' ≤ t + per) := by
  refine Calls.mono (tick_any g Q d t 0 W h.nd (by omega)) ?_
  intro e w' hx
  obtain ⟨v, rfl, ⟨A, m, c, rfl, -⟩, Q', hN, -, -⟩ := h.post hx
  obtain ⟨due', s', h1, h2, h3⟩ := hst_tick hs hr ht h2t hw hb hdn
  exact ⟨A, m, c, due', s', Q', _, rfl, hN, h1, h2, h3⟩
theorem tick_late {B : Nat} {w0 W : World} {g : Nat} {Q : Nat → Prop} {d : NodeD} {per wai now due h2 : Nat} {s : Int} (h : NdB B w0 W g Q d) (hs : HSt per wai now due s h2 d) (t : Nat) (ht : now ≤ t) (hd : due ≤ t) (h2t : h2 ≤ t) (hw : t - h2 < wai) (hb : t + per < 18446744073709551615) :
    Calls Try.prog 44 #[.pointer (some ⟨g, 0, none⟩), .int .u64 (t : Nat), .int .u64 0] W
      (fun e w' => ∃ A c Q' d', e = .returned (.slice A 2 c) ∧ Rg.numE.Row w' A 2 c [2, 3] ∧ NdB B w0 w' g Q' d' ∧ HSt per wai t (t + per) (nextF s t wai) h2 d') := by
  refine Calls.mono (tick_any g Q d t 0 W h.nd (by omega)) ?_
  intro e w' hx
  obtain ⟨v, rfl, ⟨A, m, c, rfl, hrow⟩, Q', hN, -, -⟩ := h.post hx
  obtain ⟨h1, h2⟩ := hst_ticked hs ht hd h2t hw hb
  rw [h2 0, whom_three] at hrow
  obtain rfl : m = 2 := by rw [← hrow.len]; rfl
  exact ⟨A, c, Q', _, rfl, hrow, hN, h1⟩
end Gs
end Go.Proofs.Ytcmoelphjdehaaa
