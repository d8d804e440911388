/-
  What the reference's only answers: a packet that has nothing but what its kind has use for.
-/
import Derived.Test.YthjhofmjhmnddaaGreatYGBF
import Derived.Deep.RegionHeld3
import Derived.BigQuiet
namespace Go.Proofs.YthjhofmjhmnddaaGreat
set_option linter.unusedSimpArgs false
set_option linter.unusedVariables false
open Go.RowKit Ru

def onlyF (p : PackD) : PackD :=
  if p.kind = 1 then ⟨p.kind, p.trace, 0, 0, 0, 0, 0, false, p.spans, [], []⟩ else
  if p.kind = 2 then ⟨p.kind, p.trace, 0, 0, 0, 0, 0, false, p.spans, [], []⟩ else
  if p.kind = 3 then ⟨p.kind, 0, 0, 0, 0, 0, 0, false, [], p.members, []⟩ else
  if p.kind = 4 then ⟨p.kind, p.trace, p.bn, p.bnode, 0, 0, 0, false, [], [], []⟩ else
  if p.kind = 5 then ⟨p.kind, p.trace, p.bn, p.bnode, p.sn, p.snode, p.v, p.ok, [], [], []⟩ else
  if p.kind = 6 then ⟨p.kind, p.trace, p.bn, p.bnode, 0, 0, p.v, false, [], [], []⟩ else
  if p.kind = 7 then ⟨p.kind, p.trace, p.bn, p.bnode, p.sn, p.snode, 0, p.ok, [], [], []⟩ else
  if p.kind = 8 then ⟨p.kind, p.trace, 0, 0, 0, 0, p.v, false, [], [], []⟩ else
  if p.kind = 9 then ⟨p.kind, p.trace, p.bn, p.bnode, 0, 0, 0, false, p.spans, [], []⟩ else
  if p.kind = 10 then ⟨p.kind, p.trace, 0, 0, 0, 0, 0, false, [], [], p.ids⟩ else
  ⟨p.kind, p.trace, 0, 0, 0, 0, 0, false, [], [], []⟩
def onlyS (k : Int) (s : PackS) : PackS :=
  if k = 1 then ⟨s.a1, s.c1, none, 0, none, 0⟩ else
  if k = 2 then ⟨s.a1, s.c1, none, 0, none, 0⟩ else
  if k = 3 then ⟨none, 0, s.a2, s.c2, none, 0⟩ else
  if k = 4 then ⟨none, 0, none, 0, none, 0⟩ else
  if k = 5 then ⟨none, 0, none, 0, none, 0⟩ else
  if k = 6 then ⟨none, 0, none, 0, none, 0⟩ else
  if k = 7 then ⟨none, 0, none, 0, none, 0⟩ else
  if k = 8 then ⟨none, 0, none, 0, none, 0⟩ else
  if k = 9 then ⟨s.a1, s.c1, none, 0, none, 0⟩ else
  if k = 10 then ⟨none, 0, none, 0, s.a3, s.c3⟩ else
  ⟨none, 0, none, 0, none, 0⟩
def OnlyPost (w : World) (p : PackD) (s : PackS) (e : Ending) (w' : World) : Prop := e = .returned (packVal (onlyF p) (onlyS p.kind s)) ∧ Below w.heap.size w w'
end Go.Proofs.YthjhofmjhmnddaaGreat

/-
  What the reference's Right answers of a packet.
-/
namespace Go.Proofs.YthjhofmjhmnddaaGreat
set_option linter.unusedSimpArgs false
set_option linter.unusedVariables false
open Go.RowKit Ru

set_option linter.unusedSimpArgs false
attribute [local go_sem] undef
def toldF (v : Int) : Bool := decide (1 ≤ v) && decide (v ≤ 3)
/-- What the reference asks of each kind, beside that nothing else is there. -/
def restF (p : PackD) : Bool :=
  if p.kind = 1 ∨ p.kind = 2 then spansR p.trace p.spans else
  if p.kind = 3 then membersR p.members else
  if p.kind = 4 then decide (p.bn ≠ 0) else
  if p.kind = 5 then decide (p.bn ≠ 0) && ((decide (p.v = 0) || (toldF p.v && isB p.sn p.snode)) && (if p.ok then decide (p.v ≠ 0) || !isB p.sn p.snode else decide (p.v = 0) && isB p.sn p.snode)) else
  if p.kind = 6 then decide (p.bn ≠ 0) && toldF p.v else
  if p.kind = 7 then decide (p.bn ≠ 0) && (p.ok == !isB p.sn p.snode) else
  if p.kind = 8 then toldF p.v else
  if p.kind = 9 then decide (p.bn ≠ 0) && spansR p.trace p.spans else
  if p.kind = 10 then riseF p.ids else false
def baseF (p : PackD) : Bool := sameP p (onlyF p) && ((p.kind == 3) || ((p.trace : Int) != 0))
def refRightP (p : PackD) : Bool := baseF p && restF p
/-- A packet stands, in whatever world has come of w1 by new blocks. -/
abbrev PIn (w1 : World) (g : Nat) (p : PackD) (s : PackS) (W : World) : Prop :=
  Below w1.heap.size w1 W ∧ W.cell? ⟨g, 0, none⟩ = some (.int .i64 p.kind) ∧ W.cell? ⟨g, 1, none⟩ = some (.int .u64 (p.trace : Nat)) ∧ W.cell? ⟨g, 2, none⟩ = some (.int .u64 (p.bn : Nat)) ∧ W.cell? ⟨g, 3, none⟩ = some (.int .u64 (p.bnode : Nat)) ∧ W.cell? ⟨g, 4, none⟩ = some (.int .u64 (p.sn : Nat)) ∧ W.cell? ⟨g, 5, none⟩ = some (.int .u64 (p.snode : Nat)) ∧ W.cell? ⟨g, 6, none⟩ = some (.int .i64 p.v) ∧ W.cell? ⟨g, 7, none⟩ = some (.bool p.ok) ∧ W.cell? ⟨g, 8, none⟩ = some (.slice s.a1 p.spans.length s.c1) ∧ W.cell? ⟨g, 9, none⟩ = some (.slice s.a2 p.members.length s.c2) ∧ W.cell? ⟨g, 10, none⟩ = some (.slice s.a3 p.ids.length s.c3)
theorem pIn_keep {w1 W W' : World} {g : Nat} {p : PackD} {s : PackS} (hg : g < w1.heap.size) (h : PIn w1 g p s W) (hb : Below W.heap.size W W') : PIn w1 g p s W' := by
  obtain ⟨h0, a0, a1, a2, a3, a4, a5, a6, a7, a8, a9, a10⟩ := h
  have k : ∀ o', W'.cell? ⟨g, o', none⟩ = W.cell? ⟨g, o', none⟩ := fun o' => hb.cell (p := ⟨g, o', none⟩) (Nat.lt_of_lt_of_le hg h0.size)
  refine ⟨h0.trans (hb.mono h0.size), ?_, ?_, ?_, ?_, ?_, ?_, ?_, ?_, ?_, ?_, ?_⟩
  all_goals rw [k]; assumption
theorem pIn_of {W : World} {g : Nat} {p : PackD} {s : PackS} (h : packBox W g p s) : PIn W g p s W :=
  ⟨Below.refl _ _, h.cell 0 _ rfl, h.cell 1 _ rfl, h.cell 2 _ rfl, h.cell 3 _ rfl, h.cell 4 _ rfl, h.cell 5 _ rfl, h.cell 6 _ rfl, h.cell 7 _ rfl, h.cell 8 _ rfl, h.cell 9 _ rfl, h.cell 10 _ rfl⟩
end Go.Proofs.YthjhofmjhmnddaaGreat

/-
  The reference's Right and the program's Right are one.
-/
namespace Go.Proofs.YthjhofmjhmnddaaGreat
set_option linter.unusedSimpArgs false
set_option linter.unusedVariables false
open Go.RowKit Ru

end Go.Proofs.YthjhofmjhmnddaaGreat
