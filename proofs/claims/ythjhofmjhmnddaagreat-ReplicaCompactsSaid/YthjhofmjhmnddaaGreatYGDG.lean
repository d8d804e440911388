/-
  The document's registers in a list: Get, Put, Handle.
-/
import Derived.Test.YthjhofmjhmnddaaGreatYGDD
import Derived.Test.YthjhofmjhmnddaaGreatYGDF
import Derived.Test.YthjhofmjhmnddaaGreatYRefPack
namespace Go.Proofs.YthjhofmjhmnddaaGreat
set_option linter.unusedSimpArgs false
set_option linter.unusedVariables false
open Go.RowKit Rg Bl Re Wl Dsk Fm Vw
attribute [local go_sem ↓] Go.wp_at_zero Go.wp_at_succ
namespace Rp
set_option linter.unusedSimpArgs false
set_option linter.unusedVariables false
/-- A register stands in its block, in whatever world has come of w1 by new blocks. -/
abbrev RIn (w1 : World) (g : Nat) (r : RegD) (W : World) : Prop := Below w1.heap.size w1 W ∧ R5 W g r
def PutPost (w : World) (R : List OneD) (e : Ending) (w' : World) : Prop := ∃ A c, e = .returned (.slice A R.length c) ∧ OwnO w.heap.size w' A R.length c R ∧ Below w.heap.size w w'
end Rp
end Go.Proofs.YthjhofmjhmnddaaGreat

/-
  The document's Handle.
-/
namespace Go.Proofs.YthjhofmjhmnddaaGreat
set_option linter.unusedSimpArgs false
set_option linter.unusedVariables false
open Go.RowKit Rg Bl Re Wl Dsk Fm Vw
namespace Rp
set_option linter.unusedSimpArgs false
set_option linter.unusedVariables false
def nextR (R : List OneD) (p : PackD) : List OneD := keepR R p.trace (handX R p)
def ansR (R : List OneD) (p : PackD) : PackD := ansP (handX R p) p.trace (balP p) (handG R p) (decide (p.v ≠ 0))
/-- What it leaves: the list itself, or one of its own. -/
def RHandPost (w : World) (A : Option Addr) (m : List OneD) (p : PackD) (e : Ending) (w' : World) : Prop :=
  ∃ A' c' m' q, e = .returned (.tuple #[.slice A' m'.length c', packVal q noS, .bool (askP p)]) ∧ oneE.Row w' A' m'.length c' m' ∧ (askP p = true → m' = nextR m p ∧ q = ansR m p) ∧ (askP p = false → m' = m ∧ q = zeroP) ∧ ((A' = A ∧ m' = m) ∨ ∃ g, A' = some ⟨g, 0, none⟩ ∧ w.heap.size ≤ g) ∧ Below w.heap.size w w'
end Rp
end Go.Proofs.YthjhofmjhmnddaaGreat
