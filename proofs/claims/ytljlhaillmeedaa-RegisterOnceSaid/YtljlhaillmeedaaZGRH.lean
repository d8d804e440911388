/-
  What the program's answerRight and listsRight answer.
-/
import Derived.Test.YtljlhaillmeedaaZGRF
namespace Go.Proofs.Ytljlhaillmeedaa
set_option linter.unusedSimpArgs false
set_option linter.unusedVariables false
open Go.RowKit Ru

def listsF (h : PartsD) (p : PackD) : Bool :=
  lengthF h.spans p.spans.length 16 && (spansF p.trace p.spans && (lengthF h.members p.members.length 16 && (membersF p.members && (lengthF h.ids p.ids.length 16 && risesF p.ids))))
end Go.Proofs.Ytljlhaillmeedaa

/-
  What the program's Right answers.
-/
namespace Go.Proofs.Ytljlhaillmeedaa
set_option linter.unusedSimpArgs false
set_option linter.unusedVariables false
open Go.RowKit Ru

def noParts (h : PartsD) : Bool := !(h.trace || (h.ballot || (h.answer || (h.verdict || (h.spans || (h.members || h.ids))))))
/-- A packet is right. -/
def rightP (p : PackD) : Bool := !noParts (partsF p.kind) && (numbersF (partsF p.kind) p && (answerF (partsF p.kind) p && listsF (partsF p.kind) p))
def kindP (b : Bool) : Int := if b then 0 else 6
end Go.Proofs.Ytljlhaillmeedaa
