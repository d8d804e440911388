/-
  What the program's Name answers.
-/
import Derived.Test.YtljlhaillmeedaaZGRB
import Derived.Test.YtljlhaillmeedaaZGRC
import Derived.Lib.Walk
import Derived.Lib.Slices
import Derived.Laws.Strings3
import Derived.Laws.RangeAny
namespace Go.Proofs.Ytljlhaillmeedaa
set_option linter.unusedSimpArgs false
set_option linter.unusedVariables false
open Go.RowKit Ru

end Go.Proofs.Ytljlhaillmeedaa

/-
  What the program's texts, numbers, truth and Right answer.
-/
namespace Go.Proofs.Ytljlhaillmeedaa
set_option linter.unusedSimpArgs false
set_option linter.unusedVariables false
open Go.RowKit Ru

abbrev textsVal (s : SpanD) : Value := .agg #[.string s.service, .string s.name]
abbrev numbersVal (s : SpanD) : Value := .agg #[.int .u64 (s.trace : Nat), .int .u64 (s.id : Nat), .int .u64 (s.parent : Nat), .int .u64 (s.start : Nat), .int .u64 (s.len : Nat)]
def ValIs (w : World) (v : Value) (e : Ending) (w' : World) : Prop := e = .returned v ∧ Below w.heap.size w w'
theorem valIs_mk {w w' : World} {v : Value} (hb : Below w.heap.size w w') : ValIs w v (.returned v) w' := ⟨rfl, hb⟩

def textAt (s : SpanD) (k : Nat) : ByteArray := if k = 0 then s.service else s.name
end Go.Proofs.Ytljlhaillmeedaa
