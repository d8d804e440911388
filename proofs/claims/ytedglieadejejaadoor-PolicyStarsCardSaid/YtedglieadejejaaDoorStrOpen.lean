/-
  A text that came in: what the shell's reading tells of it.
-/
import Derived.Test.YtedglieadejejaaDoorSl
import Derived.OpenShut
import Derived.ShutString
namespace Go.Proofs.YtedglieadejejaaDoor
open Go.RowKit Go.ChangeShapes Go.WideShapes
open Go.ChangeMaps (open_string)

/-- What a text that came in is known to be. -/
def StrV (_w : World) (v : Value) : Prop := ∃ s : ByteArray, s.size ≤ 9223372036854775807 ∧ v = .string s
section
variable {H : Type} {enc : TypeId × Value → H} {w : World} {base : Nat} {held : Bool}
set_option maxRecDepth 100000 in
theorem open_strV {v : Value} {d : DataW H} {p : List MemPlace} {x : Reach} {r : Nat}
    (hv : Value.okWide Tryd.prog w x r 9 v) (h : DataW.Trod enc Tryd.prog w base (fun _ => true) held 9 v d p) : StrV w v := by
  obtain ⟨a0, rfl, _, _, w0⟩ := open_string Tryd.underlying9 hv h
  exact ⟨a0, by unfold maxLen at w0; omega, rfl⟩
end
end Go.Proofs.YtedglieadejejaaDoor
