/-
  Contracts of the library's functions at this program: what the shelf's own theorems ask of it; laid by the guide's program.
-/
import Derived.Shelf.Spec.SlicesGrow
import Derived.Shelf.LaySoft
import Derived.Test.YtgmeggilojcoeaaProg
namespace Go.Proofs.Ytgmeggilojcoeaa
set_option linter.unusedSimpArgs false
set_option linter.unusedVariables false
open Go.Shelf Go.Proofs
shelf_try shelf_lay_g Lays8.n4 Nm8 4 at Try 104 as Sh.growPts
shelf_tried
end Go.Proofs.Ytgmeggilojcoeaa
