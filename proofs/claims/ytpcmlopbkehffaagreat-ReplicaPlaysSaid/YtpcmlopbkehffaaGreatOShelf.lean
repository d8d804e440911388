/-
  Contracts of the library's functions at this program: what the shelf's own theorems ask of it; laid by the guide's program.
-/
import Derived.Shelf.SlSortCmp.WholeK
import Derived.Shelf.SlicesE.Clone
import Derived.Shelf.Bytes.SlEqualAll
import Derived.Shelf.LaySoft
import Derived.Test.YtpcmlopbkehffaaGreatProg
set_option linter.unusedSimpArgs false
set_option linter.unusedVariables false
namespace Go.Proofs.YtpcmlopbkehffaaGreat
open Go.Shelf Go.Proofs
shelf_try shelf_lay Lays.nb115 Nm 115 at Tryz as Sh.laysnb115
shelf_try shelf_lay_g SlLaysE0.n41 Slgn 41 at Tryz 97 as Sh.cloneIds
shelf_try shelf_lay_g SlLaysE0.n41 Slgn 41 at Tryz 95 as Sh.cloneSpans
shelf_try shelf_lay_g SlLaysE0.n41 Slgn 41 at Tryz 96 as Sh.cloneMembers
shelf_try shelf_lay_g SlLaysF0.n6 Slsf 6 at Tryz 173 as Sh.sortSpans
shelf_tried
end Go.Proofs.YtpcmlopbkehffaaGreat
