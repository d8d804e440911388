/-
  Contracts of the library's functions at this program: what the shelf's own theorems ask of it; laid by the guide's program.
-/
import Derived.Shelf.Bits.Mul64
import Derived.Test.YteoeghljoaiiiaaProg
namespace Go.Proofs.Yteoeghljoaiiiaa
set_option linter.unusedSimpArgs false
set_option linter.unusedVariables false
open Go.Shelf Go.Proofs
def Sh.mul64_ren : Go.Shelf.Ren := ⟨fun | 264 => 96 | n => n, fun | 53 => 60 | 46 => 127 | n => n, fun | n => n⟩
theorem Sh.mul64 : Go.Proofs.Lays.n264 Try.prog Sh.mul64_ren := {
  mixed := by kernel_rfl
  f264 := Try.func96.trans (congrArg some (by kernel_rfl))
  t46 := Try.underlying127
  a46 := Try.isAgg127
  z46 := Try.sizeOf127
  v46 := Try.zeroValue127
  t53 := Try.underlying60
  a53 := Try.isAgg60
  z53 := Try.sizeOf60
  v53 := Try.zeroValue60 }
end Go.Proofs.Yteoeghljoaiiiaa
