/-
  Contracts of the library's functions at this program: what the shelf's own theorems ask of it; laid by the guide's program.
-/
import Derived.Shelf.SlicesE.Clone
import Derived.Test.YtcmoelphjdehaaaProg
namespace Go.Proofs.Ytcmoelphjdehaaa
set_option linter.unusedSimpArgs false
set_option linter.unusedVariables false
open Go.Shelf Go.Proofs
def Sh.cloneMembers_ren : Go.Shelf.Ren := ⟨fun | 41 => 82 | n => n, fun | 22 => 77 | 23 => 82 | 4 => 4 | n => n, fun | n => n⟩
theorem Sh.cloneMembers : Go.Proofs.SlLaysE0.n41 Try.prog Sh.cloneMembers_ren := {
  mixed := by kernel_rfl
  f41 := ⟨Try.f82.name, by decide, Try.func82.trans (congrArg some (by kernel_rfl))⟩
  t4 := Try.underlying4
  a4 := Try.isAgg4
  z4 := Try.sizeOf4
  v4 := Try.zeroValue4
  t22 := Try.underlying77
  a22 := Try.isAgg77
  z22 := Try.sizeOf77
  v22 := Try.zeroValue77 }
end Go.Proofs.Ytcmoelphjdehaaa
