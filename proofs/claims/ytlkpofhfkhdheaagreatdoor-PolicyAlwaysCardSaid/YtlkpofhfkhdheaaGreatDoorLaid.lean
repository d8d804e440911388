/-
  What the rows' listed tables give: the powers of ten, the two tables of Unicode; the witness's world.
-/
import Derived.Test.YtlkpofhfkhdheaaGreatDoorShowLine
import Derived.Test.YtlkpofhfkhdheaaGreatDoorShelf
import Derived.Test.YtlkpofhfkhdheaaGreatDoorCards
import Derived.Test.YtlkpofhfkhdheaaGreatDoorTie
import Derived.WalkKit
import Derived.ProofKit
import Derived.OpenShut
import Derived.ShutString
import Derived.LaidMore
import Derived.Deep.DeepHandedRow
import Derived.Deep.DeepWitnessRowRef
import Derived.Lib.LaidIn
import Derived.Lib.LaidU8T
import Derived.SizedLaws
namespace Go.Proofs.YtlkpofhfkhdheaaGreatDoor
open Go.RowKit Go.Lib

theorem tabIs_of_reads {P : Program} {W : World} {name : String} {k : IntKind} {zs : List Int} {g : Nat} {t e : TypeId} {n : Nat}
    (hg : P.globalNamed name = some g) (hty : (P.globals[g]?).map (·.type) = some t) (ht : P.underlying t = some (.array n e)) (he : P.underlying e = some (.int k)) (hce : P.cellsOf e = 1) (hct : P.cellsOf t = n)
    (h : VarReads P W name (tabData k zs)) : TabIs P W name k zs := by
  obtain ⟨g', t', cs, fuel, p, hg', ht', hvar, hd⟩ := h
  obtain rfl := Option.some.inj (hg.symm.trans hg')
  obtain rfl := Option.some.inj (hty.symm.trans ht')
  unfold TabIs
  rw [hvar, ← cells_of_tab ht he hce hct hd]
abbrev theLaid : List (String × DataW Unit) := Rows.policyShowsRow.laid
theorem laid_plain {W : World} (h : laidMetH Tryz.prog theLaid W) : laidMet Tryz.prog theLaid W := by
  have e : (theLaid.filter fun x => x.2.handleName?.isSome) = [] := by kernel_rfl
  unfold laidMetH at h
  rw [e] at h
  exact h
theorem pow_data : (Rows.laid_internal_strconv_uint64pow10 : DataW Unit) = tabData .u64 pow10Tab := by kernel_rfl
theorem first_data : Rows.laid_unicode_utf8_first = firstData := by kernel_rfl
theorem accept_data : (Rows.laid_unicode_utf8_acceptRanges : DataW Unit) = acceptData := by kernel_rfl
theorem pows_laid {W : World} (h : laidMetH Tryz.prog theLaid W) : PowsB W := by
  have h1 : VarReads Tryz.prog W "internal/strconv.uint64pow10" (tabData .u64 pow10Tab) := by
    rw [← pow_data]
    exact Lib.laidMet.reads (laid_plain h) (.tail _ (.tail _ (.head _)))
  refine tabBelow_of_tabIs (tabIs_of_reads (g := 1) (t := 120) (e := 36) (n := 20) ?_ ?_ ?_ ?_ ?_ ?_ h1) <;> kernel_rfl
theorem u8_laid {W : World} (h : laidMetH Tryz.prog theLaid W) : Utf8Tabs 2 3 W := by
  have h1 : VarReads Tryz.prog W "unicode/utf8.first" firstData := by
    rw [← first_data]
    exact Lib.laidMet.reads (laid_plain h) (.tail _ (.tail _ (.tail _ (.tail _ (.tail _ (.tail _ (.head _)))))))
  have h2 : VarReads Tryz.prog W "unicode/utf8.acceptRanges" acceptData := by
    rw [← accept_data]
    exact Lib.laidMet.reads (laid_plain h) (.tail _ (.tail _ (.tail _ (.head _))))
  exact utf8Tabs_of_readsT (U8Types.of196 Sh.lays196) ⟨by kernel_rfl, by kernel_rfl, by kernel_rfl, by kernel_rfl, by kernel_rfl, by kernel_rfl, by kernel_rfl⟩ h1 h2
/-- The witness's world: the heap that the door's own run leaves, the pinned table put in. -/
noncomputable def laidWorld (os : Os) : World :=
  { World.doorLaid Tryz.prog 100 os with heap := (World.doorLaid Tryz.prog 100 os).heap.modify 2 fun
      | .cells _ t frozen => .cells (firstTab.map fun z => Value.int .u8 z).toArray t frozen
      | o => o }
theorem laid_met (os : Os) (args : Array Value) : laidMet Tryz.prog theLaid ((laidWorld os).forCall (fun _ _ => 0) ⟨#[], args, []⟩).memory :=
  laidMet_of_run' 8 (by kernel_rfl) (by kernel_rfl)
end Go.Proofs.YtlkpofhfkhdheaaGreatDoor
