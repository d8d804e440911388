/-
  DERIVED. GIVEN WITH THE SEED: THE CARDS: each row of YtlkpofhfkhdheaaDoorRows.lean that lists a variable, with what it lists TIED to the program's text (the seventh form; the later family's looks); each row that meets fmt, with fmt's text TOLD by the authors' own Lean function (tested against real Go, not proved from fmt's source: count such statements apart). THE CARD IS WHAT COUNTS. Prove the row's statement (the work); the ties are given (YtlkpofhfkhdheaaDoorTie.lean); close each card by the builder's one call (the guide's Derived/Test/ToyasCard.lean, 'card_holds'). Laid BY PROGRAM, IN A SANDBOX (cutbox-door.mjs). By AI agents, Wed Nov 11 2026. No macro, syntax, notation, axiom, sorry.
-/
import Derived.Test.YtlkpofhfkhdheaaDoorRows
import GoSem.ClaimSeven
namespace Go.Proofs.YtlkpofhfkhdheaaDoor
namespace Rows

/-- THE TIED CARD OF 'winnowlaw04.PolicyEvals'. -/
def policyEvalsCard : Claim7 := { stood := { row := policyEvalsRow, standIns := [], harness := (true, "292a8694ae1341d453996450beddc80c505e0c36d092a8a89f9f93c295d24614"), looks := true }, kinds := [], alts := [], laidByText := true, laidKinds := [.data, .data, .data, .data, .sentinel, .sentinel, .pinned], laidTests := true, laidLooks := .later }
def PolicyEvalsCardSaid : Prop := Claim7.holds Tryd.pinned (.plain (OpenSpec.ofChange policyEvalsSpec)) policyEvalsCard

/-- THE TIED CARD OF 'winnowlaw04.PolicyOrder'. -/
def policyOrderCard : Claim7 := { stood := { row := policyOrderRow, standIns := [], harness := (true, "292a8694ae1341d453996450beddc80c505e0c36d092a8a89f9f93c295d24614"), looks := true }, kinds := [], alts := [], laidByText := true, laidKinds := [.data, .data, .data, .data, .sentinel, .sentinel, .pinned], laidTests := true, laidLooks := .later }
def PolicyOrderCardSaid : Prop := Claim7.holds Tryd.pinned (.plain (OpenSpec.ofChange policyOrderSpec)) policyOrderCard

/-- THE SECOND FORM's CARD OF 'winnowlaw04.PolicyEvals'. -/
def policyEvalsUptoCard : Claim7 := { stood := { row := policyEvalsUptoRow, standIns := [], harness := (true, "292a8694ae1341d453996450beddc80c505e0c36d092a8a89f9f93c295d24614"), looks := true }, kinds := [], alts := [], laidByText := true, laidKinds := [.data, .data, .data, .data, .sentinel, .sentinel, .pinned], laidTests := true, laidLooks := .later }
def PolicyEvalsUptoCardSaid : Prop := Claim7.holds Tryd.pinned (.plain (OpenSpec.upto policyEvalsSpec)) policyEvalsUptoCard

/-- THE SECOND FORM's CARD OF 'winnowlaw04.PolicyOrder'. -/
def policyOrderUptoCard : Claim7 := { stood := { row := policyOrderUptoRow, standIns := [], harness := (true, "292a8694ae1341d453996450beddc80c505e0c36d092a8a89f9f93c295d24614"), looks := true }, kinds := [], alts := [], laidByText := true, laidKinds := [.data, .data, .data, .data, .sentinel, .sentinel, .pinned], laidTests := true, laidLooks := .later }
def PolicyOrderUptoCardSaid : Prop := Claim7.holds Tryd.pinned (.plain (OpenSpec.upto policyOrderSpec)) policyOrderUptoCard
end Rows
end Go.Proofs.YtlkpofhfkhdheaaDoor
