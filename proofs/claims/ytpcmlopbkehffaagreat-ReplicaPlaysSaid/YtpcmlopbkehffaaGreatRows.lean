/-
  No cell of these rows narrows 'for every input' (looked for: loops, veiled, ifaces, maps, wideKeys, modest, calm, conditions, laid).
  DERIVED. THE GIVEN ROWS OF THIS SEAT. 4 by the template 'for every input the law returns true; each argument reads behind the call as it read before'; 0 by the template 'total and deterministic' (their statements: YtpcmlopbkehffaaGreatTotals.lean).
  GIVEN WITH THE SEED: the statements are not yours to turn. If you find one false, say at which input.
  Laid BY PROGRAM, IN A SANDBOX (cutbox-rows.mjs): the forced cells as the released guide's own fill.sh prints them over the translation d58b4210bc18c1cd… (all of the seat's roots in one cut). By AI agents, Wed Nov 11 2026. No macro, syntax, notation, axiom, sorry.
-/
import Derived.Test.YtpcmlopbkehffaaGreatChecked
import GoSem.Claim
import GoSem.ClaimJoined
import GoSem.ClaimMapViews
import Derived.JoinedTies
import Derived.KernelRfl
namespace Go.Proofs.YtpcmlopbkehffaaGreat
/- THE CELL 'sum', in the pinned program and in every row, IS THE sha256 OF THE DUMP (.gsa) THAT YtpcmlopbkehffaaGreatProg.lean LOADS. Nothing in Lean hashes anything: it is a label: what it is worth is what the hold of that sum in a sandbox is worth. -/
noncomputable def Tryz.pinned : Pinned := { name := "ytpcmlopbkehffaagreat", sum := "d58b4210bc18c1cd24624462a5c30c6a7879f288ebaa27da7d0a124062e28f9c", checked := Tryz.checked }
namespace Rows
def none {H : Type} : Left H := { results := [], args := [] }

/-- 'winnowlaw13.ReplicaPlays': WHATEVER THE INPUT: true; the input reads as it did. -/
def replicaPlaysSpec : ChangeSpec := { name := "replicaPlays", fn := fun _ => fun
  | [d1, d2] => { results := [.lit (.bool true)], args := [d1, d2] }
  | _ => none }
def replicaPlaysRow : OpenClaim := { program := "ytpcmlopbkehffaagreat", sum := "d58b4210bc18c1cd24624462a5c30c6a7879f288ebaa27da7d0a124062e28f9c", func := "winnow/winnowlaw13.ReplicaPlays", spec := "replicaPlays", unfollowed := true, recurses := true, apart := false }
def ReplicaPlaysSaid : Prop := replicaPlaysRow.holds Tryz.pinned (OpenSpec.ofChange replicaPlaysSpec)

/-- ITS FALSE NEIGHBOUR: 'it returns false'. Refute it at one input. -/
def replicaPlaysWrong : ChangeSpec := { name := "replicaPlays", fn := fun _ => fun
  | [d1, d2] => { results := [.lit (.bool false)], args := [d1, d2] }
  | _ => none }
def ReplicaPlaysWrongFalsely : Prop := replicaPlaysRow.holds Tryz.pinned (OpenSpec.ofChange replicaPlaysWrong)

/-- 'winnowlaw13.ReplicaCrash': WHATEVER THE INPUT: true; the input reads as it did. -/
def replicaCrashSpec : ChangeSpec := { name := "replicaCrash", fn := fun _ => fun
  | [d1, d2] => { results := [.lit (.bool true)], args := [d1, d2] }
  | _ => none }
def replicaCrashRow : OpenClaim := { program := "ytpcmlopbkehffaagreat", sum := "d58b4210bc18c1cd24624462a5c30c6a7879f288ebaa27da7d0a124062e28f9c", func := "winnow/winnowlaw13.ReplicaCrash", spec := "replicaCrash", unfollowed := true, recurses := true, apart := false }
def ReplicaCrashSaid : Prop := replicaCrashRow.holds Tryz.pinned (OpenSpec.ofChange replicaCrashSpec)

/-- ITS FALSE NEIGHBOUR: 'it returns false'. Refute it at one input. -/
def replicaCrashWrong : ChangeSpec := { name := "replicaCrash", fn := fun _ => fun
  | [d1, d2] => { results := [.lit (.bool false)], args := [d1, d2] }
  | _ => none }
def ReplicaCrashWrongFalsely : Prop := replicaCrashRow.holds Tryz.pinned (OpenSpec.ofChange replicaCrashWrong)

/-- 'winnowlaw13.ReplicaRises': WHATEVER THE INPUT: true; the input reads as it did. -/
def replicaRisesSpec : ChangeSpec := { name := "replicaRises", fn := fun _ => fun
  | [d] => { results := [.lit (.bool true)], args := [d] }
  | _ => none }
def replicaRisesRow : OpenClaim := { program := "ytpcmlopbkehffaagreat", sum := "d58b4210bc18c1cd24624462a5c30c6a7879f288ebaa27da7d0a124062e28f9c", func := "winnow/winnowlaw13.ReplicaRises", spec := "replicaRises", unfollowed := true, recurses := true, apart := false }
def ReplicaRisesSaid : Prop := replicaRisesRow.holds Tryz.pinned (OpenSpec.ofChange replicaRisesSpec)

/-- ITS FALSE NEIGHBOUR: 'it returns false'. Refute it at one input. -/
def replicaRisesWrong : ChangeSpec := { name := "replicaRises", fn := fun _ => fun
  | [d] => { results := [.lit (.bool false)], args := [d] }
  | _ => none }
def ReplicaRisesWrongFalsely : Prop := replicaRisesRow.holds Tryz.pinned (OpenSpec.ofChange replicaRisesWrong)

/-- 'winnowlaw13.ReplicaOnce': WHATEVER THE INPUT: true; the input reads as it did. -/
def replicaOnceSpec : ChangeSpec := { name := "replicaOnce", fn := fun _ => fun
  | [d] => { results := [.lit (.bool true)], args := [d] }
  | _ => none }
def replicaOnceRow : OpenClaim := { program := "ytpcmlopbkehffaagreat", sum := "d58b4210bc18c1cd24624462a5c30c6a7879f288ebaa27da7d0a124062e28f9c", func := "winnow/winnowlaw13.ReplicaOnce", spec := "replicaOnce", unfollowed := true, recurses := true, apart := false }
def ReplicaOnceSaid : Prop := replicaOnceRow.holds Tryz.pinned (OpenSpec.ofChange replicaOnceSpec)

/-- ITS FALSE NEIGHBOUR: 'it returns false'. Refute it at one input. -/
def replicaOnceWrong : ChangeSpec := { name := "replicaOnce", fn := fun _ => fun
  | [d] => { results := [.lit (.bool false)], args := [d] }
  | _ => none }
def ReplicaOnceWrongFalsely : Prop := replicaOnceRow.holds Tryz.pinned (OpenSpec.ofChange replicaOnceWrong)

/- THE SECOND FORM. 'bulk': how many values and letters a reading holds, each counted each time it is reached (what is shared counts as often as it is met; a slice's spare places count too). A statement '..UptoSaid' is the law's where the arguments, and the package variables that the reading takes, are together of bulk at most 1048576: NARROWER than '..Said'. Prove '..Said' where nothing that the law and all that it calls make is longer than what came in: it says more and counts as full. Else prove '..UptoSaid'. A law counts once. -/
mutual
def uptoBulk {H : Type} : DataW H → Nat
  | .lit (.string bytes) => bytes.length + 1
  | .lit _ => 1
  | .nil => 1
  | .ptr d => uptoBulk d + 1
  | .slice elems spare => uptoBulkAll elems + uptoBulkAll spare + 1
  | .agg parts => uptoBulkAll parts + 1
  | .iface _ d => uptoBulk d + 1
  | .map entries => uptoBulkEntries entries + 1
  | .held _ => 1
def uptoBulkAll {H : Type} : List (DataW H) → Nat
  | [] => 0
  | d :: r => uptoBulk d + uptoBulkAll r
def uptoBulkEntries {H : Type} : List (Lit × DataW H) → Nat
  | [] => 0
  | x :: r => uptoBulkEntry x + uptoBulkEntries r
def uptoBulkEntry {H : Type} : Lit × DataW H → Nat
  | (.string bytes, d) => bytes.length + uptoBulk d + 1
  | (_, d) => uptoBulk d + 1
 end
def uptoSmall : (H : Type) → List (DataW H) → Bool := fun _ ds => decide (uptoBulkAll ds ≤ 1048576)
def OpenSpec.upto (s : _root_.Go.ChangeSpec) : _root_.Go.OpenSpec := { _root_.Go.OpenSpec.ofChange s with cond := some uptoSmall }

/-- 'winnowlaw13.ReplicaPlays', WHERE WHAT IT READS IS OF BULK AT MOST 1048576: true; the input reads as it did. -/
def replicaPlaysUptoRow : OpenClaim := { program := "ytpcmlopbkehffaagreat", sum := "d58b4210bc18c1cd24624462a5c30c6a7879f288ebaa27da7d0a124062e28f9c", func := "winnow/winnowlaw13.ReplicaPlays", spec := "replicaPlays", unfollowed := true, recurses := true, apart := false, narrowed := true }
def ReplicaPlaysUptoSaid : Prop := replicaPlaysUptoRow.holds Tryz.pinned (OpenSpec.upto replicaPlaysSpec)

/-- 'winnowlaw13.ReplicaCrash', WHERE WHAT IT READS IS OF BULK AT MOST 1048576: true; the input reads as it did. -/
def replicaCrashUptoRow : OpenClaim := { program := "ytpcmlopbkehffaagreat", sum := "d58b4210bc18c1cd24624462a5c30c6a7879f288ebaa27da7d0a124062e28f9c", func := "winnow/winnowlaw13.ReplicaCrash", spec := "replicaCrash", unfollowed := true, recurses := true, apart := false, narrowed := true }
def ReplicaCrashUptoSaid : Prop := replicaCrashUptoRow.holds Tryz.pinned (OpenSpec.upto replicaCrashSpec)

/-- 'winnowlaw13.ReplicaRises', WHERE WHAT IT READS IS OF BULK AT MOST 1048576: true; the input reads as it did. -/
def replicaRisesUptoRow : OpenClaim := { program := "ytpcmlopbkehffaagreat", sum := "d58b4210bc18c1cd24624462a5c30c6a7879f288ebaa27da7d0a124062e28f9c", func := "winnow/winnowlaw13.ReplicaRises", spec := "replicaRises", unfollowed := true, recurses := true, apart := false, narrowed := true }
def ReplicaRisesUptoSaid : Prop := replicaRisesUptoRow.holds Tryz.pinned (OpenSpec.upto replicaRisesSpec)

/-- 'winnowlaw13.ReplicaOnce', WHERE WHAT IT READS IS OF BULK AT MOST 1048576: true; the input reads as it did. -/
def replicaOnceUptoRow : OpenClaim := { program := "ytpcmlopbkehffaagreat", sum := "d58b4210bc18c1cd24624462a5c30c6a7879f288ebaa27da7d0a124062e28f9c", func := "winnow/winnowlaw13.ReplicaOnce", spec := "replicaOnce", unfollowed := true, recurses := true, apart := false, narrowed := true }
def ReplicaOnceUptoSaid : Prop := replicaOnceUptoRow.holds Tryz.pinned (OpenSpec.upto replicaOnceSpec)

end Rows
end Go.Proofs.YtpcmlopbkehffaaGreat
