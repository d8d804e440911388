/-
  No cell of these rows narrows 'for every input' (looked for: loops, veiled, ifaces, maps, wideKeys, modest, calm, conditions, laid).
  DERIVED. THE GIVEN ROWS OF THIS SEAT. 8 by the template 'for every input the law returns true; each argument reads behind the call as it read before'; 0 by the template 'total and deterministic' (their statements: YtljlhaillmeedaaTotals.lean).
  GIVEN WITH THE SEED: the statements are not yours to turn. If you find one false, say at which input.
  Laid BY PROGRAM, IN A SANDBOX (cutbox-rows.mjs): the forced cells as the released guide's own fill.sh prints them over the translation 2cf6748b2990f0c4… (all of the seat's roots in one cut). By AI agents, Wed Nov 11 2026. No macro, syntax, notation, axiom, sorry.
-/
import Derived.Test.YtljlhaillmeedaaChecked
import GoSem.Claim
import GoSem.ClaimJoined
import GoSem.ClaimMapViews
import Derived.JoinedTies
import Derived.KernelRfl
namespace Go.Proofs.Ytljlhaillmeedaa
/- THE CELL 'sum', in the pinned program and in every row, IS THE sha256 OF THE DUMP (.gsa) THAT YtljlhaillmeedaaProg.lean LOADS. Nothing in Lean hashes anything: it is a label: what it is worth is what the hold of that sum in a sandbox is worth. -/
noncomputable def Try.pinned : Pinned := { name := "ytljlhaillmeedaa", sum := "2cf6748b2990f0c43cb91eb465cc8996befa3327811dbc59500a01788ff06a88", checked := Try.checked }
namespace Rows
def none {H : Type} : Left H := { results := [], args := [] }

/-- 'winnowlaw07.WalPrefix': WHATEVER THE INPUT: true; the input reads as it did. -/
def walPrefixSpec : ChangeSpec := { name := "walPrefix", fn := fun _ => fun
  | [d1, d2] => { results := [.lit (.bool true)], args := [d1, d2] }
  | _ => none }
def walPrefixRow : OpenClaim := { program := "ytljlhaillmeedaa", sum := "2cf6748b2990f0c43cb91eb465cc8996befa3327811dbc59500a01788ff06a88", func := "winnow/winnowlaw07.WalPrefix", spec := "walPrefix", unfollowed := true, recurses := true, apart := false }
def WalPrefixSaid : Prop := walPrefixRow.holds Try.pinned (OpenSpec.ofChange walPrefixSpec)

/-- ITS FALSE NEIGHBOUR: 'it returns false'. Refute it at one input. -/
def walPrefixWrong : ChangeSpec := { name := "walPrefix", fn := fun _ => fun
  | [d1, d2] => { results := [.lit (.bool false)], args := [d1, d2] }
  | _ => none }
def WalPrefixWrongFalsely : Prop := walPrefixRow.holds Try.pinned (OpenSpec.ofChange walPrefixWrong)

/-- 'winnowlaw07.WalDrops': WHATEVER THE INPUT: true; the input reads as it did. -/
def walDropsSpec : ChangeSpec := { name := "walDrops", fn := fun _ => fun
  | [d1, d2, d3] => { results := [.lit (.bool true)], args := [d1, d2, d3] }
  | _ => none }
def walDropsRow : OpenClaim := { program := "ytljlhaillmeedaa", sum := "2cf6748b2990f0c43cb91eb465cc8996befa3327811dbc59500a01788ff06a88", func := "winnow/winnowlaw07.WalDrops", spec := "walDrops", unfollowed := true, recurses := true, apart := false }
def WalDropsSaid : Prop := walDropsRow.holds Try.pinned (OpenSpec.ofChange walDropsSpec)

/-- ITS FALSE NEIGHBOUR: 'it returns false'. Refute it at one input. -/
def walDropsWrong : ChangeSpec := { name := "walDrops", fn := fun _ => fun
  | [d1, d2, d3] => { results := [.lit (.bool false)], args := [d1, d2, d3] }
  | _ => none }
def WalDropsWrongFalsely : Prop := walDropsRow.holds Try.pinned (OpenSpec.ofChange walDropsWrong)

/-- 'winnowlaw07.WalFiles': WHATEVER THE INPUT: true; the input reads as it did. -/
def walFilesSpec : ChangeSpec := { name := "walFiles", fn := fun _ => fun
  | [d1, d2, d3] => { results := [.lit (.bool true)], args := [d1, d2, d3] }
  | _ => none }
def walFilesRow : OpenClaim := { program := "ytljlhaillmeedaa", sum := "2cf6748b2990f0c43cb91eb465cc8996befa3327811dbc59500a01788ff06a88", func := "winnow/winnowlaw07.WalFiles", spec := "walFiles", unfollowed := true, recurses := true, apart := false }
def WalFilesSaid : Prop := walFilesRow.holds Try.pinned (OpenSpec.ofChange walFilesSpec)

/-- ITS FALSE NEIGHBOUR: 'it returns false'. Refute it at one input. -/
def walFilesWrong : ChangeSpec := { name := "walFiles", fn := fun _ => fun
  | [d1, d2, d3] => { results := [.lit (.bool false)], args := [d1, d2, d3] }
  | _ => none }
def WalFilesWrongFalsely : Prop := walFilesRow.holds Try.pinned (OpenSpec.ofChange walFilesWrong)

/-- 'winnowlaw12.RegisterSteps': WHATEVER THE INPUT: true; the input reads as it did. -/
def registerStepsSpec : ChangeSpec := { name := "registerSteps", fn := fun _ => fun
  | [d1, d2, d3, d4, d5, d6] => { results := [.lit (.bool true)], args := [d1, d2, d3, d4, d5, d6] }
  | _ => none }
def registerStepsRow : OpenClaim := { program := "ytljlhaillmeedaa", sum := "2cf6748b2990f0c43cb91eb465cc8996befa3327811dbc59500a01788ff06a88", func := "winnow/winnowlaw12.RegisterSteps", spec := "registerSteps", apart := false }
def RegisterStepsSaid : Prop := registerStepsRow.holds Try.pinned (OpenSpec.ofChange registerStepsSpec)

/-- ITS FALSE NEIGHBOUR: 'it returns false'. Refute it at one input. -/
def registerStepsWrong : ChangeSpec := { name := "registerSteps", fn := fun _ => fun
  | [d1, d2, d3, d4, d5, d6] => { results := [.lit (.bool false)], args := [d1, d2, d3, d4, d5, d6] }
  | _ => none }
def RegisterStepsWrongFalsely : Prop := registerStepsRow.holds Try.pinned (OpenSpec.ofChange registerStepsWrong)

/-- 'winnowlaw12.RegisterRises': WHATEVER THE INPUT: true; the input reads as it did. -/
def registerRisesSpec : ChangeSpec := { name := "registerRises", fn := fun _ => fun
  | [d1, d2, d3] => { results := [.lit (.bool true)], args := [d1, d2, d3] }
  | _ => none }
def registerRisesRow : OpenClaim := { program := "ytljlhaillmeedaa", sum := "2cf6748b2990f0c43cb91eb465cc8996befa3327811dbc59500a01788ff06a88", func := "winnow/winnowlaw12.RegisterRises", spec := "registerRises", apart := false }
def RegisterRisesSaid : Prop := registerRisesRow.holds Try.pinned (OpenSpec.ofChange registerRisesSpec)

/-- ITS FALSE NEIGHBOUR: 'it returns false'. Refute it at one input. -/
def registerRisesWrong : ChangeSpec := { name := "registerRises", fn := fun _ => fun
  | [d1, d2, d3] => { results := [.lit (.bool false)], args := [d1, d2, d3] }
  | _ => none }
def RegisterRisesWrongFalsely : Prop := registerRisesRow.holds Try.pinned (OpenSpec.ofChange registerRisesWrong)

/-- 'winnowlaw12.RegisterAnswers': WHATEVER THE INPUT: true; the input reads as it did. -/
def registerAnswersSpec : ChangeSpec := { name := "registerAnswers", fn := fun _ => fun
  | [d1, d2, d3, d4] => { results := [.lit (.bool true)], args := [d1, d2, d3, d4] }
  | _ => none }
def registerAnswersRow : OpenClaim := { program := "ytljlhaillmeedaa", sum := "2cf6748b2990f0c43cb91eb465cc8996befa3327811dbc59500a01788ff06a88", func := "winnow/winnowlaw12.RegisterAnswers", spec := "registerAnswers", apart := false }
def RegisterAnswersSaid : Prop := registerAnswersRow.holds Try.pinned (OpenSpec.ofChange registerAnswersSpec)

/-- ITS FALSE NEIGHBOUR: 'it returns false'. Refute it at one input. -/
def registerAnswersWrong : ChangeSpec := { name := "registerAnswers", fn := fun _ => fun
  | [d1, d2, d3, d4] => { results := [.lit (.bool false)], args := [d1, d2, d3, d4] }
  | _ => none }
def RegisterAnswersWrongFalsely : Prop := registerAnswersRow.holds Try.pinned (OpenSpec.ofChange registerAnswersWrong)

/-- 'winnowlaw12.RegisterOnce': WHATEVER THE INPUT: true; the input reads as it did. -/
def registerOnceSpec : ChangeSpec := { name := "registerOnce", fn := fun _ => fun
  | [d1, d2] => { results := [.lit (.bool true)], args := [d1, d2] }
  | _ => none }
def registerOnceRow : OpenClaim := { program := "ytljlhaillmeedaa", sum := "2cf6748b2990f0c43cb91eb465cc8996befa3327811dbc59500a01788ff06a88", func := "winnow/winnowlaw12.RegisterOnce", spec := "registerOnce", apart := false }
def RegisterOnceSaid : Prop := registerOnceRow.holds Try.pinned (OpenSpec.ofChange registerOnceSpec)

/-- ITS FALSE NEIGHBOUR: 'it returns false'. Refute it at one input. -/
def registerOnceWrong : ChangeSpec := { name := "registerOnce", fn := fun _ => fun
  | [d1, d2] => { results := [.lit (.bool false)], args := [d1, d2] }
  | _ => none }
def RegisterOnceWrongFalsely : Prop := registerOnceRow.holds Try.pinned (OpenSpec.ofChange registerOnceWrong)

/-- 'winnowlaw12.RegisterAgain': WHATEVER THE INPUT: true; the input reads as it did. -/
def registerAgainSpec : ChangeSpec := { name := "registerAgain", fn := fun _ => fun
  | [d1, d2, d3, d4] => { results := [.lit (.bool true)], args := [d1, d2, d3, d4] }
  | _ => none }
def registerAgainRow : OpenClaim := { program := "ytljlhaillmeedaa", sum := "2cf6748b2990f0c43cb91eb465cc8996befa3327811dbc59500a01788ff06a88", func := "winnow/winnowlaw12.RegisterAgain", spec := "registerAgain", apart := false }
def RegisterAgainSaid : Prop := registerAgainRow.holds Try.pinned (OpenSpec.ofChange registerAgainSpec)

/-- ITS FALSE NEIGHBOUR: 'it returns false'. Refute it at one input. -/
def registerAgainWrong : ChangeSpec := { name := "registerAgain", fn := fun _ => fun
  | [d1, d2, d3, d4] => { results := [.lit (.bool false)], args := [d1, d2, d3, d4] }
  | _ => none }
def RegisterAgainWrongFalsely : Prop := registerAgainRow.holds Try.pinned (OpenSpec.ofChange registerAgainWrong)

/- THE SECOND FORM. 'bulk': how many values and letters a reading holds, each counted each time it is reached (what is shared counts as often as it is met; a slice's spare places count too). A statement '..UptoSaid' is the law's where the arguments, and the package variables that the reading takes, are together of bulk at most 1048576: NARROWER than '..Said'. Prove '..Said' where nothing that the law and all that it calls make is longer than what came in: it says more and counts as full. Else prove '..UptoSaid'. A law counts once. -/
mutual
def uptoBulk {H : Type} : DataW H → Nat
  | .lit (.string bytes) => bytes.length + 1
  | .lit _ => 1
  | .nil => 1
  | .ptr d => uptoBulk d + 1
  | .slice elems spare => uptoBulkAll elems + uptoBulkAll spare + 1
  | .agg parts => uptoBulkAll parts + 1
  | .iface _ d => uptoBulk d + 1
  | .map entries => uptoBulkEntries entries + 1
  | .held _ => 1
def uptoBulkAll {H : Type} : List (DataW H) → Nat
  | [] => 0
  | d :: r => uptoBulk d + uptoBulkAll r
def uptoBulkEntries {H : Type} : List (Lit × DataW H) → Nat
  | [] => 0
  | x :: r => uptoBulkEntry x + uptoBulkEntries r
def uptoBulkEntry {H : Type} : Lit × DataW H → Nat
  | (.string bytes, d) => bytes.length + uptoBulk d + 1
  | (_, d) => uptoBulk d + 1
 end
def uptoSmall : (H : Type) → List (DataW H) → Bool := fun _ ds => decide (uptoBulkAll ds ≤ 1048576)
def OpenSpec.upto (s : _root_.Go.ChangeSpec) : _root_.Go.OpenSpec := { _root_.Go.OpenSpec.ofChange s with cond := some uptoSmall }

/-- 'winnowlaw07.WalPrefix', WHERE WHAT IT READS IS OF BULK AT MOST 1048576: true; the input reads as it did. -/
def walPrefixUptoRow : OpenClaim := { program := "ytljlhaillmeedaa", sum := "2cf6748b2990f0c43cb91eb465cc8996befa3327811dbc59500a01788ff06a88", func := "winnow/winnowlaw07.WalPrefix", spec := "walPrefix", unfollowed := true, recurses := true, apart := false, narrowed := true }
def WalPrefixUptoSaid : Prop := walPrefixUptoRow.holds Try.pinned (OpenSpec.upto walPrefixSpec)

/-- 'winnowlaw07.WalDrops', WHERE WHAT IT READS IS OF BULK AT MOST 1048576: true; the input reads as it did. -/
def walDropsUptoRow : OpenClaim := { program := "ytljlhaillmeedaa", sum := "2cf6748b2990f0c43cb91eb465cc8996befa3327811dbc59500a01788ff06a88", func := "winnow/winnowlaw07.WalDrops", spec := "walDrops", unfollowed := true, recurses := true, apart := false, narrowed := true }
def WalDropsUptoSaid : Prop := walDropsUptoRow.holds Try.pinned (OpenSpec.upto walDropsSpec)

/-- 'winnowlaw07.WalFiles', WHERE WHAT IT READS IS OF BULK AT MOST 1048576: true; the input reads as it did. -/
def walFilesUptoRow : OpenClaim := { program := "ytljlhaillmeedaa", sum := "2cf6748b2990f0c43cb91eb465cc8996befa3327811dbc59500a01788ff06a88", func := "winnow/winnowlaw07.WalFiles", spec := "walFiles", unfollowed := true, recurses := true, apart := false, narrowed := true }
def WalFilesUptoSaid : Prop := walFilesUptoRow.holds Try.pinned (OpenSpec.upto walFilesSpec)

/-- 'winnowlaw12.RegisterSteps', WHERE WHAT IT READS IS OF BULK AT MOST 1048576: true; the input reads as it did. -/
def registerStepsUptoRow : OpenClaim := { program := "ytljlhaillmeedaa", sum := "2cf6748b2990f0c43cb91eb465cc8996befa3327811dbc59500a01788ff06a88", func := "winnow/winnowlaw12.RegisterSteps", spec := "registerSteps", apart := false, narrowed := true }
def RegisterStepsUptoSaid : Prop := registerStepsUptoRow.holds Try.pinned (OpenSpec.upto registerStepsSpec)

/-- 'winnowlaw12.RegisterRises', WHERE WHAT IT READS IS OF BULK AT MOST 1048576: true; the input reads as it did. -/
def registerRisesUptoRow : OpenClaim := { program := "ytljlhaillmeedaa", sum := "2cf6748b2990f0c43cb91eb465cc8996befa3327811dbc59500a01788ff06a88", func := "winnow/winnowlaw12.RegisterRises", spec := "registerRises", apart := false, narrowed := true }
def RegisterRisesUptoSaid : Prop := registerRisesUptoRow.holds Try.pinned (OpenSpec.upto registerRisesSpec)

/-- 'winnowlaw12.RegisterAnswers', WHERE WHAT IT READS IS OF BULK AT MOST 1048576: true; the input reads as it did. -/
def registerAnswersUptoRow : OpenClaim := { program := "ytljlhaillmeedaa", sum := "2cf6748b2990f0c43cb91eb465cc8996befa3327811dbc59500a01788ff06a88", func := "winnow/winnowlaw12.RegisterAnswers", spec := "registerAnswers", apart := false, narrowed := true }
def RegisterAnswersUptoSaid : Prop := registerAnswersUptoRow.holds Try.pinned (OpenSpec.upto registerAnswersSpec)

/-- 'winnowlaw12.RegisterOnce', WHERE WHAT IT READS IS OF BULK AT MOST 1048576: true; the input reads as it did. -/
def registerOnceUptoRow : OpenClaim := { program := "ytljlhaillmeedaa", sum := "2cf6748b2990f0c43cb91eb465cc8996befa3327811dbc59500a01788ff06a88", func := "winnow/winnowlaw12.RegisterOnce", spec := "registerOnce", apart := false, narrowed := true }
def RegisterOnceUptoSaid : Prop := registerOnceUptoRow.holds Try.pinned (OpenSpec.upto registerOnceSpec)

/-- 'winnowlaw12.RegisterAgain', WHERE WHAT IT READS IS OF BULK AT MOST 1048576: true; the input reads as it did. -/
def registerAgainUptoRow : OpenClaim := { program := "ytljlhaillmeedaa", sum := "2cf6748b2990f0c43cb91eb465cc8996befa3327811dbc59500a01788ff06a88", func := "winnow/winnowlaw12.RegisterAgain", spec := "registerAgain", apart := false, narrowed := true }
def RegisterAgainUptoSaid : Prop := registerAgainUptoRow.holds Try.pinned (OpenSpec.upto registerAgainSpec)

end Rows
end Go.Proofs.Ytljlhaillmeedaa
