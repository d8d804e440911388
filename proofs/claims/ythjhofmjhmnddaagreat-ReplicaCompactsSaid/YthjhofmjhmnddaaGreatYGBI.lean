/-
  What the reference's Right answers of a packet (kind 4).
-/
import Derived.Test.YthjhofmjhmnddaaGreatYGBG
namespace Go.Proofs.YthjhofmjhmnddaaGreat
set_option linter.unusedSimpArgs false
set_option linter.unusedVariables false
open Go.RowKit Ru

set_option linter.unusedSimpArgs false
attribute [local go_sem] undef
end Go.Proofs.YthjhofmjhmnddaaGreat

/-
  What the reference's Right answers of a packet (kind 5).
-/
namespace Go.Proofs.YthjhofmjhmnddaaGreat
set_option linter.unusedSimpArgs false
set_option linter.unusedVariables false
open Go.RowKit Ru

set_option linter.unusedSimpArgs false
attribute [local go_sem] undef
end Go.Proofs.YthjhofmjhmnddaaGreat
