/-
  What the reference's Right answers of any packet: what the program's does.
-/
import Derived.Test.YthjhofmjhmnddaaGreatYGBG
import Derived.Test.YthjhofmjhmnddaaGreatYGBH
import Derived.Test.YthjhofmjhmnddaaGreatYGBI
import Derived.Test.YthjhofmjhmnddaaGreatYGBJ
import Derived.Test.YthjhofmjhmnddaaGreatYGBK
namespace Go.Proofs.YthjhofmjhmnddaaGreat
set_option linter.unusedSimpArgs false
set_option linter.unusedVariables false
open Go.RowKit Ru

end Go.Proofs.YthjhofmjhmnddaaGreat
