/-
  What the reference's Right answers of any packet: what the program's does.
-/
import Derived.Test.YthjhofmjhmnddaaGreatMGBG
import Derived.Test.YthjhofmjhmnddaaGreatMGBH
import Derived.Test.YthjhofmjhmnddaaGreatMGBI
import Derived.Test.YthjhofmjhmnddaaGreatMGBJ
import Derived.Test.YthjhofmjhmnddaaGreatMGBK
set_option linter.unusedSimpArgs false
set_option linter.unusedVariables false
namespace Go.Proofs.YthjhofmjhmnddaaGreat
open Go.RowKit Ru
theorem refpack_any (p : PackD) (s : PackS) (w : World) (hp : PackIn w p s) (hw : p.Wf) : Calls Tryz.prog 41 #[packVal p s] w (KindIs w (kindP (rightP p))) := by
 rw [← ref_right]
 by_cases hk : 1 ≤ p.kind ∧ p.kind ≤ 10
 ·rcases kind_cases hk with e | e | e | e | e | e | e | e | e | e
  ·exact refright1_any p s w hp hw e
  ·exact refright2_any p s w hp hw e
  ·exact refright3_any p s w hp hw e
  ·exact refright4_any p s w hp hw e
  ·exact refright5_any p s w hp hw e
  ·exact refright6_any p s w hp hw e
  ·exact refright7_any p s w hp hw e
  ·exact refright8_any p s w hp hw e
  ·exact refright9_any p s w hp hw e
  ·exact refright10_any p s w hp hw e
 ·exact refrightN_any p s w hp hw hk
end Go.Proofs.YthjhofmjhmnddaaGreat
