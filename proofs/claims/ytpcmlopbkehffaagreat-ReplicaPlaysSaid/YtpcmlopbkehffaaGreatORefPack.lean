/-
  What the reference's Right answers of any packet: what the program's does.
-/
import Derived.Test.YtpcmlopbkehffaaGreatOGBG
import Derived.Test.YtpcmlopbkehffaaGreatOGBH
import Derived.Test.YtpcmlopbkehffaaGreatOGBI
import Derived.Test.YtpcmlopbkehffaaGreatOGBJ
import Derived.Test.YtpcmlopbkehffaaGreatOGBK
set_option linter.unusedSimpArgs false
set_option linter.unusedVariables false
namespace Go.Proofs.YtpcmlopbkehffaaGreat
open Go.RowKit Ru
theorem uS (p:av) (s:aT) (w:World) (hp:bP w p s) (hw:p.Wf):Calls Tryz.prog 38 #[aM p s] w (gQ w (bY (dF p))):=by
 rw [← ajx]
 by_cases hk:1≤p.kind∧p.kind≤10
 ·rcases rH hk with e | e | e | e | e | e | e | e | e | e
  ·exact ajB p s w hp hw e
  ·exact ajC p s w hp hw e
  ·exact ajD p s w hp hw e
  ·exact ajE p s w hp hw e
  ·exact ajF p s w hp hw e
  ·exact ajG p s w hp hw e
  ·exact ajH p s w hp hw e
  ·exact ajI p s w hp hw e
  ·exact ajJ p s w hp hw e
  ·exact ajA p s w hp hw e
 ·exact ajK p s w hp hw hk
end Go.Proofs.YtpcmlopbkehffaaGreat
