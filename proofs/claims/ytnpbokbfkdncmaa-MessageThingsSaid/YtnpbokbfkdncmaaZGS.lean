/-
  What Of answers of a packet that is not right: nothing.
-/
import Derived.Test.YtnpbokbfkdncmaaZGM
namespace Go.Proofs.Ytnpbokbfkdncmaa
set_option linter.unusedSimpArgs false
set_option linter.unusedVariables false
open Go.RowKit Ru
set_option maxRecDepth 100000 in
set_option maxHeartbeats 4000000 in
theorem ofno_any (p : PackD) (s : PackS) (w : World) (hp : PackIn w p s) (hw : p.Wf) (hm : p.spans.length ≤ 1000000) (hr : rightP p = false) :
    Calls Try.prog 7 #[packVal p s] w fun e w' => e = .returned (.tuple #[.nilIface, .int .i64 6]) ∧ Below w.heap.size w w' := by
  have Ha := hid_ (show Below w.heap.size w (w.alloc (.cells (packCells p s) 30)) from (Below.refl _ _).alloc (Nat.le_refl _) _)
  have Hri := hid_ (fun (W : World) (hb : Below w.heap.size w W) => packright_any p s W (hp.below hb) hw hm)
  rw [hr, show kindP false = 6 from rfl] at Hri
  have e6 : ((6 : Int) != 0) = true := by decide
  clear hp hw hm hr
  go_enter Try.func7, Try.ntmps7
  go_wp2_with fail
  refine Calls.mono (Hri.out _ Ha.out) ?_
  rintro e w1 ⟨rfl, hb1⟩
  have Hb1 := hid_ (Ha.out.trans (hb1.mono Ha.out.size))
  clear hb1
  go_wp2_with fail
  go_ret2
  exact ⟨rfl, Hb1.out⟩
end Go.Proofs.Ytnpbokbfkdncmaa
