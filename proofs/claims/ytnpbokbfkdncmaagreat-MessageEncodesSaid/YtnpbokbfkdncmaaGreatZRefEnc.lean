/-
  What the reference's Encode answers.
-/
import Derived.Test.YtnpbokbfkdncmaaGreatZFrameRef
import Derived.Test.YtnpbokbfkdncmaaGreatZGL
import Derived.Test.YtnpbokbfkdncmaaGreatZRefBytes
import Derived.Test.YtnpbokbfkdncmaaGreatZRefPack
namespace Go.Proofs.YtnpbokbfkdncmaaGreat
set_option linter.unusedSimpArgs false
set_option linter.unusedVariables false
open Go.RowKit Ru
set_option maxRecDepth 20000 in
set_option maxHeartbeats 4000000 in
theorem refencode_any (p : PackD) (s : PackS) (w : World) (hp : PackIn w p s) (hw : p.Wf) :
    Calls Tryz.prog 9 #[packVal p s] w (EncPost w p) := by
  have Ha := hid_ (show Below w.heap.size w (w.alloc (.cells (packCells p s) 30)) from (Below.refl _ _).alloc (Nat.le_refl _) _)
  have B0 := hid_ (whole_new w 30 (packCells p s))
  have Hri := hid_ (fun (W : World) (hb : Below w.heap.size w W) => refpack_any p s W (hp.below hb) hw)
  have Hwr := hid_ (fun (W : World) (hb : Below w.heap.size w W) (h : rightP p = true) => refbytes_any p s W (hp.below hb) hw h)
  have Hle := hid_ (fun (h : rightP p = true) => (written_le (right_facts h)).2)
  clear hp hw
  cases hr : rightP p
  · have Hr := hid_ hr
    have e6 : ((6 : Int) != 0) = true := by decide
    rw [hr, show kindP false = 6 from rfl] at Hri
    clear hr
    go_enter Tryz.func9, Tryz.ntmps9
    go_wp2_with fail
    refine Calls.mono (Hri.out _ Ha.out) ?_
    rintro e w1 ⟨rfl, hb1⟩
    have Hb1 := hid_ (Ha.out.trans (hb1.mono Ha.out.size))
    clear hb1
    go_wp2_with fail
    go_ret2
    exact encPost_no Hr.out Hb1.out
  · have Hr := hid_ hr
    have e6 : ((0 : Int) != 0) = false := by decide
    rw [hr, show kindP true = 0 from rfl] at Hri
    clear hr
    go_enter Tryz.func9, Tryz.ntmps9
    go_wp2_with fail
    refine Calls.mono (Hri.out _ Ha.out) ?_
    rintro e w1 ⟨rfl, hb1⟩
    have B1 := hid_ (B0.out.below hb1 B0.out.lt)
    have Hb1 := hid_ (Ha.out.trans (hb1.mono Ha.out.size))
    clear hb1
    obtain ⟨x0, x1, x2, x3, x4, x5, x6, x7, x8, x9, x10⟩ := pack_facts B1.out
    go_wp2_with fail
    refine Calls.mono (Hwr.out _ Hb1.out Hr.out) ?_
    rintro e w2 ⟨A2, n2, c2, rfl, ho, hb2⟩
    have Ho := hid_ ho
    have Hb2 := hid_ (Hb1.out.trans (hb2.mono Hb1.out.size))
    have Hn := hid_ (show n2 ≤ 8192 by rw [← ho.sl.len]; exact Hle.out Hr.out)
    clear ho hb2
    go_wp2_with fail
    refine Calls.mono (Fr.refput_any none A2 0 0 n2 c2 [] _ w2 (Sl.none _) Ho.out.sl Hn.out (by omega)) ?_
    rintro e w3 ⟨A3, c3, rfl, ho, hb3⟩
    rw [List.nil_append] at ho
    have Ho3 := hid_ (show Own w2.heap.size w3 A3 _ c3 (encF p) from ho)
    have Hb3 := hid_ (Hb2.out.trans (hb3.mono Hb2.out.size))
    clear ho hb3
    go_wp2_with fail
    go_ret2
    exact encPost_ok Hr.out (Ho3.out.mono Hb2.out.size) Hb3.out
end Go.Proofs.YtnpbokbfkdncmaaGreat
