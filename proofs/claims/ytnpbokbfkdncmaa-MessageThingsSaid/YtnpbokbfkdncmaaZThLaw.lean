/-
  The law on things at any packet: not small, not right, or right, by its kind.
-/
import Derived.Test.YtnpbokbfkdncmaaZGS
import Derived.Test.YtnpbokbfkdncmaaZThW1
import Derived.Test.YtnpbokbfkdncmaaZThW10
import Derived.Test.YtnpbokbfkdncmaaZThW2
import Derived.Test.YtnpbokbfkdncmaaZThW3
import Derived.Test.YtnpbokbfkdncmaaZThW4
import Derived.Test.YtnpbokbfkdncmaaZThW5
import Derived.Test.YtnpbokbfkdncmaaZThW6
import Derived.Test.YtnpbokbfkdncmaaZThW7
import Derived.Test.YtnpbokbfkdncmaaZThW8
import Derived.Test.YtnpbokbfkdncmaaZThW9
namespace Go.Proofs.Ytnpbokbfkdncmaa
set_option linter.unusedSimpArgs false
set_option linter.unusedVariables false
open Go.RowKit Ru
set_option maxRecDepth 100000 in
set_option maxHeartbeats 8000000 in
theorem things_great (p : PackD) (s : PackS) (w : World) (hp : PackIn w p s) (hw : p.Wf) (hl : lightF p = false) :
    Calls Try.prog 3 #[packVal p s] w (BoolIs w true) := by
  have Hlt := hid_ (fun (W : World) (hb : Below w.heap.size w W) => mslight_any p s W (hp.below hb) hw)
  have Hal := hid_ (fun W => msalive_any W)
  have Ha := hid_ (show Below w.heap.size w (w.alloc (.cells (packCells p s) 30)) from (Below.refl w.heap.size w).alloc (Nat.le_refl _) _)
  rw [hl] at Hlt
  clear hl hp hw
  go_enter Try.func3, Try.ntmps3
  go_wp2_with fail
  refine Calls.mono (Hlt.out _ Ha.out) ?_
  rintro e w2 ⟨rfl, hb2⟩
  have Hb2 := hid_ (Ha.out.trans (hb2.mono Ha.out.size))
  clear hb2
  go_wp2_with fail
  refine Calls.mono (Hal.out _) ?_
  rintro e w3 ⟨rfl, hb3⟩
  have Hb3 := hid_ (Hb2.out.trans (hb3.mono Hb2.out.size))
  clear hb3
  go_wp2_with fail
  go_ret
  exact boolIs_mk rfl Hb3.out
set_option maxRecDepth 100000 in
set_option maxHeartbeats 8000000 in
theorem things_wrong (p : PackD) (s : PackS) (w : World) (hp : PackIn w p s) (hw : p.Wf) (hl : lightF p = true) (hr : rightP p = false) :
    Calls Try.prog 3 #[packVal p s] w (BoolIs w true) := by
  have Hlt := hid_ (fun (W : World) (hb : Below w.heap.size w W) => mslight_any p s W (hp.below hb) hw)
  have hm : p.spans.length ≤ 1000000 := by have := (light_few hl).1; omega
  have Hof := hid_ (fun (W : World) (hb : Below w.heap.size w W) => ofno_any p s W (hp.below hb) hw hm hr)
  have Href := hid_ (fun (W : World) (hb : Below w.heap.size w W) => refpack_any p s W (hp.below hb) hw)
  have Hal := hid_ (fun W => msalive_any W)
  have Ha := hid_ (show Below w.heap.size w (w.alloc (.cells (packCells p s) 30)) from (Below.refl w.heap.size w).alloc (Nat.le_refl _) _)
  have BP := hid_ (whole_new w 30 (packCells p s))
  have e6 : ((6 : Int) != 0) = true := by decide
  rw [hl] at Hlt
  rw [hr, show kindP false = 6 from rfl] at Href
  clear hl hp hw hr hm
  go_enter Try.func3, Try.ntmps3
  go_wp2_with fail
  refine Calls.mono (Hlt.out _ Ha.out) ?_
  rintro e w2 ⟨rfl, hb2⟩
  have Hb2 := hid_ (Ha.out.trans (hb2.mono Ha.out.size))
  have BP2 := hid_ (BP.out.below hb2 BP.out.lt)
  clear hb2
  obtain ⟨x0, x1, x2, x3, x4, x5, x6, x7, x8, x9, x10⟩ := pack_facts BP2.out
  go_wp2_with fail
  refine Calls.mono (Hof.out _ Hb2.out) ?_
  rintro e w3 ⟨rfl, hb3⟩
  have Hb3 := hid_ (Hb2.out.trans (hb3.mono Hb2.out.size))
  have BP3 := hid_ (BP2.out.below hb3 BP2.out.lt)
  clear hb3 x0 x1 x2 x3 x4 x5 x6 x7 x8 x9 x10
  obtain ⟨x0, x1, x2, x3, x4, x5, x6, x7, x8, x9, x10⟩ := pack_facts BP3.out
  go_wp2_with fail
  refine Calls.mono (Href.out _ Hb3.out) ?_
  rintro e w4 ⟨rfl, hb4⟩
  have Hb4 := hid_ (Hb3.out.trans (hb4.mono Hb3.out.size))
  clear hb4 x0 x1 x2 x3 x4 x5 x6 x7 x8 x9 x10
  go_wp2_with fail
  refine Calls.mono (Hal.out _) ?_
  rintro e w5 ⟨rfl, hb5⟩
  have Hb5 := hid_ (Hb4.out.trans (hb5.mono Hb4.out.size))
  clear hb5
  go_wp2_with fail
  go_ret
  exact boolIs_mk rfl Hb5.out
theorem things_law (p : PackD) (s : PackS) (w : World) (hp : PackIn w p s) (hw : p.Wf) :
    Calls Try.prog 3 #[packVal p s] w (BoolIs w true) := by
  cases hl : lightF p
  · exact things_great p s w hp hw hl
  cases hr : rightP p
  · exact things_wrong p s w hp hw hl hr
  obtain ⟨k, tr, bn, bd, sn, sd, v, ok, l1, l2, l3⟩ := p
  obtain ⟨a1, c1, a2, c2, a3, c3⟩ := s
  have hk : 1 ≤ k ∧ k ≤ 10 := (right_facts hr).kind
  rcases kind_cases hk with rfl | rfl | rfl | rfl | rfl | rfl | rfl | rfl | rfl | rfl
  · exact thw1_any tr bn bd sn sd v ok l1 l2 l3 a1 c1 a2 c2 a3 c3 w hp hw hl hr
  · exact thw2_any tr bn bd sn sd v ok l1 l2 l3 a1 c1 a2 c2 a3 c3 w hp hw hl hr
  · exact thw3_any tr bn bd sn sd v ok l1 l2 l3 a1 c1 a2 c2 a3 c3 w hp hw hl hr
  · exact thw4_any tr bn bd sn sd v ok l1 l2 l3 a1 c1 a2 c2 a3 c3 w hp hw hl hr
  · exact thw5_any tr bn bd sn sd v ok l1 l2 l3 a1 c1 a2 c2 a3 c3 w hp hw hl hr
  · exact thw6_any tr bn bd sn sd v ok l1 l2 l3 a1 c1 a2 c2 a3 c3 w hp hw hl hr
  · exact thw7_any tr bn bd sn sd v ok l1 l2 l3 a1 c1 a2 c2 a3 c3 w hp hw hl hr
  · exact thw8_any tr bn bd sn sd v ok l1 l2 l3 a1 c1 a2 c2 a3 c3 w hp hw hl hr
  · exact thw9_any tr bn bd sn sd v ok l1 l2 l3 a1 c1 a2 c2 a3 c3 w hp hw hl hr
  · exact thw10_any tr bn bd sn sd v ok l1 l2 l3 a1 c1 a2 c2 a3 c3 w hp hw hl hr
end Go.Proofs.Ytnpbokbfkdncmaa
