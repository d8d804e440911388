/-
  The law's walk at a right packet of kind 1.
-/
import Derived.Test.YtnpbokbfkdncmaaZGM
import Derived.Test.YtnpbokbfkdncmaaZMsAlive
import Derived.Test.YtnpbokbfkdncmaaZRefPack
import Derived.Test.YtnpbokbfkdncmaaZSame01
import Derived.Test.YtnpbokbfkdncmaaZThPk
namespace Go.Proofs.Ytnpbokbfkdncmaa
set_option linter.unusedSimpArgs false
set_option linter.unusedVariables false
open Go.RowKit Ru
set_option maxRecDepth 100000 in
set_option maxHeartbeats 8000000 in
theorem thw1_any (tr bn bd sn sd : Nat) (v : Int) (ok : Bool) (l1 : List SpanD) (l2 : List MemberD) (l3 : List Nat) (a1 : Option Addr) (c1 : Nat) (a2 : Option Addr) (c2 : Nat) (a3 : Option Addr) (c3 : Nat) (w : World) (hp : PackIn w ⟨1, tr, bn, bd, sn, sd, v, ok, l1, l2, l3⟩ ⟨a1, c1, a2, c2, a3, c3⟩) (hw : PackD.Wf ⟨1, tr, bn, bd, sn, sd, v, ok, l1, l2, l3⟩) (hl : lightF ⟨1, tr, bn, bd, sn, sd, v, ok, l1, l2, l3⟩ = true) (hr : rightP ⟨1, tr, bn, bd, sn, sd, v, ok, l1, l2, l3⟩ = true) :
    Calls Try.prog 3 #[.agg #[.int .i64 1, .int .u64 (tr : Nat), .int .u64 (bn : Nat), .int .u64 (bd : Nat), .int .u64 (sn : Nat), .int .u64 (sd : Nat), .int .i64 v, .bool ok, .slice a1 l1.length c1, .slice a2 l2.length c2, .slice a3 l3.length c3]] w (BoolIs w true) := by
  have hm : l1.length ≤ 1000 ∧ l2.length ≤ 1000 ∧ l3.length ≤ 1000 := by
    have hf : l1.length ≤ 40 ∧ l2.length ≤ 100 ∧ l3.length ≤ 100 := light_few hl
    omega
  have Hlt := hid_ (fun (W : World) (hb : Below w.heap.size w W) => show Calls Try.prog 5 #[.agg #[.int .i64 1, .int .u64 (tr : Nat), .int .u64 (bn : Nat), .int .u64 (bd : Nat), .int .u64 (sn : Nat), .int .u64 (sd : Nat), .int .i64 v, .bool ok, .slice a1 l1.length c1, .slice a2 l2.length c2, .slice a3 l3.length c3]] W (BoolIs W true) from by have h := mslight_any ⟨1, tr, bn, bd, sn, sd, v, ok, l1, l2, l3⟩ ⟨a1, c1, a2, c2, a3, c3⟩ W (hp.below hb) hw; rw [hl] at h; exact h)
  have Hof := hid_ (fun (W : World) (hb : Below w.heap.size w W) => of1k_any tr bn bd sn sd v ok l1 l2 l3 a1 c1 a2 c2 a3 c3 W (hp.below hb) hw hm hr (by obtain ⟨_, _, _, _, _, _, _, _, hne⟩ := form1 hr; exact hne))
  have Href := hid_ (fun (W : World) (hb : Below w.heap.size w W) => show Calls Try.prog 8 #[.agg #[.int .i64 1, .int .u64 (tr : Nat), .int .u64 (bn : Nat), .int .u64 (bd : Nat), .int .u64 (sn : Nat), .int .u64 (sd : Nat), .int .i64 v, .bool ok, .slice a1 l1.length c1, .slice a2 l2.length c2, .slice a3 l3.length c3]] W (KindIs W 0) from by have h := refpack_any ⟨1, tr, bn, bd, sn, sd, v, ok, l1, l2, l3⟩ ⟨a1, c1, a2, c2, a3, c3⟩ W (hp.below hb) hw; rw [hr] at h; exact h)
  have Hpk := hid_ (fun (A : Option Addr) (c : Nat) (W : World) (hrow : SpanRow W A l1.length c l1) => pkt1_any hr hw A c W hrow (by omega))
  have Htr := hid_ (fun (A : Option Addr) (c : Nat) (W : World) => trt1_any hr A c W)
  have Hal := hid_ (fun W => msalive_any W)
  have Hp := hid_ hp
  have kt := fun v w => isSpans v w
  have Ha := hid_ (show Below w.heap.size w (w.alloc (.cells #[.int .i64 1, .int .u64 (tr : Nat), .int .u64 (bn : Nat), .int .u64 (bd : Nat), .int .u64 (sn : Nat), .int .u64 (sd : Nat), .int .i64 v, .bool ok, .slice a1 l1.length c1, .slice a2 l2.length c2, .slice a3 l3.length c3] 30)) from (Below.refl w.heap.size w).alloc (Nat.le_refl _) _)
  have BP := hid_ (whole_new w 30 #[.int .i64 1, .int .u64 (tr : Nat), .int .u64 (bn : Nat), .int .u64 (bd : Nat), .int .u64 (sn : Nat), .int .u64 (sd : Nat), .int .i64 v, .bool ok, .slice a1 l1.length c1, .slice a2 l2.length c2, .slice a3 l3.length c3])
  clear hp hw hl hr hm
  go_enter Try.func3, Try.ntmps3
  go_wp2_with fail
  refine Calls.mono (Hlt.out _ Ha.out) ?_
  rintro e w2 ⟨rfl, hb2⟩
  have Hb2 := hid_ (Ha.out.trans (hb2.mono Ha.out.size))
  have BP2 := hid_ (BP.out.below hb2 BP.out.lt)
  clear hb2
  have x0 := BP2.out.cell 0 _ rfl
  have x1 := BP2.out.cell 1 _ rfl
  have x2 := BP2.out.cell 2 _ rfl
  have x3 := BP2.out.cell 3 _ rfl
  have x4 := BP2.out.cell 4 _ rfl
  have x5 := BP2.out.cell 5 _ rfl
  have x6 := BP2.out.cell 6 _ rfl
  have x7 := BP2.out.cell 7 _ rfl
  have x8 := BP2.out.cell 8 _ rfl
  have x9 := BP2.out.cell 9 _ rfl
  have x10 := BP2.out.cell 10 _ rfl
  go_wp2_with fail
  refine Calls.mono (Hof.out _ Hb2.out) ?_
  rintro e w3 ⟨A, c, rfl, hrow, hb3⟩
  have Hrow := hid_ hrow
  have Hb3 := hid_ (Hb2.out.trans (hb3.mono Hb2.out.size))
  have BP3 := hid_ (BP2.out.below hb3 BP2.out.lt)
  clear hb3 hrow x0 x1 x2 x3 x4 x5 x6 x7 x8 x9 x10
  dsimp only
  have x0 := BP3.out.cell 0 _ rfl
  have x1 := BP3.out.cell 1 _ rfl
  have x2 := BP3.out.cell 2 _ rfl
  have x3 := BP3.out.cell 3 _ rfl
  have x4 := BP3.out.cell 4 _ rfl
  have x5 := BP3.out.cell 5 _ rfl
  have x6 := BP3.out.cell 6 _ rfl
  have x7 := BP3.out.cell 7 _ rfl
  have x8 := BP3.out.cell 8 _ rfl
  have x9 := BP3.out.cell 9 _ rfl
  have x10 := BP3.out.cell 10 _ rfl
  go_wp2_with fail
  refine Calls.mono (Href.out _ Hb3.out) ?_
  rintro e w4 ⟨rfl, hb4⟩
  have Hb4 := hid_ (Hb3.out.trans (hb4.mono Hb3.out.size))
  have BP4 := hid_ (BP3.out.below hb4 BP3.out.lt)
  have Hrow4 := hid_ (Hrow.out.below hb4)
  clear hb4 x0 x1 x2 x3 x4 x5 x6 x7 x8 x9 x10
  go_wp2_with fail
  refine Calls.mono (Hpk.out A c _ Hrow4.out) ?_
  rintro e w5 ⟨⟨b1, d1, b2, d2, b3, d3⟩, rfl, hi, hb5⟩
  have Hb5 := hid_ ((Hb4.out.trans (hb5.mono Hb4.out.size)).alloc ((Hb4.out.trans (hb5.mono Hb4.out.size)).size) (.cells #[.int .i64 1, .int .u64 (tr : Nat), .int .u64 (bn : Nat), .int .u64 (bd : Nat), .int .u64 (sn : Nat), .int .u64 (sd : Nat), .int .i64 v, .bool ok, .slice b1 l1.length d1, .slice b2 l2.length d2, .slice b3 l3.length d3] 30))
  have BP5 := hid_ ((BP4.out.below hb5 BP4.out.lt).alloc (.cells #[.int .i64 1, .int .u64 (tr : Nat), .int .u64 (bn : Nat), .int .u64 (bd : Nat), .int .u64 (sn : Nat), .int .u64 (sd : Nat), .int .i64 v, .bool ok, .slice b1 l1.length d1, .slice b2 l2.length d2, .slice b3 l3.length d3] 30))
  have BQ5 := hid_ (whole_new w5 30 #[.int .i64 1, .int .u64 (tr : Nat), .int .u64 (bn : Nat), .int .u64 (bd : Nat), .int .u64 (sn : Nat), .int .u64 (sd : Nat), .int .i64 v, .bool ok, .slice b1 l1.length d1, .slice b2 l2.length d2, .slice b3 l3.length d3])
  have Hi5 := hid_ (hi.below ((Below.refl _ _).alloc (Nat.le_refl _) (.cells #[.int .i64 1, .int .u64 (tr : Nat), .int .u64 (bn : Nat), .int .u64 (bd : Nat), .int .u64 (sn : Nat), .int .u64 (sd : Nat), .int .i64 v, .bool ok, .slice b1 l1.length d1, .slice b2 l2.length d2, .slice b3 l3.length d3] 30)))
  clear hb5 hi
  dsimp only [packVal]
  go_wp2_with fail
  refine Calls.mono (Htr.out A c _) ?_
  rintro e w6 ⟨rfl, hb6⟩
  have Hb6 := hid_ (Hb5.out.trans (hb6.mono Hb5.out.size))
  have BP6 := hid_ (BP5.out.below hb6 BP5.out.lt)
  have BQ6 := hid_ (BQ5.out.below hb6 BQ5.out.lt)
  have Hi6 := hid_ (Hi5.out.below hb6)
  clear hb6
  have Hsm := hid_ (show Calls Try.prog 11 #[.agg #[.int .i64 1, .int .u64 (tr : Nat), .int .u64 (bn : Nat), .int .u64 (bd : Nat), .int .u64 (sn : Nat), .int .u64 (sd : Nat), .int .i64 v, .bool ok, .slice a1 l1.length c1, .slice a2 l2.length c2, .slice a3 l3.length c3], .agg #[.int .i64 1, .int .u64 (tr : Nat), .int .u64 (bn : Nat), .int .u64 (bd : Nat), .int .u64 (sn : Nat), .int .u64 (sd : Nat), .int .i64 v, .bool ok, .slice b1 l1.length d1, .slice b2 l2.length d2, .slice b3 l3.length d3]] w6 (BoolIs w6 true) from by have h := refsame_any ⟨1, tr, bn, bd, sn, sd, v, ok, l1, l2, l3⟩ ⟨1, tr, bn, bd, sn, sd, v, ok, l1, l2, l3⟩ ⟨a1, c1, a2, c2, a3, c3⟩ ⟨b1, d1, b2, d2, b3, d3⟩ w6 (Hp.out.below Hb6.out) Hi6.out; rw [sameP_self] at h; exact h)
  have x0 := BP6.out.cell 0 _ rfl
  have x1 := BP6.out.cell 1 _ rfl
  have x2 := BP6.out.cell 2 _ rfl
  have x3 := BP6.out.cell 3 _ rfl
  have x4 := BP6.out.cell 4 _ rfl
  have x5 := BP6.out.cell 5 _ rfl
  have x6 := BP6.out.cell 6 _ rfl
  have x7 := BP6.out.cell 7 _ rfl
  have x8 := BP6.out.cell 8 _ rfl
  have x9 := BP6.out.cell 9 _ rfl
  have x10 := BP6.out.cell 10 _ rfl
  have y0 := BQ6.out.cell 0 _ rfl
  have y1 := BQ6.out.cell 1 _ rfl
  have y2 := BQ6.out.cell 2 _ rfl
  have y3 := BQ6.out.cell 3 _ rfl
  have y4 := BQ6.out.cell 4 _ rfl
  have y5 := BQ6.out.cell 5 _ rfl
  have y6 := BQ6.out.cell 6 _ rfl
  have y7 := BQ6.out.cell 7 _ rfl
  have y8 := BQ6.out.cell 8 _ rfl
  have y9 := BQ6.out.cell 9 _ rfl
  have y10 := BQ6.out.cell 10 _ rfl
  go_wp2_with fail
  refine Calls.mono Hsm.out ?_
  rintro e w7 ⟨rfl, hb7⟩
  have Hb7 := hid_ (Hb6.out.trans (hb7.mono Hb6.out.size))
  have BP7 := hid_ (BP6.out.below hb7 BP6.out.lt)
  clear hb7 x0 y0 x1 y1 x2 y2 x3 y3 x4 y4 x5 y5 x6 y6 x7 y7 x8 y8 x9 y9 x10 y10
  have x0 := BP7.out.cell 0 _ rfl
  have x1 := BP7.out.cell 1 _ rfl
  have x2 := BP7.out.cell 2 _ rfl
  have x3 := BP7.out.cell 3 _ rfl
  have x4 := BP7.out.cell 4 _ rfl
  have x5 := BP7.out.cell 5 _ rfl
  have x6 := BP7.out.cell 6 _ rfl
  have x7 := BP7.out.cell 7 _ rfl
  have x8 := BP7.out.cell 8 _ rfl
  have x9 := BP7.out.cell 9 _ rfl
  have x10 := BP7.out.cell 10 _ rfl
  have hlt := BP7.out.lt
  have bt : ((tr : Int) != (tr : Int)) = false := by simp
  go_wp2_with fail
  refine Calls.mono (Hal.out _) ?_
  rintro e w8 ⟨rfl, hb8⟩
  have Hb8 := hid_ (below_call Hb7.out hb8)
  clear hb8 x0 x1 x2 x3 x4 x5 x6 x7 x8 x9 x10
  go_wp2_with fail
  go_ret
  exact boolIs_mk rfl Hb8.out
end Go.Proofs.Ytnpbokbfkdncmaa
