/-
  The walk of the law on what must be an Ask.
-/
import Derived.Test.YtnpbokbfkdncmaaZGM
import Derived.Test.YtnpbokbfkdncmaaZGS
import Derived.Test.YtnpbokbfkdncmaaZMsAlive
import Derived.Test.YtnpbokbfkdncmaaZSame01
import Derived.Deep.RegionHeld3
namespace Go.Proofs.Ytnpbokbfkdncmaa
set_option linter.unusedSimpArgs false
set_option linter.unusedVariables false
open Go.RowKit Ru
set_option maxRecDepth 100000 in
set_option maxHeartbeats 8000000 in
theorem mustWrong_any (k : Int) (tr bn bd sn sd : Nat) (v : Int) (ok : Bool) (l1 : List SpanD) (l2 : List MemberD) (l3 : List Nat) (a1 : Option Addr) (c1 : Nat) (a2 : Option Addr) (c2 : Nat) (a3 : Option Addr) (c3 : Nat) (what : Int) (w : World)
    (hlt : ∀ W, Below w.heap.size w W → Calls Try.prog 5 #[.agg #[.int .i64 k, .int .u64 (tr : Nat), .int .u64 (bn : Nat), .int .u64 (bd : Nat), .int .u64 (sn : Nat), .int .u64 (sd : Nat), .int .i64 v, .bool ok, .slice a1 l1.length c1, .slice a2 l2.length c2, .slice a3 l3.length c3]] W (BoolIs W true))
    (hof : ∀ W, Below w.heap.size w W → Calls Try.prog 7 #[.agg #[.int .i64 k, .int .u64 (tr : Nat), .int .u64 (bn : Nat), .int .u64 (bd : Nat), .int .u64 (sn : Nat), .int .u64 (sd : Nat), .int .i64 v, .bool ok, .slice a1 l1.length c1, .slice a2 l2.length c2, .slice a3 l3.length c3]] W (fun e w2 => e = .returned (.tuple #[.nilIface, .int .i64 6]) ∧ Below W.heap.size W w2)) :
    Calls Try.prog 4 #[.agg #[.int .i64 k, .int .u64 (tr : Nat), .int .u64 (bn : Nat), .int .u64 (bd : Nat), .int .u64 (sn : Nat), .int .u64 (sd : Nat), .int .i64 v, .bool ok, .slice a1 l1.length c1, .slice a2 l2.length c2, .slice a3 l3.length c3], .int .i64 what] w (BoolIs w true) := by
  have Hlt := hid_ hlt
  have Hof := hid_ hof
  have Hal := hid_ (fun W => msalive_any W)
  have Ha := hid_ (show Below w.heap.size w (w.alloc (.cells #[.int .i64 k, .int .u64 (tr : Nat), .int .u64 (bn : Nat), .int .u64 (bd : Nat), .int .u64 (sn : Nat), .int .u64 (sd : Nat), .int .i64 v, .bool ok, .slice a1 l1.length c1, .slice a2 l2.length c2, .slice a3 l3.length c3] 30)) from (Below.refl w.heap.size w).alloc (Nat.le_refl _) _)
  have BP := hid_ (whole_new w 30 #[.int .i64 k, .int .u64 (tr : Nat), .int .u64 (bn : Nat), .int .u64 (bd : Nat), .int .u64 (sn : Nat), .int .u64 (sd : Nat), .int .i64 v, .bool ok, .slice a1 l1.length c1, .slice a2 l2.length c2, .slice a3 l3.length c3])
  have ks := fun a b c d w => ask_self a b c d w
  have kn := fun a b c d w => ask_nself a b c d w
  have kz := fun w => zask_self w
  have kzn := fun w => zask_nself w
  have kb := fun a b w => ballot_nself a b w
  clear hlt hof
  go_enter Try.func4, Try.ntmps4
  go_wp2_with fail
  refine Calls.mono (Hlt.out _ Ha.out) ?_
  rintro e w2 ⟨rfl, hbx⟩
  have Hb2 := hid_ (Ha.out.trans (hbx.mono Ha.out.size))
  have BP2 := hid_ (BP.out.below hbx BP.out.lt)
  clear hbx
  have x0 := BP2.out.cell 0 _ rfl
  have x1 := BP2.out.cell 1 _ rfl
  have x2 := BP2.out.cell 2 _ rfl
  have x3 := BP2.out.cell 3 _ rfl
  have x4 := BP2.out.cell 4 _ rfl
  have x5 := BP2.out.cell 5 _ rfl
  have x6 := BP2.out.cell 6 _ rfl
  have x7 := BP2.out.cell 7 _ rfl
  have x8 := BP2.out.cell 8 _ rfl
  have x9 := BP2.out.cell 9 _ rfl
  have x10 := BP2.out.cell 10 _ rfl
  go_wp2_with fail
  refine Calls.mono (Hof.out _ Hb2.out) ?_
  rintro e w3 ⟨rfl, hbx⟩
  have Hb3 := hid_ ((Hb2.out.trans (hbx.mono Hb2.out.size)))
  clear hbx x0 x1 x2 x3 x4 x5 x6 x7 x8 x9 x10
  go_wp2_with fail
  refine Calls.mono (must_falls _ (fun W => mustask_nil W) _) ?_
  rintro e w4 ⟨rfl, hbx⟩
  have Hb4 := hid_ ((Hb3.out.trans (hbx.mono Hb3.out.size)).alloc (Hb3.out.trans (hbx.mono Hb3.out.size)).size (.cells #[.int .u64 0, .int .u64 0, .int .u64 0, .int .i64 0] 49))
  clear hbx
  have hz : w4.heap.size < (w4.alloc (.cells #[.int .u64 0, .int .u64 0, .int .u64 0, .int .i64 0] 49)).heap.size := by simp
  go_wp2_with fail
  refine Calls.mono (Hal.out _) ?_
  rintro e w5 ⟨rfl, hbx⟩
  have Hb5 := hid_ ((Hb4.out.trans (hbx.mono Hb4.out.size)))
  go_wp2_with fail
  go_ret
  exact boolIs_mk rfl Hb5.out
end Go.Proofs.Ytnpbokbfkdncmaa
