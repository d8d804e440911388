/-
  The walk of the law on what must be an Ask.
-/
import Derived.Test.YtnpbokbfkdncmaaZGM
import Derived.Test.YtnpbokbfkdncmaaZGS
import Derived.Test.YtnpbokbfkdncmaaZMsAlive
import Derived.Test.YtnpbokbfkdncmaaZSame01
import Derived.Deep.RegionHeld3
namespace Go.Proofs.Ytnpbokbfkdncmaa
set_option linter.unusedSimpArgs false
set_option linter.unusedVariables false
open Go.RowKit Ru
set_option maxRecDepth 100000 in
set_option maxHeartbeats 8000000 in
theorem mustNo_any (k : Int) (tr bn bd sn sd : Nat) (v : Int) (ok : Bool) (l1 : List SpanD) (l2 : List MemberD) (l3 : List Nat) (a1 : Option Addr) (c1 : Nat) (a2 : Option Addr) (c2 : Nat) (a3 : Option Addr) (c3 : Nat) (what : Int) (w : World)
    (hlt : ∀ W, Below w.heap.size w W → Calls Try.prog 5 #[.agg #[.int .i64 k, .int .u64 (tr : Nat), .int .u64 (bn : Nat), .int .u64 (bd : Nat), .int .u64 (sn : Nat), .int .u64 (sd : Nat), .int .i64 v, .bool ok, .slice a1 l1.length c1, .slice a2 l2.length c2, .slice a3 l3.length c3]] W (BoolIs W true))
    (hof : ∀ W, Below w.heap.size w W → Calls Try.prog 7 #[.agg #[.int .i64 k, .int .u64 (tr : Nat), .int .u64 (bn : Nat), .int .u64 (bd : Nat), .int .u64 (sn : Nat), .int .u64 (sd : Nat), .int .i64 v, .bool ok, .slice a1 l1.length c1, .slice a2 l2.length c2, .slice a3 l3.length c3]] W (fun e w2 => ∃ m, e = .returned (.tuple #[m, .int .i64 0]) ∧ (∀ W2, Calls Try.prog 13 #[m] W2 (FallsIn W2)) ∧ Below W.heap.size W w2)) (hk4 : k ≠ 4) (hk6 : k ≠ 6) :
    Calls Try.prog 4 #[.agg #[.int .i64 k, .int .u64 (tr : Nat), .int .u64 (bn : Nat), .int .u64 (bd : Nat), .int .u64 (sn : Nat), .int .u64 (sd : Nat), .int .i64 v, .bool ok, .slice a1 l1.length c1, .slice a2 l2.length c2, .slice a3 l3.length c3], .int .i64 what] w (BoolIs w true) := by
  have Hlt := hid_ hlt
  have Hof := hid_ hof
  have Hal := hid_ (fun W => msalive_any W)
  have Ha := hid_ (show Below w.heap.size w (w.alloc (.cells #[.int .i64 k, .int .u64 (tr : Nat), .int .u64 (bn : Nat), .int .u64 (bd : Nat), .int .u64 (sn : Nat), .int .u64 (sd : Nat), .int .i64 v, .bool ok, .slice a1 l1.length c1, .slice a2 l2.length c2, .slice a3 l3.length c3] 30)) from (Below.refl w.heap.size w).alloc (Nat.le_refl _) _)
  have BP := hid_ (whole_new w 30 #[.int .i64 k, .int .u64 (tr : Nat), .int .u64 (bn : Nat), .int .u64 (bd : Nat), .int .u64 (sn : Nat), .int .u64 (sd : Nat), .int .i64 v, .bool ok, .slice a1 l1.length c1, .slice a2 l2.length c2, .slice a3 l3.length c3])
  have ks := fun a b c d w => ask_self a b c d w
  have kn := fun a b c d w => ask_nself a b c d w
  have kz := fun w => zask_self w
  have kzn := fun w => zask_nself w
  have kb := fun a b w => ballot_nself a b w
  have e4 : (k == 4) = false := beq_eq_false_iff_ne.2 hk4
  have e6 : (k == 6) = false := beq_eq_false_iff_ne.2 hk6
  clear hk4 hk6
  clear hlt hof
  go_enter Try.func4, Try.ntmps4
  go_wp2_with fail
  refine Calls.mono (Hlt.out _ Ha.out) ?_
  rintro e w2 ⟨rfl, hbx⟩
  have Hb2 := hid_ (Ha.out.trans (hbx.mono Ha.out.size))
  have BP2 := hid_ (BP.out.below hbx BP.out.lt)
  clear hbx
  have x0 := BP2.out.cell 0 _ rfl
  have x1 := BP2.out.cell 1 _ rfl
  have x2 := BP2.out.cell 2 _ rfl
  have x3 := BP2.out.cell 3 _ rfl
  have x4 := BP2.out.cell 4 _ rfl
  have x5 := BP2.out.cell 5 _ rfl
  have x6 := BP2.out.cell 6 _ rfl
  have x7 := BP2.out.cell 7 _ rfl
  have x8 := BP2.out.cell 8 _ rfl
  have x9 := BP2.out.cell 9 _ rfl
  have x10 := BP2.out.cell 10 _ rfl
  go_wp2_with fail
  refine Calls.mono (Hof.out _ Hb2.out) ?_
  rintro e w3 ⟨m, rfl, hm, hbx⟩
  have Hm := hid_ hm
  clear hm
  have Hb3 := hid_ ((Hb2.out.trans (hbx.mono Hb2.out.size)))
  have BP3 := hid_ (BP2.out.below hbx BP2.out.lt)
  clear hbx x0 x1 x2 x3 x4 x5 x6 x7 x8 x9 x10
  go_wp2_with fail
  refine Calls.mono (must_falls m Hm.out _) ?_
  rintro e w4 ⟨rfl, hbx⟩
  have Hb4 := hid_ ((Hb3.out.trans (hbx.mono Hb3.out.size)).alloc (Hb3.out.trans (hbx.mono Hb3.out.size)).size (.cells #[.int .u64 0, .int .u64 0, .int .u64 0, .int .i64 0] 49))
  have BP4 := hid_ ((BP3.out.below hbx BP3.out.lt).alloc (.cells #[.int .u64 0, .int .u64 0, .int .u64 0, .int .i64 0] 49))
  have BQ4 := hid_ (whole_new w4 49 #[.int .u64 0, .int .u64 0, .int .u64 0, .int .i64 0])
  clear hbx
  have hz4 := (BP4.out.below (Below.refl _ _) BP4.out.lt).lt
  have x0 := BP4.out.cell 0 _ rfl
  have x1 := BP4.out.cell 1 _ rfl
  have x2 := BP4.out.cell 2 _ rfl
  have x3 := BP4.out.cell 3 _ rfl
  have x4 := BP4.out.cell 4 _ rfl
  have x5 := BP4.out.cell 5 _ rfl
  have x6 := BP4.out.cell 6 _ rfl
  have x7 := BP4.out.cell 7 _ rfl
  have x8 := BP4.out.cell 8 _ rfl
  have x9 := BP4.out.cell 9 _ rfl
  have x10 := BP4.out.cell 10 _ rfl
  have y0 := BQ4.out.cell 0 _ rfl
  have y1 := BQ4.out.cell 1 _ rfl
  have y2 := BQ4.out.cell 2 _ rfl
  have y3 := BQ4.out.cell 3 _ rfl
  go_wp2_with fail
  go_quiet (fail)
  clear x0 x1 x2 x3 x4 x5 x6 x7 x8 x9 x10 y0 y1 y2 y3 hz4
  go_wp2_with fail
  refine Calls.mono (packetNo_any _ (fun W => pckInt_any _ W) _) ?_
  rintro e w5 ⟨rfl, hbx⟩
  have Hb4 := hid_ (below_drewN Hb4.out nq)
  have Hb5 := hid_ ((Hb4.out.trans (hbx.mono Hb4.out.size)).alloc (Hb4.out.trans (hbx.mono Hb4.out.size)).size (.cells #[.int .i64 0, .int .u64 0, .int .u64 0, .int .u64 0, .int .u64 0, .int .u64 0, .int .i64 0, .bool false, .slice none 0 0, .slice none 0 0, .slice none 0 0] 30))
  clear hbx
  go_wp2_with fail
  refine Calls.mono (packetNo_any _ (fun W => pckPtr_any _ W) _) ?_
  rintro e w6 ⟨rfl, hbx⟩
  have Hb6 := hid_ ((Hb5.out.trans (hbx.mono Hb5.out.size)).alloc (Hb5.out.trans (hbx.mono Hb5.out.size)).size (.cells #[.int .i64 0, .int .u64 0, .int .u64 0, .int .u64 0, .int .u64 0, .int .u64 0, .int .i64 0, .bool false, .slice none 0 0, .slice none 0 0, .slice none 0 0] 30))
  clear hbx
  go_wp2_with fail
  refine Calls.mono (must_falls _ (fun W => mustask_Ptr _ W) _) ?_
  rintro e w7 ⟨rfl, hbx⟩
  have Hb7 := hid_ ((Hb6.out.trans (hbx.mono Hb6.out.size)).alloc (Hb6.out.trans (hbx.mono Hb6.out.size)).size (.cells #[.int .u64 0, .int .u64 0, .int .u64 0, .int .i64 0] 49))
  clear hbx
  go_wp2_with fail
  refine Calls.mono (traceInt_any _ _) ?_
  rintro e w8 ⟨rfl, hbx⟩
  have Hb8 := hid_ ((Hb7.out.trans (hbx.mono Hb7.out.size)))
  clear hbx
  go_wp2_with fail
  refine Calls.mono (Hal.out _) ?_
  rintro e w9 ⟨rfl, hbx⟩
  have Hb9 := hid_ ((Hb8.out.trans (hbx.mono Hb8.out.size)))
  go_wp2_with fail
  go_ret
  exact boolIs_mk rfl Hb9.out
end Go.Proofs.Ytnpbokbfkdncmaa
