/-
  Packet and Trace of the thing of a right packet, by kinds.
-/
import Derived.Test.YtnpbokbfkdncmaaZForms
import Derived.Test.YtnpbokbfkdncmaaZOfs
import Derived.Test.YtnpbokbfkdncmaaZPacket1
import Derived.Test.YtnpbokbfkdncmaaZPacket2
import Derived.Test.YtnpbokbfkdncmaaZPacket3
namespace Go.Proofs.Ytnpbokbfkdncmaa
set_option linter.unusedSimpArgs false
set_option linter.unusedVariables false
open Go.RowKit Ru
theorem below_call {a W w8 : World} {o : Obj} (h : Below a.heap.size a W) (hb : Below (W.alloc o).heap.size (W.alloc o) w8) : Below a.heap.size a w8 := (h.alloc h.size o).trans (hb.mono (h.alloc h.size o).size)
theorem pkt1_any {tr bn bd sn sd : Nat} {v : Int} {ok : Bool} {l1 : List SpanD} {l2 : List MemberD} {l3 : List Nat} (hr : rightP ⟨1, tr, bn, bd, sn, sd, v, ok, l1, l2, l3⟩ = true) (hw : PackD.Wf ⟨1, tr, bn, bd, sn, sd, v, ok, l1, l2, l3⟩) (A : Option Addr) (c : Nat) (w : World) (hrow : SpanRow w A l1.length c l1) (hm : l1.length ≤ 1000) :
    Calls Try.prog 9 #[.iface 43 (.agg #[.int .u64 (tr : Nat), .bool false, .slice A l1.length c])] w (PkPost w ⟨1, tr, bn, bd, sn, sd, v, ok, l1, l2, l3⟩) := by
  obtain ⟨e0, e1, e2, e3, e4, e5, e6, e7, hne⟩ := form1 hr
  subst e0
  subst e1
  subst e2
  subst e3
  subst e4
  subst e5
  subst e6
  subst e7
  exact packet1_any _ 1 tr 0 0 0 0 0 false l1 A c w (fun W => pck1_any tr A l1.length c W) ⟨hrow, (MemRow.none _), (Row.none _)⟩ hw hr hrow hm hne
theorem trt1_any {tr bn bd sn sd : Nat} {v : Int} {ok : Bool} {l1 : List SpanD} {l2 : List MemberD} {l3 : List Nat} (hr : rightP ⟨1, tr, bn, bd, sn, sd, v, ok, l1, l2, l3⟩ = true) (A : Option Addr) (c : Nat) (w : World) :
    Calls Try.prog 10 #[.iface 43 (.agg #[.int .u64 (tr : Nat), .bool false, .slice A l1.length c])] w fun e w' => e = .returned (.tuple #[.int .u64 (tr : Nat), .bool true]) ∧ Below w.heap.size w w' := by
  obtain ⟨e0, e1, e2, e3, e4, e5, e6, e7, hne⟩ := form1 hr
  subst e0
  subst e1
  subst e2
  subst e3
  subst e4
  subst e5
  subst e6
  subst e7
  exact tr1k_any tr A l1.length c w
theorem pkt2_any {tr bn bd sn sd : Nat} {v : Int} {ok : Bool} {l1 : List SpanD} {l2 : List MemberD} {l3 : List Nat} (hr : rightP ⟨2, tr, bn, bd, sn, sd, v, ok, l1, l2, l3⟩ = true) (hw : PackD.Wf ⟨2, tr, bn, bd, sn, sd, v, ok, l1, l2, l3⟩) (A : Option Addr) (c : Nat) (w : World) (hrow : SpanRow w A l1.length c l1) (hm : l1.length ≤ 1000) :
    Calls Try.prog 9 #[.iface 43 (.agg #[.int .u64 (tr : Nat), .bool true, .slice A l1.length c])] w (PkPost w ⟨2, tr, bn, bd, sn, sd, v, ok, l1, l2, l3⟩) := by
  obtain ⟨e0, e1, e2, e3, e4, e5, e6, e7, hne⟩ := form2 hr
  subst e0
  subst e1
  subst e2
  subst e3
  subst e4
  subst e5
  subst e6
  subst e7
  exact packet1_any _ 2 tr 0 0 0 0 0 false l1 A c w (fun W => pck2_any tr A l1.length c W) ⟨hrow, (MemRow.none _), (Row.none _)⟩ hw hr hrow hm hne
theorem trt2_any {tr bn bd sn sd : Nat} {v : Int} {ok : Bool} {l1 : List SpanD} {l2 : List MemberD} {l3 : List Nat} (hr : rightP ⟨2, tr, bn, bd, sn, sd, v, ok, l1, l2, l3⟩ = true) (A : Option Addr) (c : Nat) (w : World) :
    Calls Try.prog 10 #[.iface 43 (.agg #[.int .u64 (tr : Nat), .bool true, .slice A l1.length c])] w fun e w' => e = .returned (.tuple #[.int .u64 (tr : Nat), .bool true]) ∧ Below w.heap.size w w' := by
  obtain ⟨e0, e1, e2, e3, e4, e5, e6, e7, hne⟩ := form2 hr
  subst e0
  subst e1
  subst e2
  subst e3
  subst e4
  subst e5
  subst e6
  subst e7
  exact tr2k_any tr A l1.length c w
theorem pkt3_any {tr bn bd sn sd : Nat} {v : Int} {ok : Bool} {l1 : List SpanD} {l2 : List MemberD} {l3 : List Nat} (hr : rightP ⟨3, tr, bn, bd, sn, sd, v, ok, l1, l2, l3⟩ = true) (hw : PackD.Wf ⟨3, tr, bn, bd, sn, sd, v, ok, l1, l2, l3⟩) (A : Option Addr) (c : Nat) (w : World) (hrow : MemRow w A l2.length c l2) (hm : l2.length ≤ 1000) :
    Calls Try.prog 9 #[.iface 46 (.agg #[.slice A l2.length c])] w (PkPost w ⟨3, tr, bn, bd, sn, sd, v, ok, l1, l2, l3⟩) := by
  obtain ⟨e0, e1, e2, e3, e4, e5, e6, e7, e8, hne⟩ := form3 hr
  subst e0
  subst e1
  subst e2
  subst e3
  subst e4
  subst e5
  subst e6
  subst e7
  subst e8
  exact packet2_any _ 3 0 0 0 0 0 0 false l2 A c w (fun W => pck3_any A l2.length c W) ⟨(⟨fun h => absurd rfl h, rfl, Nat.le_refl _, by show (0 : Nat) ≤ _; omega, fun _ => rfl⟩ : SpanRow _ none 0 0 []), hrow, (Row.none _)⟩ hw hr hrow hm hne
theorem trt3_any {tr bn bd sn sd : Nat} {v : Int} {ok : Bool} {l1 : List SpanD} {l2 : List MemberD} {l3 : List Nat} (hr : rightP ⟨3, tr, bn, bd, sn, sd, v, ok, l1, l2, l3⟩ = true) (A : Option Addr) (c : Nat) (w : World) :
    Calls Try.prog 10 #[.iface 46 (.agg #[.slice A l2.length c])] w fun e w' => e = .returned (.tuple #[.int .u64 (tr : Nat), .bool false]) ∧ Below w.heap.size w w' := by
  obtain ⟨e0, e1, e2, e3, e4, e5, e6, e7, e8, hne⟩ := form3 hr
  subst e0
  subst e1
  subst e2
  subst e3
  subst e4
  subst e5
  subst e6
  subst e7
  subst e8
  exact tr3k_any A l2.length c w
theorem pkt4_any {tr bn bd sn sd : Nat} {v : Int} {ok : Bool} {l1 : List SpanD} {l2 : List MemberD} {l3 : List Nat} (hr : rightP ⟨4, tr, bn, bd, sn, sd, v, ok, l1, l2, l3⟩ = true) (hw : PackD.Wf ⟨4, tr, bn, bd, sn, sd, v, ok, l1, l2, l3⟩) (w : World) :
    Calls Try.prog 9 #[vAsk tr bn bd v] w (PkPost w ⟨4, tr, bn, bd, sn, sd, v, ok, l1, l2, l3⟩) := by
  obtain ⟨e0, e1, e2, e3, e4, e5, e6⟩ := form4 hr
  subst e0
  subst e1
  subst e2
  subst e3
  subst e4
  subst e5
  subst e6
  exact packet0_any _ 4 tr bn bd 0 0 0 false w (fun W => pck4_any tr bn bd W) (packIn_none _ _ rfl rfl rfl) hw hr
theorem trt4_any {tr bn bd sn sd : Nat} {v : Int} {ok : Bool} {l1 : List SpanD} {l2 : List MemberD} {l3 : List Nat} (hr : rightP ⟨4, tr, bn, bd, sn, sd, v, ok, l1, l2, l3⟩ = true) (w : World) :
    Calls Try.prog 10 #[vAsk tr bn bd v] w fun e w' => e = .returned (.tuple #[.int .u64 (tr : Nat), .bool true]) ∧ Below w.heap.size w w' := by
  obtain ⟨e0, e1, e2, e3, e4, e5, e6⟩ := form4 hr
  subst e0
  subst e1
  subst e2
  subst e3
  subst e4
  subst e5
  subst e6
  exact tr4k_any tr bn bd w
theorem pkt5_any {tr bn bd sn sd : Nat} {v : Int} {ok : Bool} {l1 : List SpanD} {l2 : List MemberD} {l3 : List Nat} (hr : rightP ⟨5, tr, bn, bd, sn, sd, v, ok, l1, l2, l3⟩ = true) (hw : PackD.Wf ⟨5, tr, bn, bd, sn, sd, v, ok, l1, l2, l3⟩) (w : World) :
    Calls Try.prog 9 #[vReply tr bn bd ok sn sd v false] w (PkPost w ⟨5, tr, bn, bd, sn, sd, v, ok, l1, l2, l3⟩) := by
  obtain ⟨e0, e1, e2⟩ := form5 hr
  subst e0
  subst e1
  subst e2
  exact packet0_any _ 5 tr bn bd sn sd v ok w (fun W => pck5_any tr bn bd ok sn sd v W) (packIn_none _ _ rfl rfl rfl) hw hr
theorem trt5_any {tr bn bd sn sd : Nat} {v : Int} {ok : Bool} {l1 : List SpanD} {l2 : List MemberD} {l3 : List Nat} (hr : rightP ⟨5, tr, bn, bd, sn, sd, v, ok, l1, l2, l3⟩ = true) (w : World) :
    Calls Try.prog 10 #[vReply tr bn bd ok sn sd v false] w fun e w' => e = .returned (.tuple #[.int .u64 (tr : Nat), .bool true]) ∧ Below w.heap.size w w' := by
  obtain ⟨e0, e1, e2⟩ := form5 hr
  subst e0
  subst e1
  subst e2
  exact tr5k_any tr bn bd ok sn sd v w
theorem pkt6_any {tr bn bd sn sd : Nat} {v : Int} {ok : Bool} {l1 : List SpanD} {l2 : List MemberD} {l3 : List Nat} (hr : rightP ⟨6, tr, bn, bd, sn, sd, v, ok, l1, l2, l3⟩ = true) (hw : PackD.Wf ⟨6, tr, bn, bd, sn, sd, v, ok, l1, l2, l3⟩) (w : World) :
    Calls Try.prog 9 #[vAsk tr bn bd v] w (PkPost w ⟨6, tr, bn, bd, sn, sd, v, ok, l1, l2, l3⟩) := by
  obtain ⟨e0, e1, e2, e3, e4, e5, hv⟩ := form6 hr
  subst e0
  subst e1
  subst e2
  subst e3
  subst e4
  subst e5
  exact packet0_any _ 6 tr bn bd 0 0 v false w (fun W => pck6_any tr bn bd v W hv) (packIn_none _ _ rfl rfl rfl) hw hr
theorem trt6_any {tr bn bd sn sd : Nat} {v : Int} {ok : Bool} {l1 : List SpanD} {l2 : List MemberD} {l3 : List Nat} (hr : rightP ⟨6, tr, bn, bd, sn, sd, v, ok, l1, l2, l3⟩ = true) (w : World) :
    Calls Try.prog 10 #[vAsk tr bn bd v] w fun e w' => e = .returned (.tuple #[.int .u64 (tr : Nat), .bool true]) ∧ Below w.heap.size w w' := by
  obtain ⟨e0, e1, e2, e3, e4, e5, hv⟩ := form6 hr
  subst e0
  subst e1
  subst e2
  subst e3
  subst e4
  subst e5
  exact tr6k_any tr bn bd v w hv
theorem pkt7_any {tr bn bd sn sd : Nat} {v : Int} {ok : Bool} {l1 : List SpanD} {l2 : List MemberD} {l3 : List Nat} (hr : rightP ⟨7, tr, bn, bd, sn, sd, v, ok, l1, l2, l3⟩ = true) (hw : PackD.Wf ⟨7, tr, bn, bd, sn, sd, v, ok, l1, l2, l3⟩) (w : World) :
    Calls Try.prog 9 #[vReply tr bn bd ok sn sd v true] w (PkPost w ⟨7, tr, bn, bd, sn, sd, v, ok, l1, l2, l3⟩) := by
  obtain ⟨e0, e1, e2, e3⟩ := form7 hr
  subst e0
  subst e1
  subst e2
  subst e3
  exact packet0_any _ 7 tr bn bd sn sd 0 ok w (fun W => pck7_any tr bn bd ok sn sd 0 W) (packIn_none _ _ rfl rfl rfl) hw hr
theorem trt7_any {tr bn bd sn sd : Nat} {v : Int} {ok : Bool} {l1 : List SpanD} {l2 : List MemberD} {l3 : List Nat} (hr : rightP ⟨7, tr, bn, bd, sn, sd, v, ok, l1, l2, l3⟩ = true) (w : World) :
    Calls Try.prog 10 #[vReply tr bn bd ok sn sd v true] w fun e w' => e = .returned (.tuple #[.int .u64 (tr : Nat), .bool true]) ∧ Below w.heap.size w w' := by
  obtain ⟨e0, e1, e2, e3⟩ := form7 hr
  subst e0
  subst e1
  subst e2
  subst e3
  exact tr7k_any tr bn bd ok sn sd 0 w
theorem pkt8_any {tr bn bd sn sd : Nat} {v : Int} {ok : Bool} {l1 : List SpanD} {l2 : List MemberD} {l3 : List Nat} (hr : rightP ⟨8, tr, bn, bd, sn, sd, v, ok, l1, l2, l3⟩ = true) (hw : PackD.Wf ⟨8, tr, bn, bd, sn, sd, v, ok, l1, l2, l3⟩) (w : World) :
    Calls Try.prog 9 #[vTold tr v] w (PkPost w ⟨8, tr, bn, bd, sn, sd, v, ok, l1, l2, l3⟩) := by
  obtain ⟨e0, e1, e2, e3, e4, e5, e6, e7⟩ := form8 hr
  subst e0
  subst e1
  subst e2
  subst e3
  subst e4
  subst e5
  subst e6
  subst e7
  exact packet0_any _ 8 tr 0 0 0 0 v false w (fun W => pck8_any tr v W) (packIn_none _ _ rfl rfl rfl) hw hr
theorem trt8_any {tr bn bd sn sd : Nat} {v : Int} {ok : Bool} {l1 : List SpanD} {l2 : List MemberD} {l3 : List Nat} (hr : rightP ⟨8, tr, bn, bd, sn, sd, v, ok, l1, l2, l3⟩ = true) (w : World) :
    Calls Try.prog 10 #[vTold tr v] w fun e w' => e = .returned (.tuple #[.int .u64 (tr : Nat), .bool true]) ∧ Below w.heap.size w w' := by
  obtain ⟨e0, e1, e2, e3, e4, e5, e6, e7⟩ := form8 hr
  subst e0
  subst e1
  subst e2
  subst e3
  subst e4
  subst e5
  subst e6
  subst e7
  exact tr8k_any tr v w
theorem pkt9_any {tr bn bd sn sd : Nat} {v : Int} {ok : Bool} {l1 : List SpanD} {l2 : List MemberD} {l3 : List Nat} (hr : rightP ⟨9, tr, bn, bd, sn, sd, v, ok, l1, l2, l3⟩ = true) (hw : PackD.Wf ⟨9, tr, bn, bd, sn, sd, v, ok, l1, l2, l3⟩) (A : Option Addr) (c : Nat) (w : World) (hrow : SpanRow w A l1.length c l1) (hm : l1.length ≤ 1000) :
    Calls Try.prog 9 #[.iface 58 (.agg #[.int .u64 (tr : Nat), .int .u64 (bn : Nat), .int .u64 (bd : Nat), .slice A l1.length c])] w (PkPost w ⟨9, tr, bn, bd, sn, sd, v, ok, l1, l2, l3⟩) := by
  obtain ⟨e0, e1, e2, e3, e4, e5, hne⟩ := form9 hr
  subst e0
  subst e1
  subst e2
  subst e3
  subst e4
  subst e5
  exact packet1_any _ 9 tr bn bd 0 0 0 false l1 A c w (fun W => pck9_any tr bn bd A l1.length c W) ⟨hrow, (MemRow.none _), (Row.none _)⟩ hw hr hrow hm hne
theorem trt9_any {tr bn bd sn sd : Nat} {v : Int} {ok : Bool} {l1 : List SpanD} {l2 : List MemberD} {l3 : List Nat} (hr : rightP ⟨9, tr, bn, bd, sn, sd, v, ok, l1, l2, l3⟩ = true) (A : Option Addr) (c : Nat) (w : World) :
    Calls Try.prog 10 #[.iface 58 (.agg #[.int .u64 (tr : Nat), .int .u64 (bn : Nat), .int .u64 (bd : Nat), .slice A l1.length c])] w fun e w' => e = .returned (.tuple #[.int .u64 (tr : Nat), .bool true]) ∧ Below w.heap.size w w' := by
  obtain ⟨e0, e1, e2, e3, e4, e5, hne⟩ := form9 hr
  subst e0
  subst e1
  subst e2
  subst e3
  subst e4
  subst e5
  exact tr9k_any tr bn bd A l1.length c w
theorem pkt10_any {tr bn bd sn sd : Nat} {v : Int} {ok : Bool} {l1 : List SpanD} {l2 : List MemberD} {l3 : List Nat} (hr : rightP ⟨10, tr, bn, bd, sn, sd, v, ok, l1, l2, l3⟩ = true) (hw : PackD.Wf ⟨10, tr, bn, bd, sn, sd, v, ok, l1, l2, l3⟩) (A : Option Addr) (c : Nat) (w : World) (hrow : Row w A l3.length c (idVals l3)) (hm : l3.length ≤ 1000) :
    Calls Try.prog 9 #[.iface 61 (.agg #[.int .u64 (tr : Nat), .slice A l3.length c])] w (PkPost w ⟨10, tr, bn, bd, sn, sd, v, ok, l1, l2, l3⟩) := by
  obtain ⟨e0, e1, e2, e3, e4, e5, e6, e7, hne⟩ := form10 hr
  subst e0
  subst e1
  subst e2
  subst e3
  subst e4
  subst e5
  subst e6
  subst e7
  exact packet3_any _ 10 tr 0 0 0 0 0 false l3 A c w (fun W => pck10_any tr A l3.length c W) ⟨(⟨fun h => absurd rfl h, rfl, Nat.le_refl _, by show (0 : Nat) ≤ _; omega, fun _ => rfl⟩ : SpanRow _ none 0 0 []), (MemRow.none _), hrow⟩ hw hr hrow hm hne
theorem trt10_any {tr bn bd sn sd : Nat} {v : Int} {ok : Bool} {l1 : List SpanD} {l2 : List MemberD} {l3 : List Nat} (hr : rightP ⟨10, tr, bn, bd, sn, sd, v, ok, l1, l2, l3⟩ = true) (A : Option Addr) (c : Nat) (w : World) :
    Calls Try.prog 10 #[.iface 61 (.agg #[.int .u64 (tr : Nat), .slice A l3.length c])] w fun e w' => e = .returned (.tuple #[.int .u64 (tr : Nat), .bool true]) ∧ Below w.heap.size w w' := by
  obtain ⟨e0, e1, e2, e3, e4, e5, e6, e7, hne⟩ := form10 hr
  subst e0
  subst e1
  subst e2
  subst e3
  subst e4
  subst e5
  subst e6
  subst e7
  exact tr10k_any tr A l3.length c w
end Go.Proofs.Ytnpbokbfkdncmaa
