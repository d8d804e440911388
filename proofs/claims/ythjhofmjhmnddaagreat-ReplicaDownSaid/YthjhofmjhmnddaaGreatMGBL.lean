/-
  Things: which type an interface value is of.
-/
import Derived.Test.YthjhofmjhmnddaaGreatMGAA
import Derived.Test.YthjhofmjhmnddaaGreatMGBE
import Derived.Test.YthjhofmjhmnddaaGreatMGBN
import Derived.Test.YthjhofmjhmnddaaGreatRows
import Derived.BigQuiet
set_option linter.unusedSimpArgs false
set_option linter.unusedVariables false
namespace Go.Proofs.YthjhofmjhmnddaaGreat
open Go.RowKit
abbrev zSpans : Value := .agg #[.int .u64 0, .bool false, .slice none 0 0]
abbrev zMembers : Value := .agg #[.slice none 0 0]
abbrev zAsk : Value := .agg #[.int .u64 0, .int .u64 0, .int .u64 0, .int .i64 0]
abbrev zReply : Value := .agg #[.int .u64 0, .int .u64 0, .int .u64 0, .bool false, .int .u64 0, .int .u64 0, .int .i64 0, .bool false]
abbrev zTold : Value := .agg #[.int .u64 0, .int .i64 0]
abbrev zStored : Value := .agg #[.int .u64 0, .int .u64 0, .int .u64 0, .slice none 0 0]
abbrev zAcked : Value := .agg #[.int .u64 0, .slice none 0 0]
theorem isAsk (v : Value) (w : World) : (Instr.typeAssert (.iface 95 v) 20 95 true).run Tryz.prog w = .ok (.tuple #[v, .bool true]) w := by kernel_rfl
theorem noAsk_nil (w : World) : (Instr.typeAssert .nilIface 20 95 true).run Tryz.prog w = .ok (.tuple #[zAsk, .bool false]) w := by kernel_rfl
theorem noAsk_Spans (v : Value) (w : World) : (Instr.typeAssert (.iface 170 v) 20 95 true).run Tryz.prog w = .ok (.tuple #[zAsk, .bool false]) w := by kernel_rfl
theorem noAsk_Members (v : Value) (w : World) : (Instr.typeAssert (.iface 173 v) 20 95 true).run Tryz.prog w = .ok (.tuple #[zAsk, .bool false]) w := by kernel_rfl
theorem noAsk_Reply (v : Value) (w : World) : (Instr.typeAssert (.iface 175 v) 20 95 true).run Tryz.prog w = .ok (.tuple #[zAsk, .bool false]) w := by kernel_rfl
theorem noAsk_Told (v : Value) (w : World) : (Instr.typeAssert (.iface 177 v) 20 95 true).run Tryz.prog w = .ok (.tuple #[zAsk, .bool false]) w := by kernel_rfl
theorem noAsk_Stored (v : Value) (w : World) : (Instr.typeAssert (.iface 179 v) 20 95 true).run Tryz.prog w = .ok (.tuple #[zAsk, .bool false]) w := by kernel_rfl
theorem noAsk_Acked (v : Value) (w : World) : (Instr.typeAssert (.iface 182 v) 20 95 true).run Tryz.prog w = .ok (.tuple #[zAsk, .bool false]) w := by kernel_rfl
end Go.Proofs.YthjhofmjhmnddaaGreat
/-
 What the program's written answers of a right packet.
-/
namespace Go.Proofs.YthjhofmjhmnddaaGreat
open Go.RowKit Ru
structure Wr (B : Nat) (w0 w : World) (A : Option Addr) (n c : Nat) (p : PackD) (pre post : List UInt8) : Prop where
 own : Own B w A n c pre
 all : pre ++ post = writtenF p
 len : (writtenF p).length ≤ 8192
 below : Below B w0 w
 pos : 0 < n
theorem Wr.size {B : Nat} {w0 w : World} {A : Option Addr} {n c : Nat} {p : PackD} {pre post : List UInt8} (h : Wr B w0 w A n c p pre post) : w0.heap.size ≤ w.heap.size := h.below.size
theorem Wr.alloc {B : Nat} {w0 w : World} {A : Option Addr} {n c : Nat} {p : PackD} {pre post : List UInt8} (h : Wr B w0 w A n c p pre post) (hB : B ≤ w.heap.size) (o : Obj) : Wr B w0 (w.alloc o) A n c p pre post :=
 ⟨h.own.alloc o, h.all, h.len, h.below.alloc hB o, h.pos⟩
def WrPost2 (B : Nat) (w0 w : World) (A0 : Option Addr) (p : PackD) (pre post : List UInt8) (e : Ending) (w' : World) : Prop := ∃ A n c, e = .returned (.slice A n c) ∧ Wr B w0 w' A n c p pre post ∧ Others w A0 w'
def WrPost (B : Nat) (w0 : World) (p : PackD) (pre post : List UInt8) (e : Ending) (w' : World) : Prop := ∃ A n c, e = .returned (.slice A n c) ∧ Wr B w0 w' A n c p pre post
theorem Wr.done {B B0 : Nat} {w w0 W : World} {A : Option Addr} {n c : Nat} {p : PackD} {pre : List UInt8} (h : Wr B w0 W A n c p pre []) (hB : B0 ≤ B) (hb : Below B0 w w0) : RowPost B0 w (writtenF p) (.returned (.slice A n c)) W :=
 rowPost_mk (h.own.mono hB) (by have := h.all; rwa [List.append_nil] at this) (hb.trans (h.below.mono hB))
end Go.Proofs.YthjhofmjhmnddaaGreat
/-
 A Tell as a thing: what Of and Trace answer of it.
-/
namespace Go.Proofs.YthjhofmjhmnddaaGreat
open Go.RowKit Ru
abbrev toldVal (tr : Nat) (v : Int) : Value := .iface 177 (.agg #[.int .u64 (tr : Nat), .int .i64 v])
end Go.Proofs.YthjhofmjhmnddaaGreat
/-
 What Of answers of a packet that is not right: nothing.
-/
namespace Go.Proofs.YthjhofmjhmnddaaGreat
open Go.RowKit Ru
set_option maxRecDepth 100000 in
set_option maxHeartbeats 4000000 in
theorem ofno_any (p : PackD) (s : PackS) (w : World) (hp : PackIn w p s) (hw : p.Wf) (hm : p.spans.length ≤ 1000000) (hr : rightP p = false) :
  Calls Tryz.prog 35 #[packVal p s] w fun e w' => e = .returned (.tuple #[.nilIface, .int .i64 6]) ∧ Below w.heap.size w w' := by
 have Ha := hid_ (show Below w.heap.size w (w.alloc (.cells (packCells p s) 41)) from (Below.refl _ _).alloc (Nat.le_refl _) _)
 have Hri := hid_ (fun (W : World) (hb : Below w.heap.size w W) => packright_any p s W (hp.below hb) hw hm)
 rw [hr, show kindP false = 6 from rfl] at Hri
 have e6 : ((6 : Int) != 0) = true := by decide
 clear hp hw hm hr
 go_enter Tryz.func35, Tryz.ntmps35
 go_wp2_with fail
 refine Calls.mono (Hri.out _ Ha.out) ?_
 rintro e w1 ⟨rfl, hb1⟩
 have Hb1 := hid_ (Ha.out.trans (hb1.mono Ha.out.size))
 clear hb1
 go_wp2_with fail
 go_ret2
 exact ⟨rfl, Hb1.out⟩
end Go.Proofs.YthjhofmjhmnddaaGreat
/-
 What Light tells of a packet.
-/
namespace Go.Proofs.YthjhofmjhmnddaaGreat
open Go.RowKit Ru
def Few (p : PackD) : Prop := p.spans.length ≤ 40 ∧ p.members.length ≤ 100 ∧ p.ids.length ≤ 100
instance fewDec (p : PackD) : Decidable (Few p) := by unfold Few; infer_instance
def okNm (s : SpanD) : Bool := decide (s.name.size ≤ 200) && decide (s.service.size ≤ 200)
def lightF (p : PackD) : Bool := decide (Few p) && p.spans.all okNm
theorem light_few {p : PackD} (h : lightF p = true) : Few p := by
 unfold lightF at h
 rw [Bool.and_eq_true, decide_eq_true_eq] at h
 exact h.1
theorem light_many {p : PackD} (h : ¬ Few p) : lightF p = false := by unfold lightF; rw [decide_eq_false h]; rfl
theorem light_long {p : PackD} {s : SpanD} (hs : s ∈ p.spans) (h : okNm s = false) : lightF p = false := by
 unfold lightF
 rw [List.all_eq_false.2 ⟨s, hs, by rw [h]; decide⟩, Bool.and_false]
theorem light_all {p : PackD} (h : Few p) (hs : ∀ j (hj : j < p.spans.length), okNm p.spans[j] = true) : lightF p = true := by
 unfold lightF
 rw [decide_eq_true h, Bool.true_and, List.all_eq_true]
 intro x hx
 obtain ⟨j, hj, rfl⟩ := List.getElem_of_mem hx
 exact hs j hj
set_option maxRecDepth 100000 in
set_option maxHeartbeats 4000000 in
theorem mslight_any (p : PackD) (s : PackS) (w : World) (hp : PackIn w p s) (hw : p.Wf) : Calls Tryz.prog 22 #[packVal p s] w (BoolIs w (lightF p)) := by
 have Hmany := hid_ (light_many (p := p))
 have Hlong := hid_ (fun s => light_long (p := p) (s := s))
 have Hall := hid_ (light_all (p := p))
 generalize lightF p = r at *
 have Hp := hid_ hp
 have q1 := hp.r1.cap
 have q2 := hp.r1.max
 have q3 := hp.r2.cap
 have q4 := hp.r2.max
 have q5 := hp.r3.cap
 have q6 := hp.r3.max
 have Hw := hid_ (fun s (h : s ∈ p.spans) => hw.spans s h)
 clear hp hw
 unfold Few at Hmany Hall
 obtain ⟨kd, tr, bn, bd, sn, sd, v, ok, l1, l2, l3⟩ := p
 obtain ⟨a1, e1, a2, e2, a3, e3⟩ := s
 simp only at q1 q2 q3 q4 q5 q6 Hmany Hlong Hall Hw
 have Ha := hid_ (show Below w.heap.size w (w.alloc (.cells (packCells ⟨kd, tr, bn, bd, sn, sd, v, ok, l1, l2, l3⟩ ⟨a1, e1, a2, e2, a3, e3⟩) 41)) from (Below.refl _ _).alloc (Nat.le_refl _) _)
 have Hr := hid_ (show SpanRow w a1 l1.length e1 l1 from Hp.out.r1)
 by_cases h1 : 40 < l1.length
 ·have t1 : decide ((40 : Int) < (l1.length : Int)) = true := decide_eq_true (by omega)
  have Hf := hid_ (Hmany.out (by omega))
  clear h1
  go_enter Tryz.func22, Tryz.ntmps22
  go_wp2_with fail
  go_ret
  exact boolIs_mk Hf.out Ha.out
 have t1 : decide ((40 : Int) < (l1.length : Int)) = false := decide_eq_false (by omega)
 by_cases h2 : 100 < l2.length
 ·have t2 : decide ((100 : Int) < (l2.length : Int)) = true := decide_eq_true (by omega)
  have Hf := hid_ (Hmany.out (by omega))
  go_enter Tryz.func22, Tryz.ntmps22
  go_wp2_with fail
  go_ret
  exact boolIs_mk Hf.out Ha.out
 have t2 : decide ((100 : Int) < (l2.length : Int)) = false := decide_eq_false (by omega)
 by_cases h3 : 100 < l3.length
 ·have t3 : decide ((100 : Int) < (l3.length : Int)) = true := decide_eq_true (by omega)
  have Hf := hid_ (Hmany.out (by omega))
  go_enter Tryz.func22, Tryz.ntmps22
  go_wp2_with fail
  go_ret
  exact boolIs_mk Hf.out Ha.out
 have t3 : decide ((100 : Int) < (l3.length : Int)) = false := decide_eq_false (by omega)
 have Hfew := hid_ (show l1.length ≤ 40 ∧ l2.length ≤ 100 ∧ l3.length ≤ 100 by omega)
 go_enter Tryz.func22, Tryz.ntmps22
 go_wp2_with fail
 go_loop [3] (fun vi => ∃ k : Nat, k ≤ l1.length ∧ vi = .int .i64 (k : Nat) ∧ Hid (∀ j (hj : j < l1.length), j < k → okNm l1[j] = true)) (fun vi => l1.length - (intOf vi).toNat)
 case atStart => exact ⟨0, Nat.zero_le _, rfl, hid_ (fun j _ h => absurd h (by omega))⟩
 case round =>
  obtain ⟨k, hk, rfl, Hg⟩ := hrel
  by_cases hlt : k < l1.length
  ·obtain ⟨b, off, rfl, hc⟩ := Hr.out.at_ hlt
   have hbw := hc.lt
   obtain ⟨c0, c1, c2, c3, c4, c5, c6, c7⟩ := hc
   have y1 : (k : Int) < (l1.length : Int) := by omega
   have y2 : (0 : Int) ≤ (k : Int) := by omega
   have hx := Hw.out l1[k] (List.getElem_mem hlt)
   have z1 := hx.name
   have z2 := hx.service
   clear hx
   have Hbad := hid_ (Hlong.out l1[k] (List.getElem_mem hlt))
   have Hn := hid_ (fun (h : okNm l1[k] = true) => show ∀ j (hj : j < l1.length), j < k + 1 → okNm l1[j] = true from fun j hj h2 => by
    by_cases e : j = k
    ·subst e; exact h
    ·exact Hg.out j hj (by omega))
   generalize l1[k] = x at *
   by_cases n1 : 200 < x.name.size
   ·have g3 : decide ((200 : Int) < (x.name.size : Int)) = true := decide_eq_true (by omega)
    have Hf := hid_ (Hbad.out (by unfold okNm; rw [decide_eq_false (show ¬ x.name.size ≤ 200 by omega)]; rfl))
    go_wp2_with fail
    go_ret
    exact boolIs_mk Hf.out Ha.out
   have g3 : decide ((200 : Int) < (x.name.size : Int)) = false := decide_eq_false (by omega)
   by_cases n2 : 200 < x.service.size
   ·have g4 : decide ((200 : Int) < (x.service.size : Int)) = true := decide_eq_true (by omega)
    have Hf := hid_ (Hbad.out (by unfold okNm; rw [decide_eq_false (show ¬ x.service.size ≤ 200 by omega)]; simp))
    go_wp2_with fail
    go_ret
    exact boolIs_mk Hf.out Ha.out
   have g4 : decide ((200 : Int) < (x.service.size : Int)) = false := decide_eq_false (by omega)
   have Hn2 := hid_ (Hn.out (by unfold okNm; rw [decide_eq_true (show x.name.size ≤ 200 by omega), decide_eq_true (show x.service.size ≤ 200 by omega)]; rfl))
   go_wp2_with fail
   go_round
   case rel => exact ⟨k + 1, by omega, by go_num, Hn2⟩
   case measure => simp [intOf] <;> omega
  ·obtain rfl : k = l1.length := by omega
   go_wp2_with fail
   go_ret
   exact boolIs_mk (Hall.out Hfew.out (fun j hj => Hg.out j hj hj)) Ha.out
end Go.Proofs.YthjhofmjhmnddaaGreat
