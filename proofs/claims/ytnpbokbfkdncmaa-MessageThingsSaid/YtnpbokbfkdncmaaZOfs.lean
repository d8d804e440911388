/-
  What Of and Trace answer, by kinds.
-/
import Derived.Test.YtnpbokbfkdncmaaZThings
namespace Go.Proofs.Ytnpbokbfkdncmaa
set_option linter.unusedSimpArgs false
set_option linter.unusedVariables false
open Go.RowKit Ru
def OfP (R : World → Option Addr → Nat → Prop) (n : Nat) (V : Value → Value) (w : World) (e : Ending) (w' : World) : Prop := ∃ A c, e = .returned (.tuple #[V (.slice A n c), .int .i64 0]) ∧ R w' A c ∧ Below w.heap.size w w'
theorem ofP_mk {R : World → Option Addr → Nat → Prop} {n c : Nat} {A : Option Addr} {V : Value → Value} {v : Value} {w w' : World} (hv : v = .tuple #[V (.slice A n c), .int .i64 0]) (h : R w' A c) (hb : Below w.heap.size w w') : OfP R n V w (.returned v) w' := by rw [hv]; exact ⟨A, c, rfl, h, hb⟩
theorem listPost_plain {V : Value → Value} {w w' : World} {e : Ending} (h : e = .returned (V (.slice none 0 0)) ∧ Below w.heap.size w w') : ListPost (fun _ _ _ => True) 0 V w e w' := ⟨none, 0, h.1, trivial, h.2⟩
set_option maxRecDepth 100000 in
set_option maxHeartbeats 4000000 in
theorem of1k_any (tr bn bd sn sd : Nat) (v : Int) (ok : Bool) (l1 : List SpanD) (l2 : List MemberD) (l3 : List Nat) (a1 : Option Addr) (c1 : Nat) (a2 : Option Addr) (c2 : Nat) (a3 : Option Addr) (c3 : Nat) (w : World) (hp : PackIn w ⟨1, tr, bn, bd, sn, sd, v, ok, l1, l2, l3⟩ ⟨a1, c1, a2, c2, a3, c3⟩) (hw : PackD.Wf ⟨1, tr, bn, bd, sn, sd, v, ok, l1, l2, l3⟩) (hm : l1.length ≤ 1000 ∧ l2.length ≤ 1000 ∧ l3.length ≤ 1000) (hr : rightP ⟨1, tr, bn, bd, sn, sd, v, ok, l1, l2, l3⟩ = true) (hne : l1 ≠ []) :
    Calls Try.prog 7 #[.agg #[.int .i64 1, .int .u64 (tr : Nat), .int .u64 (bn : Nat), .int .u64 (bd : Nat), .int .u64 (sn : Nat), .int .u64 (sd : Nat), .int .i64 v, .bool ok, .slice a1 l1.length c1, .slice a2 l2.length c2, .slice a3 l3.length c3]] w (OfP (fun w2 A c => SpanRow w2 A l1.length c l1) l1.length (fun x => .iface 43 (.agg #[.int .u64 (tr : Nat), .bool false, x])) w) := by
  have Ha := hid_ (show Below w.heap.size w (w.alloc (.cells #[.int .i64 1, .int .u64 (tr : Nat), .int .u64 (bn : Nat), .int .u64 (bd : Nat), .int .u64 (sn : Nat), .int .u64 (sd : Nat), .int .i64 v, .bool ok, .slice a1 l1.length c1, .slice a2 l2.length c2, .slice a3 l3.length c3] 30)) from (Below.refl _ _).alloc (Nat.le_refl _) _)
  have B0 := hid_ (whole_new w 30 #[.int .i64 1, .int .u64 (tr : Nat), .int .u64 (bn : Nat), .int .u64 (bd : Nat), .int .u64 (sn : Nat), .int .u64 (sd : Nat), .int .i64 v, .bool ok, .slice a1 l1.length c1, .slice a2 l2.length c2, .slice a3 l3.length c3])
  have Hri := hid_ (fun (W : World) (hb : Below w.heap.size w W) => packright_any ⟨1, tr, bn, bd, sn, sd, v, ok, l1, l2, l3⟩ ⟨a1, c1, a2, c2, a3, c3⟩ W (hp.below hb) hw (by show l1.length ≤ _; omega))
  have Hth := hid_ (fun (W : World) (hb : Below w.heap.size w W) => show Calls Try.prog 18 #[.agg #[.int .i64 1, .int .u64 (tr : Nat), .int .u64 (bn : Nat), .int .u64 (bd : Nat), .int .u64 (sn : Nat), .int .u64 (sd : Nat), .int .i64 v, .bool ok, .slice a1 l1.length c1, .slice a2 l2.length c2, .slice a3 l3.length c3]] W (ListPost (fun w2 A c => SpanRow w2 A l1.length c l1) l1.length (fun x => .iface 43 (.agg #[.int .u64 (tr : Nat), .bool false, x])) W) from thing1k_any tr bn bd sn sd v ok l1 l2 l3 a1 c1 a2 c2 a3 c3 W (hp.below hb).r1 (by omega) hne)
  rw [hr] at Hri
  have ek : kindP true = 0 := rfl
  rw [ek] at Hri
  clear hp hw hm hr ek hne
  go_enter Try.func7, Try.ntmps7
  go_wp2_with fail
  refine Calls.mono (Hri.out _ Ha.out) ?_
  rintro e w1 ⟨rfl, hb1⟩
  have B1 := hid_ (B0.out.below hb1 B0.out.lt)
  have Hb1 := hid_ (Ha.out.trans (hb1.mono Ha.out.size))
  clear hb1
  have x0 := B1.out.cell 0 _ rfl
  have x1 := B1.out.cell 1 _ rfl
  have x2 := B1.out.cell 2 _ rfl
  have x3 := B1.out.cell 3 _ rfl
  have x4 := B1.out.cell 4 _ rfl
  have x5 := B1.out.cell 5 _ rfl
  have x6 := B1.out.cell 6 _ rfl
  have x7 := B1.out.cell 7 _ rfl
  have x8 := B1.out.cell 8 _ rfl
  have x9 := B1.out.cell 9 _ rfl
  have x10 := B1.out.cell 10 _ rfl
  go_wp2_with fail
  refine Calls.mono (Hth.out _ Hb1.out) ?_
  rintro e w2 ⟨A, c, rfl, hr2, hb2⟩
  have Hr2 := hid_ hr2
  have Hb2 := hid_ (Hb1.out.trans (hb2.mono Hb1.out.size))
  clear hb2 hr2
  simp only []
  go_wp2_with fail
  go_ret2
  exact ofP_mk (V := (fun x => .iface 43 (.agg #[.int .u64 (tr : Nat), .bool false, x]))) (A := A) (c := c) rfl Hr2.out Hb2.out
set_option maxRecDepth 100000 in
set_option maxHeartbeats 4000000 in
theorem of2k_any (tr bn bd sn sd : Nat) (v : Int) (ok : Bool) (l1 : List SpanD) (l2 : List MemberD) (l3 : List Nat) (a1 : Option Addr) (c1 : Nat) (a2 : Option Addr) (c2 : Nat) (a3 : Option Addr) (c3 : Nat) (w : World) (hp : PackIn w ⟨2, tr, bn, bd, sn, sd, v, ok, l1, l2, l3⟩ ⟨a1, c1, a2, c2, a3, c3⟩) (hw : PackD.Wf ⟨2, tr, bn, bd, sn, sd, v, ok, l1, l2, l3⟩) (hm : l1.length ≤ 1000 ∧ l2.length ≤ 1000 ∧ l3.length ≤ 1000) (hr : rightP ⟨2, tr, bn, bd, sn, sd, v, ok, l1, l2, l3⟩ = true) (hne : l1 ≠ []) :
    Calls Try.prog 7 #[.agg #[.int .i64 2, .int .u64 (tr : Nat), .int .u64 (bn : Nat), .int .u64 (bd : Nat), .int .u64 (sn : Nat), .int .u64 (sd : Nat), .int .i64 v, .bool ok, .slice a1 l1.length c1, .slice a2 l2.length c2, .slice a3 l3.length c3]] w (OfP (fun w2 A c => SpanRow w2 A l1.length c l1) l1.length (fun x => .iface 43 (.agg #[.int .u64 (tr : Nat), .bool true, x])) w) := by
  have Ha := hid_ (show Below w.heap.size w (w.alloc (.cells #[.int .i64 2, .int .u64 (tr : Nat), .int .u64 (bn : Nat), .int .u64 (bd : Nat), .int .u64 (sn : Nat), .int .u64 (sd : Nat), .int .i64 v, .bool ok, .slice a1 l1.length c1, .slice a2 l2.length c2, .slice a3 l3.length c3] 30)) from (Below.refl _ _).alloc (Nat.le_refl _) _)
  have B0 := hid_ (whole_new w 30 #[.int .i64 2, .int .u64 (tr : Nat), .int .u64 (bn : Nat), .int .u64 (bd : Nat), .int .u64 (sn : Nat), .int .u64 (sd : Nat), .int .i64 v, .bool ok, .slice a1 l1.length c1, .slice a2 l2.length c2, .slice a3 l3.length c3])
  have Hri := hid_ (fun (W : World) (hb : Below w.heap.size w W) => packright_any ⟨2, tr, bn, bd, sn, sd, v, ok, l1, l2, l3⟩ ⟨a1, c1, a2, c2, a3, c3⟩ W (hp.below hb) hw (by show l1.length ≤ _; omega))
  have Hth := hid_ (fun (W : World) (hb : Below w.heap.size w W) => show Calls Try.prog 18 #[.agg #[.int .i64 2, .int .u64 (tr : Nat), .int .u64 (bn : Nat), .int .u64 (bd : Nat), .int .u64 (sn : Nat), .int .u64 (sd : Nat), .int .i64 v, .bool ok, .slice a1 l1.length c1, .slice a2 l2.length c2, .slice a3 l3.length c3]] W (ListPost (fun w2 A c => SpanRow w2 A l1.length c l1) l1.length (fun x => .iface 43 (.agg #[.int .u64 (tr : Nat), .bool true, x])) W) from thing2k_any tr bn bd sn sd v ok l1 l2 l3 a1 c1 a2 c2 a3 c3 W (hp.below hb).r1 (by omega) hne)
  rw [hr] at Hri
  have ek : kindP true = 0 := rfl
  rw [ek] at Hri
  clear hp hw hm hr ek hne
  go_enter Try.func7, Try.ntmps7
  go_wp2_with fail
  refine Calls.mono (Hri.out _ Ha.out) ?_
  rintro e w1 ⟨rfl, hb1⟩
  have B1 := hid_ (B0.out.below hb1 B0.out.lt)
  have Hb1 := hid_ (Ha.out.trans (hb1.mono Ha.out.size))
  clear hb1
  have x0 := B1.out.cell 0 _ rfl
  have x1 := B1.out.cell 1 _ rfl
  have x2 := B1.out.cell 2 _ rfl
  have x3 := B1.out.cell 3 _ rfl
  have x4 := B1.out.cell 4 _ rfl
  have x5 := B1.out.cell 5 _ rfl
  have x6 := B1.out.cell 6 _ rfl
  have x7 := B1.out.cell 7 _ rfl
  have x8 := B1.out.cell 8 _ rfl
  have x9 := B1.out.cell 9 _ rfl
  have x10 := B1.out.cell 10 _ rfl
  go_wp2_with fail
  refine Calls.mono (Hth.out _ Hb1.out) ?_
  rintro e w2 ⟨A, c, rfl, hr2, hb2⟩
  have Hr2 := hid_ hr2
  have Hb2 := hid_ (Hb1.out.trans (hb2.mono Hb1.out.size))
  clear hb2 hr2
  simp only []
  go_wp2_with fail
  go_ret2
  exact ofP_mk (V := (fun x => .iface 43 (.agg #[.int .u64 (tr : Nat), .bool true, x]))) (A := A) (c := c) rfl Hr2.out Hb2.out
set_option maxRecDepth 100000 in
set_option maxHeartbeats 4000000 in
theorem of3k_any (tr bn bd sn sd : Nat) (v : Int) (ok : Bool) (l1 : List SpanD) (l2 : List MemberD) (l3 : List Nat) (a1 : Option Addr) (c1 : Nat) (a2 : Option Addr) (c2 : Nat) (a3 : Option Addr) (c3 : Nat) (w : World) (hp : PackIn w ⟨3, tr, bn, bd, sn, sd, v, ok, l1, l2, l3⟩ ⟨a1, c1, a2, c2, a3, c3⟩) (hw : PackD.Wf ⟨3, tr, bn, bd, sn, sd, v, ok, l1, l2, l3⟩) (hm : l1.length ≤ 1000 ∧ l2.length ≤ 1000 ∧ l3.length ≤ 1000) (hr : rightP ⟨3, tr, bn, bd, sn, sd, v, ok, l1, l2, l3⟩ = true) (hne : l2 ≠ []) :
    Calls Try.prog 7 #[.agg #[.int .i64 3, .int .u64 (tr : Nat), .int .u64 (bn : Nat), .int .u64 (bd : Nat), .int .u64 (sn : Nat), .int .u64 (sd : Nat), .int .i64 v, .bool ok, .slice a1 l1.length c1, .slice a2 l2.length c2, .slice a3 l3.length c3]] w (OfP (fun w2 A c => MemRow w2 A l2.length c l2) l2.length (fun x => .iface 46 (.agg #[x])) w) := by
  have Ha := hid_ (show Below w.heap.size w (w.alloc (.cells #[.int .i64 3, .int .u64 (tr : Nat), .int .u64 (bn : Nat), .int .u64 (bd : Nat), .int .u64 (sn : Nat), .int .u64 (sd : Nat), .int .i64 v, .bool ok, .slice a1 l1.length c1, .slice a2 l2.length c2, .slice a3 l3.length c3] 30)) from (Below.refl _ _).alloc (Nat.le_refl _) _)
  have B0 := hid_ (whole_new w 30 #[.int .i64 3, .int .u64 (tr : Nat), .int .u64 (bn : Nat), .int .u64 (bd : Nat), .int .u64 (sn : Nat), .int .u64 (sd : Nat), .int .i64 v, .bool ok, .slice a1 l1.length c1, .slice a2 l2.length c2, .slice a3 l3.length c3])
  have Hri := hid_ (fun (W : World) (hb : Below w.heap.size w W) => packright_any ⟨3, tr, bn, bd, sn, sd, v, ok, l1, l2, l3⟩ ⟨a1, c1, a2, c2, a3, c3⟩ W (hp.below hb) hw (by show l1.length ≤ _; omega))
  have Hth := hid_ (fun (W : World) (hb : Below w.heap.size w W) => show Calls Try.prog 18 #[.agg #[.int .i64 3, .int .u64 (tr : Nat), .int .u64 (bn : Nat), .int .u64 (bd : Nat), .int .u64 (sn : Nat), .int .u64 (sd : Nat), .int .i64 v, .bool ok, .slice a1 l1.length c1, .slice a2 l2.length c2, .slice a3 l3.length c3]] W (ListPost (fun w2 A c => MemRow w2 A l2.length c l2) l2.length (fun x => .iface 46 (.agg #[x])) W) from thing3k_any tr bn bd sn sd v ok l1 l2 l3 a1 c1 a2 c2 a3 c3 W (hp.below hb).r2 (by omega) hne)
  rw [hr] at Hri
  have ek : kindP true = 0 := rfl
  rw [ek] at Hri
  clear hp hw hm hr ek hne
  go_enter Try.func7, Try.ntmps7
  go_wp2_with fail
  refine Calls.mono (Hri.out _ Ha.out) ?_
  rintro e w1 ⟨rfl, hb1⟩
  have B1 := hid_ (B0.out.below hb1 B0.out.lt)
  have Hb1 := hid_ (Ha.out.trans (hb1.mono Ha.out.size))
  clear hb1
  have x0 := B1.out.cell 0 _ rfl
  have x1 := B1.out.cell 1 _ rfl
  have x2 := B1.out.cell 2 _ rfl
  have x3 := B1.out.cell 3 _ rfl
  have x4 := B1.out.cell 4 _ rfl
  have x5 := B1.out.cell 5 _ rfl
  have x6 := B1.out.cell 6 _ rfl
  have x7 := B1.out.cell 7 _ rfl
  have x8 := B1.out.cell 8 _ rfl
  have x9 := B1.out.cell 9 _ rfl
  have x10 := B1.out.cell 10 _ rfl
  go_wp2_with fail
  refine Calls.mono (Hth.out _ Hb1.out) ?_
  rintro e w2 ⟨A, c, rfl, hr2, hb2⟩
  have Hr2 := hid_ hr2
  have Hb2 := hid_ (Hb1.out.trans (hb2.mono Hb1.out.size))
  clear hb2 hr2
  simp only []
  go_wp2_with fail
  go_ret2
  exact ofP_mk (V := (fun x => .iface 46 (.agg #[x]))) (A := A) (c := c) rfl Hr2.out Hb2.out
set_option maxRecDepth 100000 in
set_option maxHeartbeats 4000000 in
theorem of4k_any (tr bn bd sn sd : Nat) (v : Int) (ok : Bool) (l1 : List SpanD) (l2 : List MemberD) (l3 : List Nat) (a1 : Option Addr) (c1 : Nat) (a2 : Option Addr) (c2 : Nat) (a3 : Option Addr) (c3 : Nat) (w : World) (hp : PackIn w ⟨4, tr, bn, bd, sn, sd, v, ok, l1, l2, l3⟩ ⟨a1, c1, a2, c2, a3, c3⟩) (hw : PackD.Wf ⟨4, tr, bn, bd, sn, sd, v, ok, l1, l2, l3⟩) (hm : l1.length ≤ 1000 ∧ l2.length ≤ 1000 ∧ l3.length ≤ 1000) (hr : rightP ⟨4, tr, bn, bd, sn, sd, v, ok, l1, l2, l3⟩ = true) :
    Calls Try.prog 7 #[.agg #[.int .i64 4, .int .u64 (tr : Nat), .int .u64 (bn : Nat), .int .u64 (bd : Nat), .int .u64 (sn : Nat), .int .u64 (sd : Nat), .int .i64 v, .bool ok, .slice a1 l1.length c1, .slice a2 l2.length c2, .slice a3 l3.length c3]] w (OfP (fun _ _ _ => True) 0 (fun _ => vAsk tr bn bd v) w) := by
  have Ha := hid_ (show Below w.heap.size w (w.alloc (.cells #[.int .i64 4, .int .u64 (tr : Nat), .int .u64 (bn : Nat), .int .u64 (bd : Nat), .int .u64 (sn : Nat), .int .u64 (sd : Nat), .int .i64 v, .bool ok, .slice a1 l1.length c1, .slice a2 l2.length c2, .slice a3 l3.length c3] 30)) from (Below.refl _ _).alloc (Nat.le_refl _) _)
  have B0 := hid_ (whole_new w 30 #[.int .i64 4, .int .u64 (tr : Nat), .int .u64 (bn : Nat), .int .u64 (bd : Nat), .int .u64 (sn : Nat), .int .u64 (sd : Nat), .int .i64 v, .bool ok, .slice a1 l1.length c1, .slice a2 l2.length c2, .slice a3 l3.length c3])
  have Hri := hid_ (fun (W : World) (hb : Below w.heap.size w W) => packright_any ⟨4, tr, bn, bd, sn, sd, v, ok, l1, l2, l3⟩ ⟨a1, c1, a2, c2, a3, c3⟩ W (hp.below hb) hw (by show l1.length ≤ _; omega))
  have Hth := hid_ (fun (W : World) (hb : Below w.heap.size w W) => show Calls Try.prog 18 #[.agg #[.int .i64 4, .int .u64 (tr : Nat), .int .u64 (bn : Nat), .int .u64 (bd : Nat), .int .u64 (sn : Nat), .int .u64 (sd : Nat), .int .i64 v, .bool ok, .slice a1 l1.length c1, .slice a2 l2.length c2, .slice a3 l3.length c3]] W (ListPost (fun _ _ _ => True) 0 (fun _ => vAsk tr bn bd v) W) from (thing4k_any tr bn bd sn sd v ok l1 l2 l3 a1 c1 a2 c2 a3 c3 W).mono fun e w2 h => listPost_plain (V := (fun _ => vAsk tr bn bd v)) h)
  rw [hr] at Hri
  have ek : kindP true = 0 := rfl
  rw [ek] at Hri
  clear hp hw hm hr ek
  go_enter Try.func7, Try.ntmps7
  go_wp2_with fail
  refine Calls.mono (Hri.out _ Ha.out) ?_
  rintro e w1 ⟨rfl, hb1⟩
  have B1 := hid_ (B0.out.below hb1 B0.out.lt)
  have Hb1 := hid_ (Ha.out.trans (hb1.mono Ha.out.size))
  clear hb1
  have x0 := B1.out.cell 0 _ rfl
  have x1 := B1.out.cell 1 _ rfl
  have x2 := B1.out.cell 2 _ rfl
  have x3 := B1.out.cell 3 _ rfl
  have x4 := B1.out.cell 4 _ rfl
  have x5 := B1.out.cell 5 _ rfl
  have x6 := B1.out.cell 6 _ rfl
  have x7 := B1.out.cell 7 _ rfl
  have x8 := B1.out.cell 8 _ rfl
  have x9 := B1.out.cell 9 _ rfl
  have x10 := B1.out.cell 10 _ rfl
  go_wp2_with fail
  refine Calls.mono (Hth.out _ Hb1.out) ?_
  rintro e w2 ⟨A, c, rfl, hr2, hb2⟩
  have Hr2 := hid_ hr2
  have Hb2 := hid_ (Hb1.out.trans (hb2.mono Hb1.out.size))
  clear hb2 hr2
  simp only []
  go_wp2_with fail
  go_ret2
  exact ofP_mk (V := (fun _ => vAsk tr bn bd v)) (A := A) (c := c) rfl Hr2.out Hb2.out
set_option maxRecDepth 100000 in
set_option maxHeartbeats 4000000 in
theorem of5k_any (tr bn bd sn sd : Nat) (v : Int) (ok : Bool) (l1 : List SpanD) (l2 : List MemberD) (l3 : List Nat) (a1 : Option Addr) (c1 : Nat) (a2 : Option Addr) (c2 : Nat) (a3 : Option Addr) (c3 : Nat) (w : World) (hp : PackIn w ⟨5, tr, bn, bd, sn, sd, v, ok, l1, l2, l3⟩ ⟨a1, c1, a2, c2, a3, c3⟩) (hw : PackD.Wf ⟨5, tr, bn, bd, sn, sd, v, ok, l1, l2, l3⟩) (hm : l1.length ≤ 1000 ∧ l2.length ≤ 1000 ∧ l3.length ≤ 1000) (hr : rightP ⟨5, tr, bn, bd, sn, sd, v, ok, l1, l2, l3⟩ = true) :
    Calls Try.prog 7 #[.agg #[.int .i64 5, .int .u64 (tr : Nat), .int .u64 (bn : Nat), .int .u64 (bd : Nat), .int .u64 (sn : Nat), .int .u64 (sd : Nat), .int .i64 v, .bool ok, .slice a1 l1.length c1, .slice a2 l2.length c2, .slice a3 l3.length c3]] w (OfP (fun _ _ _ => True) 0 (fun _ => vReply tr bn bd ok sn sd v false) w) := by
  have Ha := hid_ (show Below w.heap.size w (w.alloc (.cells #[.int .i64 5, .int .u64 (tr : Nat), .int .u64 (bn : Nat), .int .u64 (bd : Nat), .int .u64 (sn : Nat), .int .u64 (sd : Nat), .int .i64 v, .bool ok, .slice a1 l1.length c1, .slice a2 l2.length c2, .slice a3 l3.length c3] 30)) from (Below.refl _ _).alloc (Nat.le_refl _) _)
  have B0 := hid_ (whole_new w 30 #[.int .i64 5, .int .u64 (tr : Nat), .int .u64 (bn : Nat), .int .u64 (bd : Nat), .int .u64 (sn : Nat), .int .u64 (sd : Nat), .int .i64 v, .bool ok, .slice a1 l1.length c1, .slice a2 l2.length c2, .slice a3 l3.length c3])
  have Hri := hid_ (fun (W : World) (hb : Below w.heap.size w W) => packright_any ⟨5, tr, bn, bd, sn, sd, v, ok, l1, l2, l3⟩ ⟨a1, c1, a2, c2, a3, c3⟩ W (hp.below hb) hw (by show l1.length ≤ _; omega))
  have Hth := hid_ (fun (W : World) (hb : Below w.heap.size w W) => show Calls Try.prog 18 #[.agg #[.int .i64 5, .int .u64 (tr : Nat), .int .u64 (bn : Nat), .int .u64 (bd : Nat), .int .u64 (sn : Nat), .int .u64 (sd : Nat), .int .i64 v, .bool ok, .slice a1 l1.length c1, .slice a2 l2.length c2, .slice a3 l3.length c3]] W (ListPost (fun _ _ _ => True) 0 (fun _ => vReply tr bn bd ok sn sd v false) W) from (thing5k_any tr bn bd sn sd v ok l1 l2 l3 a1 c1 a2 c2 a3 c3 W).mono fun e w2 h => listPost_plain (V := (fun _ => vReply tr bn bd ok sn sd v false)) h)
  rw [hr] at Hri
  have ek : kindP true = 0 := rfl
  rw [ek] at Hri
  clear hp hw hm hr ek
  go_enter Try.func7, Try.ntmps7
  go_wp2_with fail
  refine Calls.mono (Hri.out _ Ha.out) ?_
  rintro e w1 ⟨rfl, hb1⟩
  have B1 := hid_ (B0.out.below hb1 B0.out.lt)
  have Hb1 := hid_ (Ha.out.trans (hb1.mono Ha.out.size))
  clear hb1
  have x0 := B1.out.cell 0 _ rfl
  have x1 := B1.out.cell 1 _ rfl
  have x2 := B1.out.cell 2 _ rfl
  have x3 := B1.out.cell 3 _ rfl
  have x4 := B1.out.cell 4 _ rfl
  have x5 := B1.out.cell 5 _ rfl
  have x6 := B1.out.cell 6 _ rfl
  have x7 := B1.out.cell 7 _ rfl
  have x8 := B1.out.cell 8 _ rfl
  have x9 := B1.out.cell 9 _ rfl
  have x10 := B1.out.cell 10 _ rfl
  go_wp2_with fail
  refine Calls.mono (Hth.out _ Hb1.out) ?_
  rintro e w2 ⟨A, c, rfl, hr2, hb2⟩
  have Hr2 := hid_ hr2
  have Hb2 := hid_ (Hb1.out.trans (hb2.mono Hb1.out.size))
  clear hb2 hr2
  simp only []
  go_wp2_with fail
  go_ret2
  exact ofP_mk (V := (fun _ => vReply tr bn bd ok sn sd v false)) (A := A) (c := c) rfl Hr2.out Hb2.out
set_option maxRecDepth 100000 in
set_option maxHeartbeats 4000000 in
theorem of6k_any (tr bn bd sn sd : Nat) (v : Int) (ok : Bool) (l1 : List SpanD) (l2 : List MemberD) (l3 : List Nat) (a1 : Option Addr) (c1 : Nat) (a2 : Option Addr) (c2 : Nat) (a3 : Option Addr) (c3 : Nat) (w : World) (hp : PackIn w ⟨6, tr, bn, bd, sn, sd, v, ok, l1, l2, l3⟩ ⟨a1, c1, a2, c2, a3, c3⟩) (hw : PackD.Wf ⟨6, tr, bn, bd, sn, sd, v, ok, l1, l2, l3⟩) (hm : l1.length ≤ 1000 ∧ l2.length ≤ 1000 ∧ l3.length ≤ 1000) (hr : rightP ⟨6, tr, bn, bd, sn, sd, v, ok, l1, l2, l3⟩ = true) :
    Calls Try.prog 7 #[.agg #[.int .i64 6, .int .u64 (tr : Nat), .int .u64 (bn : Nat), .int .u64 (bd : Nat), .int .u64 (sn : Nat), .int .u64 (sd : Nat), .int .i64 v, .bool ok, .slice a1 l1.length c1, .slice a2 l2.length c2, .slice a3 l3.length c3]] w (OfP (fun _ _ _ => True) 0 (fun _ => vAsk tr bn bd v) w) := by
  have Ha := hid_ (show Below w.heap.size w (w.alloc (.cells #[.int .i64 6, .int .u64 (tr : Nat), .int .u64 (bn : Nat), .int .u64 (bd : Nat), .int .u64 (sn : Nat), .int .u64 (sd : Nat), .int .i64 v, .bool ok, .slice a1 l1.length c1, .slice a2 l2.length c2, .slice a3 l3.length c3] 30)) from (Below.refl _ _).alloc (Nat.le_refl _) _)
  have B0 := hid_ (whole_new w 30 #[.int .i64 6, .int .u64 (tr : Nat), .int .u64 (bn : Nat), .int .u64 (bd : Nat), .int .u64 (sn : Nat), .int .u64 (sd : Nat), .int .i64 v, .bool ok, .slice a1 l1.length c1, .slice a2 l2.length c2, .slice a3 l3.length c3])
  have Hri := hid_ (fun (W : World) (hb : Below w.heap.size w W) => packright_any ⟨6, tr, bn, bd, sn, sd, v, ok, l1, l2, l3⟩ ⟨a1, c1, a2, c2, a3, c3⟩ W (hp.below hb) hw (by show l1.length ≤ _; omega))
  have Hth := hid_ (fun (W : World) (hb : Below w.heap.size w W) => show Calls Try.prog 18 #[.agg #[.int .i64 6, .int .u64 (tr : Nat), .int .u64 (bn : Nat), .int .u64 (bd : Nat), .int .u64 (sn : Nat), .int .u64 (sd : Nat), .int .i64 v, .bool ok, .slice a1 l1.length c1, .slice a2 l2.length c2, .slice a3 l3.length c3]] W (ListPost (fun _ _ _ => True) 0 (fun _ => vAsk tr bn bd v) W) from (thing6k_any tr bn bd sn sd v ok l1 l2 l3 a1 c1 a2 c2 a3 c3 W).mono fun e w2 h => listPost_plain (V := (fun _ => vAsk tr bn bd v)) h)
  rw [hr] at Hri
  have ek : kindP true = 0 := rfl
  rw [ek] at Hri
  clear hp hw hm hr ek
  go_enter Try.func7, Try.ntmps7
  go_wp2_with fail
  refine Calls.mono (Hri.out _ Ha.out) ?_
  rintro e w1 ⟨rfl, hb1⟩
  have B1 := hid_ (B0.out.below hb1 B0.out.lt)
  have Hb1 := hid_ (Ha.out.trans (hb1.mono Ha.out.size))
  clear hb1
  have x0 := B1.out.cell 0 _ rfl
  have x1 := B1.out.cell 1 _ rfl
  have x2 := B1.out.cell 2 _ rfl
  have x3 := B1.out.cell 3 _ rfl
  have x4 := B1.out.cell 4 _ rfl
  have x5 := B1.out.cell 5 _ rfl
  have x6 := B1.out.cell 6 _ rfl
  have x7 := B1.out.cell 7 _ rfl
  have x8 := B1.out.cell 8 _ rfl
  have x9 := B1.out.cell 9 _ rfl
  have x10 := B1.out.cell 10 _ rfl
  go_wp2_with fail
  refine Calls.mono (Hth.out _ Hb1.out) ?_
  rintro e w2 ⟨A, c, rfl, hr2, hb2⟩
  have Hr2 := hid_ hr2
  have Hb2 := hid_ (Hb1.out.trans (hb2.mono Hb1.out.size))
  clear hb2 hr2
  simp only []
  go_wp2_with fail
  go_ret2
  exact ofP_mk (V := (fun _ => vAsk tr bn bd v)) (A := A) (c := c) rfl Hr2.out Hb2.out
set_option maxRecDepth 100000 in
set_option maxHeartbeats 4000000 in
theorem of7k_any (tr bn bd sn sd : Nat) (v : Int) (ok : Bool) (l1 : List SpanD) (l2 : List MemberD) (l3 : List Nat) (a1 : Option Addr) (c1 : Nat) (a2 : Option Addr) (c2 : Nat) (a3 : Option Addr) (c3 : Nat) (w : World) (hp : PackIn w ⟨7, tr, bn, bd, sn, sd, v, ok, l1, l2, l3⟩ ⟨a1, c1, a2, c2, a3, c3⟩) (hw : PackD.Wf ⟨7, tr, bn, bd, sn, sd, v, ok, l1, l2, l3⟩) (hm : l1.length ≤ 1000 ∧ l2.length ≤ 1000 ∧ l3.length ≤ 1000) (hr : rightP ⟨7, tr, bn, bd, sn, sd, v, ok, l1, l2, l3⟩ = true) :
    Calls Try.prog 7 #[.agg #[.int .i64 7, .int .u64 (tr : Nat), .int .u64 (bn : Nat), .int .u64 (bd : Nat), .int .u64 (sn : Nat), .int .u64 (sd : Nat), .int .i64 v, .bool ok, .slice a1 l1.length c1, .slice a2 l2.length c2, .slice a3 l3.length c3]] w (OfP (fun _ _ _ => True) 0 (fun _ => vReply tr bn bd ok sn sd v true) w) := by
  have Ha := hid_ (show Below w.heap.size w (w.alloc (.cells #[.int .i64 7, .int .u64 (tr : Nat), .int .u64 (bn : Nat), .int .u64 (bd : Nat), .int .u64 (sn : Nat), .int .u64 (sd : Nat), .int .i64 v, .bool ok, .slice a1 l1.length c1, .slice a2 l2.length c2, .slice a3 l3.length c3] 30)) from (Below.refl _ _).alloc (Nat.le_refl _) _)
  have B0 := hid_ (whole_new w 30 #[.int .i64 7, .int .u64 (tr : Nat), .int .u64 (bn : Nat), .int .u64 (bd : Nat), .int .u64 (sn : Nat), .int .u64 (sd : Nat), .int .i64 v, .bool ok, .slice a1 l1.length c1, .slice a2 l2.length c2, .slice a3 l3.length c3])
  have Hri := hid_ (fun (W : World) (hb : Below w.heap.size w W) => packright_any ⟨7, tr, bn, bd, sn, sd, v, ok, l1, l2, l3⟩ ⟨a1, c1, a2, c2, a3, c3⟩ W (hp.below hb) hw (by show l1.length ≤ _; omega))
  have Hth := hid_ (fun (W : World) (hb : Below w.heap.size w W) => show Calls Try.prog 18 #[.agg #[.int .i64 7, .int .u64 (tr : Nat), .int .u64 (bn : Nat), .int .u64 (bd : Nat), .int .u64 (sn : Nat), .int .u64 (sd : Nat), .int .i64 v, .bool ok, .slice a1 l1.length c1, .slice a2 l2.length c2, .slice a3 l3.length c3]] W (ListPost (fun _ _ _ => True) 0 (fun _ => vReply tr bn bd ok sn sd v true) W) from (thing7k_any tr bn bd sn sd v ok l1 l2 l3 a1 c1 a2 c2 a3 c3 W).mono fun e w2 h => listPost_plain (V := (fun _ => vReply tr bn bd ok sn sd v true)) h)
  rw [hr] at Hri
  have ek : kindP true = 0 := rfl
  rw [ek] at Hri
  clear hp hw hm hr ek
  go_enter Try.func7, Try.ntmps7
  go_wp2_with fail
  refine Calls.mono (Hri.out _ Ha.out) ?_
  rintro e w1 ⟨rfl, hb1⟩
  have B1 := hid_ (B0.out.below hb1 B0.out.lt)
  have Hb1 := hid_ (Ha.out.trans (hb1.mono Ha.out.size))
  clear hb1
  have x0 := B1.out.cell 0 _ rfl
  have x1 := B1.out.cell 1 _ rfl
  have x2 := B1.out.cell 2 _ rfl
  have x3 := B1.out.cell 3 _ rfl
  have x4 := B1.out.cell 4 _ rfl
  have x5 := B1.out.cell 5 _ rfl
  have x6 := B1.out.cell 6 _ rfl
  have x7 := B1.out.cell 7 _ rfl
  have x8 := B1.out.cell 8 _ rfl
  have x9 := B1.out.cell 9 _ rfl
  have x10 := B1.out.cell 10 _ rfl
  go_wp2_with fail
  refine Calls.mono (Hth.out _ Hb1.out) ?_
  rintro e w2 ⟨A, c, rfl, hr2, hb2⟩
  have Hr2 := hid_ hr2
  have Hb2 := hid_ (Hb1.out.trans (hb2.mono Hb1.out.size))
  clear hb2 hr2
  simp only []
  go_wp2_with fail
  go_ret2
  exact ofP_mk (V := (fun _ => vReply tr bn bd ok sn sd v true)) (A := A) (c := c) rfl Hr2.out Hb2.out
set_option maxRecDepth 100000 in
set_option maxHeartbeats 4000000 in
theorem of8k_any (tr bn bd sn sd : Nat) (v : Int) (ok : Bool) (l1 : List SpanD) (l2 : List MemberD) (l3 : List Nat) (a1 : Option Addr) (c1 : Nat) (a2 : Option Addr) (c2 : Nat) (a3 : Option Addr) (c3 : Nat) (w : World) (hp : PackIn w ⟨8, tr, bn, bd, sn, sd, v, ok, l1, l2, l3⟩ ⟨a1, c1, a2, c2, a3, c3⟩) (hw : PackD.Wf ⟨8, tr, bn, bd, sn, sd, v, ok, l1, l2, l3⟩) (hm : l1.length ≤ 1000 ∧ l2.length ≤ 1000 ∧ l3.length ≤ 1000) (hr : rightP ⟨8, tr, bn, bd, sn, sd, v, ok, l1, l2, l3⟩ = true) :
    Calls Try.prog 7 #[.agg #[.int .i64 8, .int .u64 (tr : Nat), .int .u64 (bn : Nat), .int .u64 (bd : Nat), .int .u64 (sn : Nat), .int .u64 (sd : Nat), .int .i64 v, .bool ok, .slice a1 l1.length c1, .slice a2 l2.length c2, .slice a3 l3.length c3]] w (OfP (fun _ _ _ => True) 0 (fun _ => vTold tr v) w) := by
  have Ha := hid_ (show Below w.heap.size w (w.alloc (.cells #[.int .i64 8, .int .u64 (tr : Nat), .int .u64 (bn : Nat), .int .u64 (bd : Nat), .int .u64 (sn : Nat), .int .u64 (sd : Nat), .int .i64 v, .bool ok, .slice a1 l1.length c1, .slice a2 l2.length c2, .slice a3 l3.length c3] 30)) from (Below.refl _ _).alloc (Nat.le_refl _) _)
  have B0 := hid_ (whole_new w 30 #[.int .i64 8, .int .u64 (tr : Nat), .int .u64 (bn : Nat), .int .u64 (bd : Nat), .int .u64 (sn : Nat), .int .u64 (sd : Nat), .int .i64 v, .bool ok, .slice a1 l1.length c1, .slice a2 l2.length c2, .slice a3 l3.length c3])
  have Hri := hid_ (fun (W : World) (hb : Below w.heap.size w W) => packright_any ⟨8, tr, bn, bd, sn, sd, v, ok, l1, l2, l3⟩ ⟨a1, c1, a2, c2, a3, c3⟩ W (hp.below hb) hw (by show l1.length ≤ _; omega))
  have Hth := hid_ (fun (W : World) (hb : Below w.heap.size w W) => show Calls Try.prog 18 #[.agg #[.int .i64 8, .int .u64 (tr : Nat), .int .u64 (bn : Nat), .int .u64 (bd : Nat), .int .u64 (sn : Nat), .int .u64 (sd : Nat), .int .i64 v, .bool ok, .slice a1 l1.length c1, .slice a2 l2.length c2, .slice a3 l3.length c3]] W (ListPost (fun _ _ _ => True) 0 (fun _ => vTold tr v) W) from (thing8k_any tr bn bd sn sd v ok l1 l2 l3 a1 c1 a2 c2 a3 c3 W).mono fun e w2 h => listPost_plain (V := (fun _ => vTold tr v)) h)
  rw [hr] at Hri
  have ek : kindP true = 0 := rfl
  rw [ek] at Hri
  clear hp hw hm hr ek
  go_enter Try.func7, Try.ntmps7
  go_wp2_with fail
  refine Calls.mono (Hri.out _ Ha.out) ?_
  rintro e w1 ⟨rfl, hb1⟩
  have B1 := hid_ (B0.out.below hb1 B0.out.lt)
  have Hb1 := hid_ (Ha.out.trans (hb1.mono Ha.out.size))
  clear hb1
  have x0 := B1.out.cell 0 _ rfl
  have x1 := B1.out.cell 1 _ rfl
  have x2 := B1.out.cell 2 _ rfl
  have x3 := B1.out.cell 3 _ rfl
  have x4 := B1.out.cell 4 _ rfl
  have x5 := B1.out.cell 5 _ rfl
  have x6 := B1.out.cell 6 _ rfl
  have x7 := B1.out.cell 7 _ rfl
  have x8 := B1.out.cell 8 _ rfl
  have x9 := B1.out.cell 9 _ rfl
  have x10 := B1.out.cell 10 _ rfl
  go_wp2_with fail
  refine Calls.mono (Hth.out _ Hb1.out) ?_
  rintro e w2 ⟨A, c, rfl, hr2, hb2⟩
  have Hr2 := hid_ hr2
  have Hb2 := hid_ (Hb1.out.trans (hb2.mono Hb1.out.size))
  clear hb2 hr2
  simp only []
  go_wp2_with fail
  go_ret2
  exact ofP_mk (V := (fun _ => vTold tr v)) (A := A) (c := c) rfl Hr2.out Hb2.out
set_option maxRecDepth 100000 in
set_option maxHeartbeats 4000000 in
theorem of9k_any (tr bn bd sn sd : Nat) (v : Int) (ok : Bool) (l1 : List SpanD) (l2 : List MemberD) (l3 : List Nat) (a1 : Option Addr) (c1 : Nat) (a2 : Option Addr) (c2 : Nat) (a3 : Option Addr) (c3 : Nat) (w : World) (hp : PackIn w ⟨9, tr, bn, bd, sn, sd, v, ok, l1, l2, l3⟩ ⟨a1, c1, a2, c2, a3, c3⟩) (hw : PackD.Wf ⟨9, tr, bn, bd, sn, sd, v, ok, l1, l2, l3⟩) (hm : l1.length ≤ 1000 ∧ l2.length ≤ 1000 ∧ l3.length ≤ 1000) (hr : rightP ⟨9, tr, bn, bd, sn, sd, v, ok, l1, l2, l3⟩ = true) (hne : l1 ≠ []) :
    Calls Try.prog 7 #[.agg #[.int .i64 9, .int .u64 (tr : Nat), .int .u64 (bn : Nat), .int .u64 (bd : Nat), .int .u64 (sn : Nat), .int .u64 (sd : Nat), .int .i64 v, .bool ok, .slice a1 l1.length c1, .slice a2 l2.length c2, .slice a3 l3.length c3]] w (OfP (fun w2 A c => SpanRow w2 A l1.length c l1) l1.length (fun x => .iface 58 (.agg #[.int .u64 (tr : Nat), .int .u64 (bn : Nat), .int .u64 (bd : Nat), x])) w) := by
  have Ha := hid_ (show Below w.heap.size w (w.alloc (.cells #[.int .i64 9, .int .u64 (tr : Nat), .int .u64 (bn : Nat), .int .u64 (bd : Nat), .int .u64 (sn : Nat), .int .u64 (sd : Nat), .int .i64 v, .bool ok, .slice a1 l1.length c1, .slice a2 l2.length c2, .slice a3 l3.length c3] 30)) from (Below.refl _ _).alloc (Nat.le_refl _) _)
  have B0 := hid_ (whole_new w 30 #[.int .i64 9, .int .u64 (tr : Nat), .int .u64 (bn : Nat), .int .u64 (bd : Nat), .int .u64 (sn : Nat), .int .u64 (sd : Nat), .int .i64 v, .bool ok, .slice a1 l1.length c1, .slice a2 l2.length c2, .slice a3 l3.length c3])
  have Hri := hid_ (fun (W : World) (hb : Below w.heap.size w W) => packright_any ⟨9, tr, bn, bd, sn, sd, v, ok, l1, l2, l3⟩ ⟨a1, c1, a2, c2, a3, c3⟩ W (hp.below hb) hw (by show l1.length ≤ _; omega))
  have Hth := hid_ (fun (W : World) (hb : Below w.heap.size w W) => show Calls Try.prog 18 #[.agg #[.int .i64 9, .int .u64 (tr : Nat), .int .u64 (bn : Nat), .int .u64 (bd : Nat), .int .u64 (sn : Nat), .int .u64 (sd : Nat), .int .i64 v, .bool ok, .slice a1 l1.length c1, .slice a2 l2.length c2, .slice a3 l3.length c3]] W (ListPost (fun w2 A c => SpanRow w2 A l1.length c l1) l1.length (fun x => .iface 58 (.agg #[.int .u64 (tr : Nat), .int .u64 (bn : Nat), .int .u64 (bd : Nat), x])) W) from thing9k_any tr bn bd sn sd v ok l1 l2 l3 a1 c1 a2 c2 a3 c3 W (hp.below hb).r1 (by omega) hne)
  rw [hr] at Hri
  have ek : kindP true = 0 := rfl
  rw [ek] at Hri
  clear hp hw hm hr ek hne
  go_enter Try.func7, Try.ntmps7
  go_wp2_with fail
  refine Calls.mono (Hri.out _ Ha.out) ?_
  rintro e w1 ⟨rfl, hb1⟩
  have B1 := hid_ (B0.out.below hb1 B0.out.lt)
  have Hb1 := hid_ (Ha.out.trans (hb1.mono Ha.out.size))
  clear hb1
  have x0 := B1.out.cell 0 _ rfl
  have x1 := B1.out.cell 1 _ rfl
  have x2 := B1.out.cell 2 _ rfl
  have x3 := B1.out.cell 3 _ rfl
  have x4 := B1.out.cell 4 _ rfl
  have x5 := B1.out.cell 5 _ rfl
  have x6 := B1.out.cell 6 _ rfl
  have x7 := B1.out.cell 7 _ rfl
  have x8 := B1.out.cell 8 _ rfl
  have x9 := B1.out.cell 9 _ rfl
  have x10 := B1.out.cell 10 _ rfl
  go_wp2_with fail
  refine Calls.mono (Hth.out _ Hb1.out) ?_
  rintro e w2 ⟨A, c, rfl, hr2, hb2⟩
  have Hr2 := hid_ hr2
  have Hb2 := hid_ (Hb1.out.trans (hb2.mono Hb1.out.size))
  clear hb2 hr2
  simp only []
  go_wp2_with fail
  go_ret2
  exact ofP_mk (V := (fun x => .iface 58 (.agg #[.int .u64 (tr : Nat), .int .u64 (bn : Nat), .int .u64 (bd : Nat), x]))) (A := A) (c := c) rfl Hr2.out Hb2.out
set_option maxRecDepth 100000 in
set_option maxHeartbeats 4000000 in
theorem of10k_any (tr bn bd sn sd : Nat) (v : Int) (ok : Bool) (l1 : List SpanD) (l2 : List MemberD) (l3 : List Nat) (a1 : Option Addr) (c1 : Nat) (a2 : Option Addr) (c2 : Nat) (a3 : Option Addr) (c3 : Nat) (w : World) (hp : PackIn w ⟨10, tr, bn, bd, sn, sd, v, ok, l1, l2, l3⟩ ⟨a1, c1, a2, c2, a3, c3⟩) (hw : PackD.Wf ⟨10, tr, bn, bd, sn, sd, v, ok, l1, l2, l3⟩) (hm : l1.length ≤ 1000 ∧ l2.length ≤ 1000 ∧ l3.length ≤ 1000) (hr : rightP ⟨10, tr, bn, bd, sn, sd, v, ok, l1, l2, l3⟩ = true) (hne : l3 ≠ []) :
    Calls Try.prog 7 #[.agg #[.int .i64 10, .int .u64 (tr : Nat), .int .u64 (bn : Nat), .int .u64 (bd : Nat), .int .u64 (sn : Nat), .int .u64 (sd : Nat), .int .i64 v, .bool ok, .slice a1 l1.length c1, .slice a2 l2.length c2, .slice a3 l3.length c3]] w (OfP (fun w2 A c => Row w2 A l3.length c (idVals l3)) l3.length (fun x => .iface 61 (.agg #[.int .u64 (tr : Nat), x])) w) := by
  have Ha := hid_ (show Below w.heap.size w (w.alloc (.cells #[.int .i64 10, .int .u64 (tr : Nat), .int .u64 (bn : Nat), .int .u64 (bd : Nat), .int .u64 (sn : Nat), .int .u64 (sd : Nat), .int .i64 v, .bool ok, .slice a1 l1.length c1, .slice a2 l2.length c2, .slice a3 l3.length c3] 30)) from (Below.refl _ _).alloc (Nat.le_refl _) _)
  have B0 := hid_ (whole_new w 30 #[.int .i64 10, .int .u64 (tr : Nat), .int .u64 (bn : Nat), .int .u64 (bd : Nat), .int .u64 (sn : Nat), .int .u64 (sd : Nat), .int .i64 v, .bool ok, .slice a1 l1.length c1, .slice a2 l2.length c2, .slice a3 l3.length c3])
  have Hri := hid_ (fun (W : World) (hb : Below w.heap.size w W) => packright_any ⟨10, tr, bn, bd, sn, sd, v, ok, l1, l2, l3⟩ ⟨a1, c1, a2, c2, a3, c3⟩ W (hp.below hb) hw (by show l1.length ≤ _; omega))
  have Hth := hid_ (fun (W : World) (hb : Below w.heap.size w W) => show Calls Try.prog 18 #[.agg #[.int .i64 10, .int .u64 (tr : Nat), .int .u64 (bn : Nat), .int .u64 (bd : Nat), .int .u64 (sn : Nat), .int .u64 (sd : Nat), .int .i64 v, .bool ok, .slice a1 l1.length c1, .slice a2 l2.length c2, .slice a3 l3.length c3]] W (ListPost (fun w2 A c => Row w2 A l3.length c (idVals l3)) l3.length (fun x => .iface 61 (.agg #[.int .u64 (tr : Nat), x])) W) from thing10k_any tr bn bd sn sd v ok l1 l2 l3 a1 c1 a2 c2 a3 c3 W (hp.below hb).r3 (by omega) hne)
  rw [hr] at Hri
  have ek : kindP true = 0 := rfl
  rw [ek] at Hri
  clear hp hw hm hr ek hne
  go_enter Try.func7, Try.ntmps7
  go_wp2_with fail
  refine Calls.mono (Hri.out _ Ha.out) ?_
  rintro e w1 ⟨rfl, hb1⟩
  have B1 := hid_ (B0.out.below hb1 B0.out.lt)
  have Hb1 := hid_ (Ha.out.trans (hb1.mono Ha.out.size))
  clear hb1
  have x0 := B1.out.cell 0 _ rfl
  have x1 := B1.out.cell 1 _ rfl
  have x2 := B1.out.cell 2 _ rfl
  have x3 := B1.out.cell 3 _ rfl
  have x4 := B1.out.cell 4 _ rfl
  have x5 := B1.out.cell 5 _ rfl
  have x6 := B1.out.cell 6 _ rfl
  have x7 := B1.out.cell 7 _ rfl
  have x8 := B1.out.cell 8 _ rfl
  have x9 := B1.out.cell 9 _ rfl
  have x10 := B1.out.cell 10 _ rfl
  go_wp2_with fail
  refine Calls.mono (Hth.out _ Hb1.out) ?_
  rintro e w2 ⟨A, c, rfl, hr2, hb2⟩
  have Hr2 := hid_ hr2
  have Hb2 := hid_ (Hb1.out.trans (hb2.mono Hb1.out.size))
  clear hb2 hr2
  simp only []
  go_wp2_with fail
  go_ret2
  exact ofP_mk (V := (fun x => .iface 61 (.agg #[.int .u64 (tr : Nat), x]))) (A := A) (c := c) rfl Hr2.out Hb2.out
set_option maxRecDepth 100000 in
set_option maxHeartbeats 4000000 in
theorem tr1k_any (tr : Nat) (A : Option Addr) (n c : Nat) (w : World) :
    Calls Try.prog 10 #[.iface 43 (.agg #[.int .u64 (tr : Nat), .bool false, .slice A n c])] w fun e w' => e = .returned (.tuple #[.int .u64 (tr : Nat), .bool true]) ∧ Below w.heap.size w w' := by
  have k2 := fun v w => noMembers_Spans v w
  have Hpk := hid_ (fun W => pck1_any tr A n c W)
  have Ha := hid_ (show Below w.heap.size w (w.alloc (.cells #[.slice none 0 0] 46)) from (Below.refl _ _).alloc (Nat.le_refl _) _)
  go_enter Try.func10, Try.ntmps10
  go_wp2_with fail
  refine Calls.mono (Hpk.out _) ?_
  rintro e w1 ⟨rfl, hb1⟩
  have Hb1 := hid_ (Ha.out.trans (hb1.mono Ha.out.size))
  clear hb1
  go_wp2_with fail
  go_quiet (fail)
  go_wp2_with fail
  go_ret2
  exact ⟨rfl, below_drewN (Hb1.out.alloc Hb1.out.size _) _⟩
set_option maxRecDepth 100000 in
set_option maxHeartbeats 4000000 in
theorem tr2k_any (tr : Nat) (A : Option Addr) (n c : Nat) (w : World) :
    Calls Try.prog 10 #[.iface 43 (.agg #[.int .u64 (tr : Nat), .bool true, .slice A n c])] w fun e w' => e = .returned (.tuple #[.int .u64 (tr : Nat), .bool true]) ∧ Below w.heap.size w w' := by
  have k2 := fun v w => noMembers_Spans v w
  have Hpk := hid_ (fun W => pck2_any tr A n c W)
  have Ha := hid_ (show Below w.heap.size w (w.alloc (.cells #[.slice none 0 0] 46)) from (Below.refl _ _).alloc (Nat.le_refl _) _)
  go_enter Try.func10, Try.ntmps10
  go_wp2_with fail
  refine Calls.mono (Hpk.out _) ?_
  rintro e w1 ⟨rfl, hb1⟩
  have Hb1 := hid_ (Ha.out.trans (hb1.mono Ha.out.size))
  clear hb1
  go_wp2_with fail
  go_quiet (fail)
  go_wp2_with fail
  go_ret2
  exact ⟨rfl, below_drewN (Hb1.out.alloc Hb1.out.size _) _⟩
set_option maxRecDepth 100000 in
set_option maxHeartbeats 4000000 in
theorem tr3k_any  (A : Option Addr) (n c : Nat) (w : World) :
    Calls Try.prog 10 #[.iface 46 (.agg #[.slice A n c])] w fun e w' => e = .returned (.tuple #[.int .u64 0, .bool false]) ∧ Below w.heap.size w w' := by
  have k2 := fun v w => isMembers v w
  go_enter Try.func10, Try.ntmps10
  go_wp2_with fail
  go_ret2
  exact ⟨rfl, (Below.refl _ _).alloc (Nat.le_refl _) _⟩
set_option maxRecDepth 100000 in
set_option maxHeartbeats 4000000 in
theorem tr4k_any (tr bn bd : Nat) (w : World) :
    Calls Try.prog 10 #[vAsk tr bn bd 0] w fun e w' => e = .returned (.tuple #[.int .u64 (tr : Nat), .bool true]) ∧ Below w.heap.size w w' := by
  have k2 := fun v w => noMembers_Ask v w
  have Hpk := hid_ (fun W => pck4_any tr bn bd W)
  have Ha := hid_ (show Below w.heap.size w (w.alloc (.cells #[.slice none 0 0] 46)) from (Below.refl _ _).alloc (Nat.le_refl _) _)
  go_enter Try.func10, Try.ntmps10
  go_wp2_with fail
  refine Calls.mono (Hpk.out _) ?_
  rintro e w1 ⟨rfl, hb1⟩
  have Hb1 := hid_ (Ha.out.trans (hb1.mono Ha.out.size))
  clear hb1
  go_wp2_with fail
  go_quiet (fail)
  go_wp2_with fail
  go_ret2
  exact ⟨rfl, below_drewN (Hb1.out.alloc Hb1.out.size _) _⟩
set_option maxRecDepth 100000 in
set_option maxHeartbeats 4000000 in
theorem tr5k_any (tr bn bd : Nat) (ok : Bool) (sn sd : Nat) (v : Int) (w : World) :
    Calls Try.prog 10 #[vReply tr bn bd ok sn sd v false] w fun e w' => e = .returned (.tuple #[.int .u64 (tr : Nat), .bool true]) ∧ Below w.heap.size w w' := by
  have k2 := fun v w => noMembers_Reply v w
  have Hpk := hid_ (fun W => pck5_any tr bn bd ok sn sd v W)
  have Ha := hid_ (show Below w.heap.size w (w.alloc (.cells #[.slice none 0 0] 46)) from (Below.refl _ _).alloc (Nat.le_refl _) _)
  go_enter Try.func10, Try.ntmps10
  go_wp2_with fail
  refine Calls.mono (Hpk.out _) ?_
  rintro e w1 ⟨rfl, hb1⟩
  have Hb1 := hid_ (Ha.out.trans (hb1.mono Ha.out.size))
  clear hb1
  go_wp2_with fail
  go_quiet (fail)
  go_wp2_with fail
  go_ret2
  exact ⟨rfl, below_drewN (Hb1.out.alloc Hb1.out.size _) _⟩
set_option maxRecDepth 100000 in
set_option maxHeartbeats 4000000 in
theorem tr6k_any (tr bn bd : Nat) (v : Int) (w : World) (hv : v ≠ 0) :
    Calls Try.prog 10 #[vAsk tr bn bd v] w fun e w' => e = .returned (.tuple #[.int .u64 (tr : Nat), .bool true]) ∧ Below w.heap.size w w' := by
  have k2 := fun v w => noMembers_Ask v w
  have Hpk := hid_ (fun W => pck6_any tr bn bd v W hv)
  have Ha := hid_ (show Below w.heap.size w (w.alloc (.cells #[.slice none 0 0] 46)) from (Below.refl _ _).alloc (Nat.le_refl _) _)
  go_enter Try.func10, Try.ntmps10
  go_wp2_with fail
  refine Calls.mono (Hpk.out _) ?_
  rintro e w1 ⟨rfl, hb1⟩
  have Hb1 := hid_ (Ha.out.trans (hb1.mono Ha.out.size))
  clear hb1
  go_wp2_with fail
  go_quiet (fail)
  go_wp2_with fail
  go_ret2
  exact ⟨rfl, below_drewN (Hb1.out.alloc Hb1.out.size _) _⟩
set_option maxRecDepth 100000 in
set_option maxHeartbeats 4000000 in
theorem tr7k_any (tr bn bd : Nat) (ok : Bool) (sn sd : Nat) (v : Int) (w : World) :
    Calls Try.prog 10 #[vReply tr bn bd ok sn sd v true] w fun e w' => e = .returned (.tuple #[.int .u64 (tr : Nat), .bool true]) ∧ Below w.heap.size w w' := by
  have k2 := fun v w => noMembers_Reply v w
  have Hpk := hid_ (fun W => pck7_any tr bn bd ok sn sd v W)
  have Ha := hid_ (show Below w.heap.size w (w.alloc (.cells #[.slice none 0 0] 46)) from (Below.refl _ _).alloc (Nat.le_refl _) _)
  go_enter Try.func10, Try.ntmps10
  go_wp2_with fail
  refine Calls.mono (Hpk.out _) ?_
  rintro e w1 ⟨rfl, hb1⟩
  have Hb1 := hid_ (Ha.out.trans (hb1.mono Ha.out.size))
  clear hb1
  go_wp2_with fail
  go_quiet (fail)
  go_wp2_with fail
  go_ret2
  exact ⟨rfl, below_drewN (Hb1.out.alloc Hb1.out.size _) _⟩
set_option maxRecDepth 100000 in
set_option maxHeartbeats 4000000 in
theorem tr8k_any (tr : Nat) (v : Int) (w : World) :
    Calls Try.prog 10 #[vTold tr v] w fun e w' => e = .returned (.tuple #[.int .u64 (tr : Nat), .bool true]) ∧ Below w.heap.size w w' := by
  have k2 := fun v w => noMembers_Told v w
  have Hpk := hid_ (fun W => pck8_any tr v W)
  have Ha := hid_ (show Below w.heap.size w (w.alloc (.cells #[.slice none 0 0] 46)) from (Below.refl _ _).alloc (Nat.le_refl _) _)
  go_enter Try.func10, Try.ntmps10
  go_wp2_with fail
  refine Calls.mono (Hpk.out _) ?_
  rintro e w1 ⟨rfl, hb1⟩
  have Hb1 := hid_ (Ha.out.trans (hb1.mono Ha.out.size))
  clear hb1
  go_wp2_with fail
  go_quiet (fail)
  go_wp2_with fail
  go_ret2
  exact ⟨rfl, below_drewN (Hb1.out.alloc Hb1.out.size _) _⟩
set_option maxRecDepth 100000 in
set_option maxHeartbeats 4000000 in
theorem tr9k_any (tr bn bd : Nat) (A : Option Addr) (n c : Nat) (w : World) :
    Calls Try.prog 10 #[.iface 58 (.agg #[.int .u64 (tr : Nat), .int .u64 (bn : Nat), .int .u64 (bd : Nat), .slice A n c])] w fun e w' => e = .returned (.tuple #[.int .u64 (tr : Nat), .bool true]) ∧ Below w.heap.size w w' := by
  have k2 := fun v w => noMembers_Stored v w
  have Hpk := hid_ (fun W => pck9_any tr bn bd A n c W)
  have Ha := hid_ (show Below w.heap.size w (w.alloc (.cells #[.slice none 0 0] 46)) from (Below.refl _ _).alloc (Nat.le_refl _) _)
  go_enter Try.func10, Try.ntmps10
  go_wp2_with fail
  refine Calls.mono (Hpk.out _) ?_
  rintro e w1 ⟨rfl, hb1⟩
  have Hb1 := hid_ (Ha.out.trans (hb1.mono Ha.out.size))
  clear hb1
  go_wp2_with fail
  go_quiet (fail)
  go_wp2_with fail
  go_ret2
  exact ⟨rfl, below_drewN (Hb1.out.alloc Hb1.out.size _) _⟩
set_option maxRecDepth 100000 in
set_option maxHeartbeats 4000000 in
theorem tr10k_any (tr : Nat) (A : Option Addr) (n c : Nat) (w : World) :
    Calls Try.prog 10 #[.iface 61 (.agg #[.int .u64 (tr : Nat), .slice A n c])] w fun e w' => e = .returned (.tuple #[.int .u64 (tr : Nat), .bool true]) ∧ Below w.heap.size w w' := by
  have k2 := fun v w => noMembers_Acked v w
  have Hpk := hid_ (fun W => pck10_any tr A n c W)
  have Ha := hid_ (show Below w.heap.size w (w.alloc (.cells #[.slice none 0 0] 46)) from (Below.refl _ _).alloc (Nat.le_refl _) _)
  go_enter Try.func10, Try.ntmps10
  go_wp2_with fail
  refine Calls.mono (Hpk.out _) ?_
  rintro e w1 ⟨rfl, hb1⟩
  have Hb1 := hid_ (Ha.out.trans (hb1.mono Ha.out.size))
  clear hb1
  go_wp2_with fail
  go_quiet (fail)
  go_wp2_with fail
  go_ret2
  exact ⟨rfl, below_drewN (Hb1.out.alloc Hb1.out.size _) _⟩
end Go.Proofs.Ytnpbokbfkdncmaa
