/-
  ReplicaDown: of any two packets (where both are light, and the number is 0 to 40) a replica whose disk goes down in its first write says so to all that is asked, till it is opened again, and no register has changed for who asks it; no condition on the input.
  The frame round the walk is written by the guide's own program for this statement.
-/
import Derived.Test.YthjhofmjhmnddaaGreatMGBE
import Derived.Test.YthjhofmjhmnddaaGreatMGDH
import Derived.Test.YthjhofmjhmnddaaGreatRows
import Derived.WalkKit
import Derived.ProofKit
import Derived.OpenShut
import Derived.ShutString
import Derived.ChangeOld
import Derived.Below
set_option linter.unusedSimpArgs false
set_option linter.unusedVariables false
namespace Go.Proofs.YthjhofmjhmnddaaGreat.replicaDown
open Go.ChangeShapes Go.WideShapes Go.ChangeAt Go.RowKit
open Go.ChangeMaps (open_string shut_string)
set_option linter.unusedVariables false
theorem own : ownKnob Tryz.prog.godebug = none := by kernel_rfl
theorem laidOut : laidOutB Tryz.prog = true := by kernel_rfl
def IsRow (k : IntKind) (w : World) (a : Option Addr) (len cap : Nat) (zs : List Int) : Prop :=
 (a = none ∧ len = 0 ∧ cap = 0 ∧ zs = []) ∨
 ∃ x, a = some x ∧ len ≤ cap ∧ cap ≤ maxLen ∧ zs.length = cap ∧ (∀ i, i < zs.length → w.cell? (x.add i) = some (.int k (zs.getD i 0))) ∧ ∀ n ∈ zs, (Lit.int k n).wf = true
open Fm Dsk Wl Re Rg Bl Vw Rp
set_option maxRecDepth 100000 in
set_option maxHeartbeats 16000000 in
theorem walk (v0 : Value) (v1 : Value) (a2 : Int) (w : World) (w0 : PacketV w v0) (w1 : PacketV w v1) (w2 : (Lit.int .i64 a2).wf = true) :
  Calls Tryz.prog 5 #[v0, v1, .int .i64 a2] w fun e w' => e = .returned (.bool true) ∧ Below w.heap.size w w' := by
 obtain ⟨p, sp, rfl, hp, hwp, -⟩ := w0
 obtain ⟨q, sq, rfl, hq, hwq, -⟩ := w1
 have HAl := hid_ (fun (W : World) => ralive_any W)
 have hba : Below w.heap.size w ((w.alloc (.cells #[.int .i64 p.kind, .int .u64 (p.trace : Nat), .int .u64 (p.bn : Nat), .int .u64 (p.bnode : Nat), .int .u64 (p.sn : Nat), .int .u64 (p.snode : Nat), .int .i64 p.v, .bool p.ok, .slice sp.a1 p.spans.length sp.c1, .slice sp.a2 p.members.length sp.c2, .slice sp.a3 p.ids.length sp.c3] 41)).alloc (.cells #[.int .i64 q.kind, .int .u64 (q.trace : Nat), .int .u64 (q.bn : Nat), .int .u64 (q.bnode : Nat), .int .u64 (q.sn : Nat), .int .u64 (q.snode : Nat), .int .i64 q.v, .bool q.ok, .slice sq.a1 q.spans.length sq.c1, .slice sq.a2 q.members.length sq.c2, .slice sq.a3 q.ids.length sq.c3] 41)) := ((Below.refl _ _).alloc (Nat.le_refl _) _).alloc (by simp) _
 have HX1 := hid_ ((whole_new w 41 #[.int .i64 p.kind, .int .u64 (p.trace : Nat), .int .u64 (p.bn : Nat), .int .u64 (p.bnode : Nat), .int .u64 (p.sn : Nat), .int .u64 (p.snode : Nat), .int .i64 p.v, .bool p.ok, .slice sp.a1 p.spans.length sp.c1, .slice sp.a2 p.members.length sp.c2, .slice sp.a3 p.ids.length sp.c3]).alloc (.cells #[.int .i64 q.kind, .int .u64 (q.trace : Nat), .int .u64 (q.bn : Nat), .int .u64 (q.bnode : Nat), .int .u64 (q.sn : Nat), .int .u64 (q.snode : Nat), .int .i64 q.v, .bool q.ok, .slice sq.a1 q.spans.length sq.c1, .slice sq.a2 q.members.length sq.c2, .slice sq.a3 q.ids.length sq.c3] 41))
 have HX2 := hid_ (whole_at (w.alloc (.cells #[.int .i64 p.kind, .int .u64 (p.trace : Nat), .int .u64 (p.bn : Nat), .int .u64 (p.bnode : Nat), .int .u64 (p.sn : Nat), .int .u64 (p.snode : Nat), .int .i64 p.v, .bool p.ok, .slice sp.a1 p.spans.length sp.c1, .slice sp.a2 p.members.length sp.c2, .slice sp.a3 p.ids.length sp.c3] 41)) (w.heap.size + 1) 41 #[.int .i64 q.kind, .int .u64 (q.trace : Nat), .int .u64 (q.bn : Nat), .int .u64 (q.bnode : Nat), .int .u64 (q.sn : Nat), .int .u64 (q.snode : Nat), .int .i64 q.v, .bool q.ok, .slice sq.a1 q.spans.length sq.c1, .slice sq.a2 q.members.length sq.c2, .slice sq.a3 q.ids.length sq.c3] (by simp))
 obtain ⟨wa, hwa⟩ : ∃ wa : World, wa = (w.alloc (.cells #[.int .i64 p.kind, .int .u64 (p.trace : Nat), .int .u64 (p.bn : Nat), .int .u64 (p.bnode : Nat), .int .u64 (p.sn : Nat), .int .u64 (p.snode : Nat), .int .i64 p.v, .bool p.ok, .slice sp.a1 p.spans.length sp.c1, .slice sp.a2 p.members.length sp.c2, .slice sp.a3 p.ids.length sp.c3] 41)).alloc (.cells #[.int .i64 q.kind, .int .u64 (q.trace : Nat), .int .u64 (q.bn : Nat), .int .u64 (q.bnode : Nat), .int .u64 (q.sn : Nat), .int .u64 (q.snode : Nat), .int .i64 q.v, .bool q.ok, .slice sq.a1 q.spans.length sq.c1, .slice sq.a2 q.members.length sq.c2, .slice sq.a3 q.ids.length sq.c3] 41) := ⟨_, rfl⟩
 rw [← hwa] at hba HX1 HX2
 have HWa := hid_ hwa
 have HBa := hid_ hba
 have HP := hid_ (And.intro (hp.below hba) hwp)
 have HQ := hid_ (And.intro (hq.below hba) hwq)
 have HLp := hid_ (fun (W : World) (hb : Below wa.heap.size wa W) => mslight_any p sp W (HP.out.1.below hb) hwp)
 have HLq := hid_ (fun (W : World) (hb : Below wa.heap.size wa W) => mslight_any q sq W (HQ.out.1.below hb) hwq)
 have hx1 := fun (W : World) (hb : Below wa.heap.size wa W) => HX1.out.below hb HX1.out.lt
 have hx2 := fun (W : World) (hb : Below wa.heap.size wa W) => HX2.out.below hb HX2.out.lt
 have HX1' := hid_ hx1
 have HX2' := hid_ hx2
 clear hp hq hwp hwq hba hwa hx1 hx2
 by_cases h0 : lightF p = false
 ·rw [h0] at HLp
  obtain ⟨x0, x1, x2, x3, x4, x5, x6, x7, x8, x9, x10⟩ := cells11 (HX1'.out wa (Below.refl _ _))
  go_enter Tryz.func5, Tryz.ntmps5
  go_wp2_with fail
  try rw [← HWa.out]
  (with_reducible refine Calls.mono (HLp.out _ (Below.refl _ _)) ?_)
  rintro e w1 ⟨rfl, hb1⟩
  have HB1 := hid_ hb1
  clear hb1
  clear x0 x1 x2 x3 x4 x5 x6 x7 x8 x9 x10
  go_wp2_with fail
  (with_reducible refine Calls.mono (HAl.out _) ?_)
  rintro e w' ⟨rfl, hbel⟩
  go_wp2_with fail
  go_ret
  exact ⟨rfl, HBa.out.trans ((HB1.out.trans (hbel.mono HB1.out.size)).mono HBa.out.size)⟩
 rw [Bool.not_eq_false] at h0
 have HFp := hid_ (light_ok h0)
 rw [h0] at HLp
 clear h0
 by_cases h1 : lightF q = false
 ·rw [h1] at HLq
  obtain ⟨x0, x1, x2, x3, x4, x5, x6, x7, x8, x9, x10⟩ := cells11 (HX1'.out wa (Below.refl _ _))
  go_enter Tryz.func5, Tryz.ntmps5
  go_wp2_with fail
  try rw [← HWa.out]
  (with_reducible refine Calls.mono (HLp.out _ (Below.refl _ _)) ?_)
  rintro e w1 ⟨rfl, hb1⟩
  have HB1 := hid_ hb1
  clear hb1
  clear x0 x1 x2 x3 x4 x5 x6 x7 x8 x9 x10
  obtain ⟨y0, y1, y2, y3, y4, y5, y6, y7, y8, y9, y10⟩ := cells11 (HX2'.out w1 HB1.out)
  go_wp2_with fail
  (with_reducible refine Calls.mono (HLq.out _ HB1.out) ?_)
  rintro e w2 ⟨rfl, hb2⟩
  have HB2 := hid_ (HB1.out.trans (hb2.mono HB1.out.size))
  clear hb2
  clear y0 y1 y2 y3 y4 y5 y6 y7 y8 y9 y10
  go_wp2_with fail
  (with_reducible refine Calls.mono (HAl.out _) ?_)
  rintro e w' ⟨rfl, hbel⟩
  go_wp2_with fail
  go_ret
  exact ⟨rfl, HBa.out.trans ((HB2.out.trans (hbel.mono HB2.out.size)).mono HBa.out.size)⟩
 rw [Bool.not_eq_false] at h1
 have HFq := hid_ (light_ok h1)
 rw [h1] at HLq
 clear h1
 by_cases h2 : a2 < 0
 ·have e2 : decide (a2 < 0) = true := decide_eq_true h2
  obtain ⟨x0, x1, x2, x3, x4, x5, x6, x7, x8, x9, x10⟩ := cells11 (HX1'.out wa (Below.refl _ _))
  go_enter Tryz.func5, Tryz.ntmps5
  go_wp2_with fail
  try rw [← HWa.out]
  (with_reducible refine Calls.mono (HLp.out _ (Below.refl _ _)) ?_)
  rintro e w1 ⟨rfl, hb1⟩
  have HB1 := hid_ hb1
  clear hb1
  clear x0 x1 x2 x3 x4 x5 x6 x7 x8 x9 x10
  obtain ⟨y0, y1, y2, y3, y4, y5, y6, y7, y8, y9, y10⟩ := cells11 (HX2'.out w1 HB1.out)
  go_wp2_with fail
  (with_reducible refine Calls.mono (HLq.out _ HB1.out) ?_)
  rintro e w2 ⟨rfl, hb2⟩
  have HB2 := hid_ (HB1.out.trans (hb2.mono HB1.out.size))
  clear hb2
  clear y0 y1 y2 y3 y4 y5 y6 y7 y8 y9 y10
  go_wp2_with fail
  (with_reducible refine Calls.mono (HAl.out _) ?_)
  rintro e w' ⟨rfl, hbel⟩
  go_wp2_with fail
  go_ret
  exact ⟨rfl, HBa.out.trans ((HB2.out.trans (hbel.mono HB2.out.size)).mono HBa.out.size)⟩
 have e2 : decide (a2 < 0) = false := decide_eq_false h2
 by_cases h3 : 40 < a2
 ·have e3 : decide ((40 : Int) < a2) = true := decide_eq_true h3
  obtain ⟨x0, x1, x2, x3, x4, x5, x6, x7, x8, x9, x10⟩ := cells11 (HX1'.out wa (Below.refl _ _))
  go_enter Tryz.func5, Tryz.ntmps5
  go_wp2_with fail
  try rw [← HWa.out]
  (with_reducible refine Calls.mono (HLp.out _ (Below.refl _ _)) ?_)
  rintro e w1 ⟨rfl, hb1⟩
  have HB1 := hid_ hb1
  clear hb1
  clear x0 x1 x2 x3 x4 x5 x6 x7 x8 x9 x10
  obtain ⟨y0, y1, y2, y3, y4, y5, y6, y7, y8, y9, y10⟩ := cells11 (HX2'.out w1 HB1.out)
  go_wp2_with fail
  (with_reducible refine Calls.mono (HLq.out _ HB1.out) ?_)
  rintro e w2 ⟨rfl, hb2⟩
  have HB2 := hid_ (HB1.out.trans (hb2.mono HB1.out.size))
  clear hb2
  clear y0 y1 y2 y3 y4 y5 y6 y7 y8 y9 y10
  go_wp2_with fail
  (with_reducible refine Calls.mono (HAl.out _) ?_)
  rintro e w' ⟨rfl, hbel⟩
  go_wp2_with fail
  go_ret
  exact ⟨rfl, HBa.out.trans ((HB2.out.trans (hbel.mono HB2.out.size)).mono HBa.out.size)⟩
 have e3 : decide ((40 : Int) < a2) = false := decide_eq_false h3
 have HN := hid_ (show 0 ≤ a2 ∧ a2 ≤ 40 by omega)
 obtain ⟨x0, x1, x2, x3, x4, x5, x6, x7, x8, x9, x10⟩ := cells11 (HX1'.out wa (Below.refl _ _))
 go_enter Tryz.func5, Tryz.ntmps5
 go_wp2_with fail
 try rw [← HWa.out]
 (with_reducible refine Calls.mono (HLp.out _ (Below.refl _ _)) ?_)
 rintro e w1 ⟨rfl, hb1⟩
 have HB1 := hid_ hb1
 clear hb1
 clear x0 x1 x2 x3 x4 x5 x6 x7 x8 x9 x10
 obtain ⟨y0, y1, y2, y3, y4, y5, y6, y7, y8, y9, y10⟩ := cells11 (HX2'.out w1 HB1.out)
 go_wp2_with fail
 (with_reducible refine Calls.mono (HLq.out _ HB1.out) ?_)
 rintro e w2 ⟨rfl, hb2⟩
 have HB2 := hid_ (HB1.out.trans (hb2.mono HB1.out.size))
 clear hb2
 clear y0 y1 y2 y3 y4 y5 y6 y7 y8 y9 y10
 have HNw := hid_ (new_any 1048576 (by decide) (by decide) w2)
 rw [show ((1048576 : Nat) : Int) = 1048576 from rfl] at HNw
 go_wp2_with fail
 (with_reducible refine Calls.mono HNw.out ?_)
 rintro e w3 ⟨rfl, hd, hb3⟩
 have HDk := hid_ (show DkB wa.heap.size wa w3 w2.heap.size (fun q => q = w2.heap.size) (newD 1048576) from ⟨hd, HB2.out.trans (hb3.mono HB2.out.size), fun q hq => by have := HB2.out.size; omega, Nat.le_refl _⟩)
 have HOp := hid_ (fresh_open HDk.out (most := 256) (by decide) (by decide) (fun _ => False) (fun q h => h.elim))
 clear hd hb3 h2 h3 e2 e3
 generalize w2.heap.size = gd at *
 go_wp2_with fail
 (with_reducible refine Calls.mono HOp.out ?_)
 rintro e w4 ⟨gr, X, E, d, rfl, hu, ha, hr, -, -, -⟩
 have HU := hid_ hu
 have HA := hid_ (And.intro ha hr)
 have HAr := hid_ (hu.arm a2 (by have := HN.out; omega))
 clear hu ha hr HOp HNw HDk
 go_wp2_with fail
 (with_reducible refine Calls.mono HAr.out ?_)
 rintro e w5 ⟨X5, E5, rfl, -, hu5⟩
 have HAll := hid_ (hu5.all (Nat.zero_le _))
 have HU5 := hid_ hu5
 clear hu5 HAr
 go_wp2_with fail
 (with_reducible refine Calls.mono HAll.out ?_)
 rintro e w6 ⟨A6, c6, rfl, hrow6, -, hb6⟩
 have HU6 := hid_ (HU5.out.later hb6)
 have HRow6 := hid_ hrow6
 have HB6 := hid_ HU6.out.below
 have HHa := hid_ (HU6.out.handle p sp (HP.out.1.below HB6.out) HP.out.2 HFp.out (by decide))
 clear hrow6 hb6 HAll
 obtain ⟨x0, x1, x2, x3, x4, x5, x6, x7, x8, x9, x10⟩ := cells11 (HX1'.out w6 HB6.out)
 go_wp2_with fail
 (with_reducible refine Calls.mono HHa.out ?_)
 rintro e w7 ⟨k, qa, X7, E7, d7, L7, rfl, mv7, ro7, ar7, h107, hk7, hcase⟩
 clear x0 x1 x2 x3 x4 x5 x6 x7 x8 x9 x10
 have HMv7 := hid_ mv7
 clear mv7 h107 HHa
 have HRH := hid_ (fun (W : World) (hb : Below wa.heap.size wa W) => rhandle_any none 0 0 [] p sp W (Enc.Row.none W) (HP.out.1.below hb) HP.out.2 (fun a e => by cases e) (by decide) List.Pairwise.nil (fun o ho => by cases ho))
 have HRQ := hid_ (fun (W : World) (hb : Below wa.heap.size wa W) => rhandle_any none 0 0 [] q sq W (Enc.Row.none W) (HQ.out.1.below hb) HQ.out.2 (fun a e => by cases e) (by decide) List.Pairwise.nil (fun o ho => by cases ho))
 rcases hask : askP p with _ | _
 ·obtain ⟨rfl, hu7⟩ : k = 6 ∧ RpU wa w7 gr gd X7 E7 d7 256 L7 [] (0 + 2) := by
   rcases hcase with ⟨h9, -, -, -, h8⟩ | ⟨-, h9, -⟩ | ⟨-, h9, -⟩ | ⟨-, h9, -⟩
   ·exact ⟨h9, h8⟩
   ·rw [hask] at h9; cases h9
   ·rw [hask] at h9; cases h9
   ·rw [hask] at h9; cases h9
  have HB7 := hid_ hu7.below
  have HB8 := hid_ (HB7.out.alloc HB7.out.size (.cells #[.int .i64 qa.kind, .int .u64 (qa.trace : Nat), .int .u64 (qa.bn : Nat), .int .u64 (qa.bnode : Nat), .int .u64 (qa.sn : Nat), .int .u64 (qa.snode : Nat), .int .i64 qa.v, .bool qa.ok, .slice none qa.spans.length 0, .slice none qa.members.length 0, .slice none qa.ids.length 0] 41))
  have HAk := hid_ hask
  clear hcase hk7 hu7
  obtain ⟨x0, x1, x2, x3, x4, x5, x6, x7, x8, x9, x10⟩ := cells11 (HX1'.out (w7.alloc (.cells #[.int .i64 qa.kind, .int .u64 (qa.trace : Nat), .int .u64 (qa.bn : Nat), .int .u64 (qa.bnode : Nat), .int .u64 (qa.sn : Nat), .int .u64 (qa.snode : Nat), .int .i64 qa.v, .bool qa.ok, .slice none qa.spans.length 0, .slice none qa.members.length 0, .slice none qa.ids.length 0] 41)) HB8.out)
  go_wp2_with fail
  (with_reducible refine Calls.mono (HRH.out _ HB8.out) ?_)
  rintro e w9 ⟨A9, c9, m9, q9, rfl, -, -, -, -, hb9⟩
  clear x0 x1 x2 x3 x4 x5 x6 x7 x8 x9 x10
  have HB9 := hid_ (HB8.out.trans (hb9.mono HB8.out.size))
  have HB10 := hid_ (HB9.out.alloc HB9.out.size (.cells #[.int .i64 q9.kind, .int .u64 (q9.trace : Nat), .int .u64 (q9.bn : Nat), .int .u64 (q9.bnode : Nat), .int .u64 (q9.sn : Nat), .int .u64 (q9.snode : Nat), .int .i64 q9.v, .bool q9.ok, .slice none q9.spans.length 0, .slice none q9.members.length 0, .slice none q9.ids.length 0] 41))
  rw [hask]
  clear hb9 hask
  go_wp2_with fail
  (with_reducible refine Calls.mono (HAl.out _) ?_)
  rintro e w' ⟨rfl, hbel⟩
  go_wp2_with fail
  go_ret
  exact ⟨rfl, HBa.out.trans ((HB10.out.trans (hbel.mono HB10.out.size)).mono HBa.out.size)⟩
 ·obtain ⟨rfl, S, hd7⟩ : k = 10 ∧ ∃ S, RpD wa w7 gr gd X7 E7 d7 256 [] S (0 + 2) := by
   have hgr := ask_has hask
   have hsm : sameR (handX [] p) (getR [] p.trace) = false := by
    rcases hs : sameR (handX [] p) (getR [] p.trace) with _ | _
    ·rfl
    ·have e := (sameR_iff _ _).1 hs
     have hg : handG [] p = true := by
      rcases hg : handG [] p with _ | _
      ·exact absurd hg (by rw [fresh_grant hask]; decide)
      ·rfl
     exact absurd e (grant_nz (show (balP p).pos ≠ 0 from hgr.2.1) hg)
   have e0 := hk7 hask
   rw [hsm, if_neg (by decide), fresh_append HU6.out.up _ (by show 1000 ≤ d.room; rw [HA.out.2]; decide)] at e0
   have e1 : (armD d a2).armed = true := decide_eq_true HN.out.1
   have e2 : decide ((armD d a2).left ≤ 40) = true := decide_eq_true (by show a2.toNat ≤ 40; have := HN.out; omega)
   rw [e1, e2] at e0
   have e3 : k = 10 := e0
   subst e3
   rcases hcase with ⟨h9, -⟩ | ⟨h9, -⟩ | ⟨h9, -⟩ | ⟨-, -, -, -, h8⟩
   ·cases h9
   ·cases h9
   ·cases h9
   ·exact ⟨rfl, _, h8⟩
  have HD7 := hid_ hd7
  have HB7 := hid_ hd7.below
  have HB8 := hid_ (HB7.out.alloc HB7.out.size (.cells #[.int .i64 qa.kind, .int .u64 (qa.trace : Nat), .int .u64 (qa.bn : Nat), .int .u64 (qa.bnode : Nat), .int .u64 (qa.sn : Nat), .int .u64 (qa.snode : Nat), .int .i64 qa.v, .bool qa.ok, .slice none qa.spans.length 0, .slice none qa.members.length 0, .slice none qa.ids.length 0] 41))
  have HD8 := hid_ (hd7.later ((Below.refl w7.heap.size w7).alloc (Nat.le_refl _) (.cells #[.int .i64 qa.kind, .int .u64 (qa.trace : Nat), .int .u64 (qa.bn : Nat), .int .u64 (qa.bnode : Nat), .int .u64 (qa.sn : Nat), .int .u64 (qa.snode : Nat), .int .i64 qa.v, .bool qa.ok, .slice none qa.spans.length 0, .slice none qa.members.length 0, .slice none qa.ids.length 0] 41)))
  clear hcase hk7 hd7
  obtain ⟨x0, x1, x2, x3, x4, x5, x6, x7, x8, x9, x10⟩ := cells11 (HX1'.out (w7.alloc (.cells #[.int .i64 qa.kind, .int .u64 (qa.trace : Nat), .int .u64 (qa.bn : Nat), .int .u64 (qa.bnode : Nat), .int .u64 (qa.sn : Nat), .int .u64 (qa.snode : Nat), .int .i64 qa.v, .bool qa.ok, .slice none qa.spans.length 0, .slice none qa.members.length 0, .slice none qa.ids.length 0] 41)) HB8.out)
  go_wp2_with fail
  (with_reducible refine Calls.mono (HRH.out _ HB8.out) ?_)
  rintro e w9 ⟨A9, c9, m9, q9, rfl, -, -, -, -, hb9⟩
  clear x0 x1 x2 x3 x4 x5 x6 x7 x8 x9 x10
  have HB9 := hid_ (HB8.out.trans (hb9.mono HB8.out.size))
  have HD9 := hid_ (HD8.out.later hb9)
  have HD10 := hid_ (HD9.out.later ((Below.refl w9.heap.size w9).alloc (Nat.le_refl _) (.cells #[.int .i64 q9.kind, .int .u64 (q9.trace : Nat), .int .u64 (q9.bn : Nat), .int .u64 (q9.bnode : Nat), .int .u64 (q9.sn : Nat), .int .u64 (q9.snode : Nat), .int .i64 q9.v, .bool q9.ok, .slice none q9.spans.length 0, .slice none q9.members.length 0, .slice none q9.ids.length 0] 41)))
  have HB10 := hid_ HD10.out.below
  rw [hask]
  have HHq := hid_ (HD10.out.handle q sq (HQ.out.1.below HB10.out) HQ.out.2 HFq.out)
  clear hb9
  obtain ⟨y0, y1, y2, y3, y4, y5, y6, y7, y8, y9, y10⟩ := cells11 (HX2'.out (w9.alloc (.cells #[.int .i64 q9.kind, .int .u64 (q9.trace : Nat), .int .u64 (q9.bn : Nat), .int .u64 (q9.bnode : Nat), .int .u64 (q9.sn : Nat), .int .u64 (q9.snode : Nat), .int .i64 q9.v, .bool q9.ok, .slice none q9.spans.length 0, .slice none q9.members.length 0, .slice none q9.ids.length 0] 41)) HB10.out)
  go_wp2_with fail
  (with_reducible refine Calls.mono HHq.out ?_)
  rintro e w11 ⟨kq, X11, E11, rfl, hkq, -, hd11⟩
  clear y0 y1 y2 y3 y4 y5 y6 y7 y8 y9 y10
  have HKq := hid_ hkq
  clear hkq
  have HD11 := hid_ hd11
  have HB11 := hid_ hd11.below
  have HD12 := hid_ (hd11.later ((Below.refl w11.heap.size w11).alloc (Nat.le_refl _) (.cells #[.int .i64 0, .int .u64 0, .int .u64 0, .int .u64 0, .int .u64 0, .int .u64 0, .int .i64 0, .bool false, .slice none 0 0, .slice none 0 0, .slice none 0 0] 41)))
  have HB12 := hid_ HD12.out.below
  clear hd11 HHq
  obtain ⟨y0, y1, y2, y3, y4, y5, y6, y7, y8, y9, y10⟩ := cells11 (HX2'.out (w11.alloc (.cells #[.int .i64 0, .int .u64 0, .int .u64 0, .int .u64 0, .int .u64 0, .int .u64 0, .int .i64 0, .bool false, .slice none 0 0, .slice none 0 0, .slice none 0 0] 41)) HB12.out)
  go_wp2_with fail
  (with_reducible refine Calls.mono (HRQ.out _ HB12.out) ?_)
  rintro e w13 ⟨A13, c13, m13, q13, rfl, -, -, -, -, hb13⟩
  clear y0 y1 y2 y3 y4 y5 y6 y7 y8 y9 y10
  have HD13 := hid_ (HD12.out.later hb13)
  have HD14 := hid_ (HD13.out.later ((Below.refl w13.heap.size w13).alloc (Nat.le_refl _) (.cells #[.int .i64 q13.kind, .int .u64 (q13.trace : Nat), .int .u64 (q13.bn : Nat), .int .u64 (q13.bnode : Nat), .int .u64 (q13.sn : Nat), .int .u64 (q13.snode : Nat), .int .i64 q13.v, .bool q13.ok, .slice none q13.spans.length 0, .slice none q13.members.length 0, .slice none q13.ids.length 0] 41)))
  have HAll := hid_ (HD14.out.all (Nat.zero_le _))
  clear hb13
  rcases haq : askP q with _ | _
  ·have hkq := HKq.out
   rw [haq, if_neg (by decide)] at hkq
   subst hkq
   go_wp2_with fail
   (with_reducible refine Calls.mono HAll.out ?_)
   rintro e w15 ⟨A15, c15, rfl, hrow15, -, hb15⟩
   have HD15 := hid_ (HD14.out.later hb15)
   have HSm := hid_ (onesame_any A15 A6 0 0 c15 c6 [] [] w15 hrow15 (show oneE.Row w15 A6 0 c6 [] from ⟨fun h => absurd rfl h, rfl, HRow6.out.cap, HRow6.out.max, HRow6.out.nil⟩))
   rw [sameOs_self] at HSm
   clear hb15 hrow15
   go_wp2_with fail
   (with_reducible refine Calls.mono HSm.out ?_)
   rintro e w16 ⟨rfl, hb16⟩
   have HD16 := hid_ (HD15.out.later hb16)
   have HCo := hid_ HD16.out.compact
   clear hb16
   go_wp2_with fail
   (with_reducible refine Calls.mono HCo.out ?_)
   rintro e w17 ⟨X17, E17, rfl, -, hd17⟩
   have HB17 := hid_ hd17.below
   clear hd17
   go_wp2_with fail
   (with_reducible refine Calls.mono (HAl.out _) ?_)
   rintro e w' ⟨rfl, hbel⟩
   go_wp2_with fail
   go_ret
   exact ⟨rfl, HBa.out.trans ((HB17.out.trans (hbel.mono HB17.out.size)).mono HBa.out.size)⟩
  ·have hkq := HKq.out
   rw [haq, if_pos rfl] at hkq
   subst hkq
   go_wp2_with fail
   (with_reducible refine Calls.mono HAll.out ?_)
   rintro e w15 ⟨A15, c15, rfl, hrow15, -, hb15⟩
   have HD15 := hid_ (HD14.out.later hb15)
   have HSm := hid_ (onesame_any A15 A6 0 0 c15 c6 [] [] w15 hrow15 (show oneE.Row w15 A6 0 c6 [] from ⟨fun h => absurd rfl h, rfl, HRow6.out.cap, HRow6.out.max, HRow6.out.nil⟩))
   rw [sameOs_self] at HSm
   clear hb15 hrow15
   go_wp2_with fail
   (with_reducible refine Calls.mono HSm.out ?_)
   rintro e w16 ⟨rfl, hb16⟩
   have HD16 := hid_ (HD15.out.later hb16)
   have HCo := hid_ HD16.out.compact
   clear hb16
   go_wp2_with fail
   (with_reducible refine Calls.mono HCo.out ?_)
   rintro e w17 ⟨X17, E17, rfl, -, hd17⟩
   have HB17 := hid_ hd17.below
   clear hd17
   go_wp2_with fail
   (with_reducible refine Calls.mono (HAl.out _) ?_)
   rintro e w' ⟨rfl, hbel⟩
   go_wp2_with fail
   go_ret
   exact ⟨rfl, HBa.out.trans ((HB17.out.trans (hbel.mono HB17.out.size)).mono HBa.out.size)⟩
set_option maxRecDepth 100000 in
theorem lifted (os : Os) (started : os.Started) (H : Type) (enc : TypeId × Value → H) :
  ReturnsInHanded {} Tryz.checked os 5 .any (Rows.replicaDownSpec.pre6 enc Tryz.prog Tryz.f5 Rows.replicaDownRow.domain false) (Rows.replicaDownSpec.post enc Tryz.prog Tryz.f5 false true false false) := by
 refine returnsInHanded_of_change (C := Tryz.checked) own started (by kernel_rfl) Tryz.func5
  (ChangeSpec.witness6 (enc := enc) (C := Tryz.checked) false ⟨#[], #[(.agg #[.int .i64 0, .int .u64 0, .int .u64 0, .int .u64 0, .int .u64 0, .int .u64 0, .int .i64 0, .bool false, .slice none 0 0, .slice none 0 0, .slice none 0 0]), (.agg #[.int .i64 0, .int .u64 0, .int .u64 0, .int .u64 0, .int .u64 0, .int .u64 0, .int .i64 0, .bool false, .slice none 0 0, .slice none 0 0, .slice none 0 0]), .int .i64 0], []⟩ 8 (by kernel_rfl) (by kernel_rfl) (by kernel_rfl) (by kernel_rfl)) ?_
 intro W base args ds gs before hval0 hW hcnd _
 have hval : ∀ (j : Nat) t v, Tryz.f5.params[j]? = some t → args[j]? = some v → Value.okWide Tryz.prog W .any base t v := hval0
 have hW' := hW
 obtain ⟨p, q, hA0, hV, rfl, hfz, hnd⟩ := hW
 have hA : DataW.TrodAll enc Tryz.prog W 0 (fun _ => true) true Tryz.f5.params.toList args.toList ds p := hA0
 rw [Tryz.params5] at hA hval
 obtain ⟨v0, vs0, d0, ds0, p0, q0, hargs, rfl, rfl, h0, r0⟩ := trodAll_cons hA
 obtain ⟨v1, vs1, d1, ds1, p1, q1, rfl, rfl, rfl, h1, r1⟩ := trodAll_cons r0
 obtain ⟨v2, vs2, d2, ds2, p2, q2, rfl, rfl, rfl, h2, r2⟩ := trodAll_cons r1
 obtain ⟨rfl, rfl, rfl⟩ := trodAll_nil r2
 obtain rfl : args = #[v0, v1, v2] := by cases args; simp_all
 obtain ⟨rfl, rfl⟩ := trodVars_none hV
 have k0 := h0
 have lt0 : ∀ x ∈ p0, x.block < W.heap.size := by obtain ⟨m, hm⟩ := k0; exact DataW.trod_lt m _ _ _ hm
 have w0 : PacketV W v0 := open_packetV (hval 0 41 v0 rfl rfl) h0
 have k1 := h1
 have lt1 : ∀ x ∈ p1, x.block < W.heap.size := by obtain ⟨m, hm⟩ := k1; exact DataW.trod_lt m _ _ _ hm
 have w1 : PacketV W v1 := open_packetV (hval 1 41 v1 rfl rfl) h1
 obtain ⟨a2, rfl, rfl, rfl, w2⟩ := open_int Tryz.underlying3 (hval 2 3 v2 rfl rfl) h2
 clear hA0 hval0
 refine (walk v0 v1 a2 W w0 w1 w2).mono fun e W' ⟨he, bel⟩ => ?_
 subst he
 exact ⟨_, rfl, _, _, _, [], _, [], hW', trodAll_mk1 (shut_bool Tryz.underlying4 _), (trodAll_cons_mk (Below.trod laidOut (by kernel_rfl) (of_decide_eq_true (by kernel_rfl)) k0 bel lt0) (trodAll_cons_mk (Below.trod laidOut (by kernel_rfl) (of_decide_eq_true (by kernel_rfl)) k1 bel lt1) (trodAll_cons_mk (shut_int Tryz.underlying3 w2) trodAll_mk0))), rfl, bel.frame _, fun h => by cases h⟩
theorem over : Rows.replicaDownRow.holds Tryz.pinned (OpenSpec.ofChange Rows.replicaDownSpec) :=
 OpenClaim.holds_of_wide 5 Tryz.f5 rfl rfl rfl rfl rfl rfl rfl ⟨rfl, rfl, rfl, rfl, rfl⟩ rfl rfl rfl rfl rfl (by kernel_rfl) Tryz.func5 (by kernel_rfl)
  (of_decide_eq_true (by kernel_rfl)) (by unfold Func.isWrapper; first | (rw [if_pos (by decide +kernel)]; kernel_rfl) | (rw [if_neg (by decide +kernel)]; exact ⟨rfl, rfl⟩))
  (fun os started H enc _ => lifted os started H enc)
theorem proved : Rows.ReplicaDownSaid := over
#print axioms proved
end Go.Proofs.YthjhofmjhmnddaaGreat.replicaDown
