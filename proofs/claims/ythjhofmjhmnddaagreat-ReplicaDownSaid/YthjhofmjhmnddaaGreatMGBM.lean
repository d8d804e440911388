/-
  The packet of a thing, with the thing's own lists.
-/
import Derived.Test.YthjhofmjhmnddaaGreatMGAA
import Derived.Test.YthjhofmjhmnddaaGreatMGBG
import Derived.Test.YthjhofmjhmnddaaGreatMGBL
import Derived.Test.YthjhofmjhmnddaaGreatMShelf
import Derived.BigQuiet
import Derived.StillTailTactics
import Derived.Deep.RegionHeld3
set_option linter.unusedSimpArgs false
set_option linter.unusedVariables false
namespace Go.Proofs.YthjhofmjhmnddaaGreat
open Go.RowKit
abbrev vSpans (tr : Nat) (hand : Bool) (A : Option Addr) (n c : Nat) : Value := .iface 170 (.agg #[.int .u64 (tr : Nat), .bool hand, .slice A n c])
abbrev vMembers (A : Option Addr) (n c : Nat) : Value := .iface 173 (.agg #[.slice A n c])
abbrev vAsk (tr bn bd : Nat) (v : Int) : Value := .iface 95 (.agg #[.int .u64 (tr : Nat), .int .u64 (bn : Nat), .int .u64 (bd : Nat), .int .i64 v])
abbrev vReply (tr bn bd : Nat) (ok : Bool) (sn sd : Nat) (v : Int) (took : Bool) : Value := .iface 175 (.agg #[.int .u64 (tr : Nat), .int .u64 (bn : Nat), .int .u64 (bd : Nat), .bool ok, .int .u64 (sn : Nat), .int .u64 (sd : Nat), .int .i64 v, .bool took])
abbrev vTold (tr : Nat) (v : Int) : Value := .iface 177 (.agg #[.int .u64 (tr : Nat), .int .i64 v])
abbrev vStored (tr bn bd : Nat) (A : Option Addr) (n c : Nat) : Value := .iface 179 (.agg #[.int .u64 (tr : Nat), .int .u64 (bn : Nat), .int .u64 (bd : Nat), .slice A n c])
abbrev vAcked (tr : Nat) (A : Option Addr) (n c : Nat) : Value := .iface 182 (.agg #[.int .u64 (tr : Nat), .slice A n c])
end Go.Proofs.YthjhofmjhmnddaaGreat
/-
 The thing of a packet, by kinds; clones of its lists.
-/
namespace Go.Proofs.YthjhofmjhmnddaaGreat
open Go.RowKit Ru
open Go.Proofs Go.Shelf
theorem info_memT : (Tryz.prog.info? 111).map (fun i => (i.zero, i.size, i.bytes)) = some (some (.agg #[.int .u64 0, .int .u64 0, .int .i64 0]), 3, 24) := by kernel_rfl
theorem info_idT : (Tryz.prog.info? 33).map (fun i => (i.zero, i.size, i.bytes)) = some (some (.int .u64 0), 1, 8) := by kernel_rfl
theorem own_memT {B : Nat} {w : World} {A : Option Addr} {n c : Nat} {ms : List MemberD} (h : w.ownsRow B 111 3 (.slice A n c) n (memsAll ms)) : MemRow w A n c ms := by
 have hl : ms.length = n := by
  have := h.1
  rw [memsAll_length] at this
  omega
 have hh := own_holds h
 obtain ⟨hx, ⟨e, _⟩ | ⟨g, cap, cur, e, hg, hh2, hnc, hcm, hs, hc⟩⟩ := h
 ·injection e with a b c
  subst a c
  exact memRow_of hh hl (by omega) (by omega) (fun _ => rfl)
 ·injection e with a b c
  subst a c
  unfold maxLen at hcm
  exact memRow_of hh hl hnc (by omega) (fun e => by cases e)
def ListPost (R : World → Option Addr → Nat → Prop) (n : Nat) (V : Value → Value) (w : World) (e : Ending) (w' : World) : Prop := ∃ A c, e = .returned (V (.slice A n c)) ∧ R w' A c ∧ Below w.heap.size w w'
theorem listPost_mk {R : World → Option Addr → Nat → Prop} {n c : Nat} {A : Option Addr} {V : Value → Value} {v : Value} {w w' : World} (hv : v = V (.slice A n c)) (h : R w' A c) (hb : Below w.heap.size w w') : ListPost R n V w (.returned v) w' := by rw [hv]; exact ⟨A, c, rfl, h, hb⟩
theorem cloneSp_any (A : Option Addr) (n c : Nat) (ss : List SpanD) (w : World) (hs : SpanRow w A n c ss) (hn : n ≤ 1000000) (hne : A = none ∨ ss ≠ []) :
  Calls Tryz.prog 97 #[.slice A n c] w (ListPost (fun w' A c => SpanRow w' A n c ss ∧ ∀ a, A = some a → ss ≠ [] → w.heap.size ≤ a.block) n id w) := by
 obtain ⟨i0, hi0, hz0, hz1, hz2⟩ := info_parts info_span
 have hlen := hs.len
 rcases A with _ | a
 ·have h0 := hs.nil rfl
  have h1 := hs.cap
  obtain rfl : n = 0 := by omega
  subst h0
  refine Calls.mono (AnyE.slices_Clone_nil Sh.cloneSpans 0 0 w) ?_
  rintro e w' ⟨rfl, rfl⟩
  exact listPost_mk rfl ⟨hs, fun a e => by cases e⟩ (Below.refl _ _)
 ·have hne2 : ss ≠ [] := by rcases hne with h | h; cases h; exact h
  obtain ⟨b, o, e, -⟩ := hs.holds hne2
  cases e
  refine Calls.mono (AnyE.slices_Clone Sh.cloneSpans i0 _ 8 80 hi0 hz0 hz1 hz2 rfl (by omega) (fun w => by kernel_rfl) b o n c (cellsAll ss) w (by rw [cellsAll_length]; omega) (by unfold maxLen; omega) (by omega) (fun j u hu => ?_) (cellsAll_one ss)) ?_
  ·obtain ⟨b2, o2, e, hc⟩ := hs.cells (by rintro hh; rw [hh] at hu; simp at hu)
   cases e
   exact hc j u hu
  ·rintro e w' ⟨v', rfl, ho, _, hb⟩
   obtain ⟨A', c', rfl, -⟩ := own_form ho
   exact listPost_mk rfl ⟨OwnSp.row ho, fun a e _ => own_from ho a.block (by rw [e]; rfl)⟩ hb
theorem cloneMem_any (A : Option Addr) (n c : Nat) (ss : List MemberD) (w : World) (hs : MemRow w A n c ss) (hn : n ≤ 1000000) (hne : A = none ∨ ss ≠ []) :
  Calls Tryz.prog 98 #[.slice A n c] w (ListPost (fun w' A c => MemRow w' A n c ss ∧ ∀ a, A = some a → ss ≠ [] → w.heap.size ≤ a.block) n id w) := by
 obtain ⟨i0, hi0, hz0, hz1, hz2⟩ := info_parts info_memT
 have hlen := hs.len
 rcases A with _ | a
 ·have h0 := hs.nil rfl
  have h1 := hs.cap
  obtain rfl : n = 0 := by omega
  subst h0
  refine Calls.mono (AnyE.slices_Clone_nil Sh.cloneMembers 0 0 w) ?_
  rintro e w' ⟨rfl, rfl⟩
  exact listPost_mk rfl ⟨hs, fun a e => by cases e⟩ (Below.refl _ _)
 ·have hne2 : ss ≠ [] := by rcases hne with h | h; cases h; exact h
  obtain ⟨b, o, e, -⟩ := hs.holds hne2
  cases e
  refine Calls.mono (AnyE.slices_Clone Sh.cloneMembers i0 _ 3 24 hi0 hz0 hz1 hz2 rfl (by omega) (fun w => by kernel_rfl) b o n c (memsAll ss) w (by rw [memsAll_length]; omega) (by unfold maxLen; omega) (by omega) (fun j u hu => ?_) (memsAll_one ss)) ?_
  ·obtain ⟨b2, o2, e, hc⟩ := hs.cells (by rintro hh; rw [hh] at hu; simp at hu)
   cases e
   exact hc j u hu
  ·rintro e w' ⟨v', rfl, ho, _, hb⟩
   obtain ⟨A', c', rfl, -⟩ := own_form ho
   exact listPost_mk rfl ⟨own_memT ho, fun a e _ => own_from ho a.block (by rw [e]; rfl)⟩ hb
theorem cloneId_any (A : Option Addr) (n c : Nat) (ss : List Nat) (w : World) (hs : Row w A n c (idVals ss)) (hn : n ≤ 1000000) (hne : A = none ∨ ss ≠ []) :
  Calls Tryz.prog 99 #[.slice A n c] w (ListPost (fun w' A c => Row w' A n c (idVals ss) ∧ ∀ a, A = some a → ss ≠ [] → w.heap.size ≤ a.block) n id w) := by
 obtain ⟨i0, hi0, hz0, hz1, hz2⟩ := info_parts info_idT
 have hlen := hs.len
 have hlen2 : (idVals ss).length = ss.length := by simp [idVals]
 rcases A with _ | a
 ·have h0 := hs.nil rfl
  have h1 := hs.cap
  obtain rfl : n = 0 := by omega
  subst h0
  refine Calls.mono (AnyE.slices_Clone_nil Sh.cloneIds 0 0 w) ?_
  rintro e w' ⟨rfl, rfl⟩
  exact listPost_mk rfl ⟨hs, fun a e => by cases e⟩ (Below.refl _ _)
 ·have hne2 : idVals ss ≠ [] := by rcases hne with h | h; cases h; (intro e; apply h; have := congrArg List.length e; rw [hlen2] at this; exact List.eq_nil_of_length_eq_zero this)
  obtain ⟨b, o, e, hc⟩ := hs.holds hne2
  cases e
  refine Calls.mono (AnyE.slices_Clone Sh.cloneIds i0 _ 1 8 hi0 hz0 hz1 hz2 rfl (by omega) (fun w => by kernel_rfl) b o n c (idVals ss) w (by omega) (by unfold maxLen; omega) (by omega) hc (fun u hu => by simp [idVals] at hu; obtain ⟨x, _, rfl⟩ := hu; rfl)) ?_
  rintro e w' ⟨v', rfl, ho, _, hb⟩
  obtain ⟨A', c', rfl, -⟩ := own_form ho
  exact listPost_mk rfl ⟨OwnV.row (show OwnV 33 _ _ _ _ _ _ from ho), fun a e _ => own_from ho a.block (by rw [e]; rfl)⟩ hb
set_option maxRecDepth 100000 in
set_option maxHeartbeats 4000000 in
theorem thing1k_any (tr bn bd sn sd : Nat) (v : Int) (ok : Bool) (l1 : List SpanD) (l2 : List MemberD) (l3 : List Nat) (a1 : Option Addr) (c1 : Nat) (a2 : Option Addr) (c2 : Nat) (a3 : Option Addr) (c3 : Nat) (w : World) (hr : SpanRow w a1 l1.length c1 l1) (hm : l1.length ≤ 1000) (hne : l1 ≠ []) :
  Calls Tryz.prog 66 #[.agg #[.int .i64 1, .int .u64 (tr : Nat), .int .u64 (bn : Nat), .int .u64 (bd : Nat), .int .u64 (sn : Nat), .int .u64 (sd : Nat), .int .i64 v, .bool ok, .slice a1 l1.length c1, .slice a2 l2.length c2, .slice a3 l3.length c3]] w (ListPost (fun w2 A c => SpanRow w2 A l1.length c l1) l1.length (fun x => .iface 170 (.agg #[.int .u64 (tr : Nat), .bool false, x])) w) := by
 have Hc := hid_ (fun (W : World) (hb : Below w.heap.size w W) => cloneSp_any a1 _ c1 l1 W (hr.below hb) (by omega) (.inr hne))
 have B0 := hid_ (show packBox (w.alloc (.cells #[.int .i64 1, .int .u64 (tr : Nat), .int .u64 (bn : Nat), .int .u64 (bd : Nat), .int .u64 (sn : Nat), .int .u64 (sd : Nat), .int .i64 v, .bool ok, .slice a1 l1.length c1, .slice a2 l2.length c2, .slice a3 l3.length c3] 41)) w.heap.size ⟨1, tr, bn, bd, sn, sd, v, ok, l1, l2, l3⟩ ⟨a1, c1, a2, c2, a3, c3⟩ from whole_new w _ _)
 have Ha := hid_ (show Below w.heap.size w (w.alloc (.cells #[.int .i64 1, .int .u64 (tr : Nat), .int .u64 (bn : Nat), .int .u64 (bd : Nat), .int .u64 (sn : Nat), .int .u64 (sd : Nat), .int .i64 v, .bool ok, .slice a1 l1.length c1, .slice a2 l2.length c2, .slice a3 l3.length c3] 41)) from (Below.refl _ _).alloc (Nat.le_refl _) _)
 have hlt0 := B0.out.lt
 have hIn := pIn_of B0.out
 clear B0 hr hm hne
 go_enter Tryz.func66, Tryz.ntmps66
 go_wp2_with fail
 generalize w.alloc (.cells #[.int .i64 1, .int .u64 (tr : Nat), .int .u64 (bn : Nat), .int .u64 (bd : Nat), .int .u64 (sn : Nat), .int .u64 (sd : Nat), .int .i64 v, .bool ok, .slice a1 l1.length c1, .slice a2 l2.length c2, .slice a3 l3.length c3] 41) = wb at *
 go_region_held3 (PIn wb w.heap.size ⟨1, tr, bn, bd, sn, sd, v, ok, l1, l2, l3⟩ ⟨a1, c1, a2, c2, a3, c3⟩) (first | assumption | (refine pIn_keep hlt0 (by assumption) (by assumption)) | (refine pIn_keep hlt0 (by assumption) (Below.drew (Below.refl _ _))) | (refine pIn_keep hlt0 (by assumption) (Below.alloc (Below.refl _ _) (Nat.le_refl _) _)))
  (first
   | (go_at_call 97; (with_reducible refine Calls.mono (Hc.out _ ?_) ?_); (exact Ha.out.trans (Below.mono (And.left (by assumption)) Ha.out.size)); rintro e w1 ⟨A, c, rfl, ⟨hr1, -⟩, hb1⟩; have Hr1 := hid_ hr1; simp only [id]; clear hr1)
   | fail)
 have hS : PIn wb w.heap.size ⟨1, tr, bn, bd, sn, sd, v, ok, l1, l2, l3⟩ ⟨a1, c1, a2, c2, a3, c3⟩ w1 := by assumption
 have h9 := hid_ (Below.trans Ha.out (Below.mono hS.1 Ha.out.size))
 clear hS hIn
 go_wp2_with fail
 go_ret
 exact listPost_mk rfl Hr1.out h9.out
set_option maxRecDepth 100000 in
set_option maxHeartbeats 4000000 in
theorem thing2k_any (tr bn bd sn sd : Nat) (v : Int) (ok : Bool) (l1 : List SpanD) (l2 : List MemberD) (l3 : List Nat) (a1 : Option Addr) (c1 : Nat) (a2 : Option Addr) (c2 : Nat) (a3 : Option Addr) (c3 : Nat) (w : World) (hr : SpanRow w a1 l1.length c1 l1) (hm : l1.length ≤ 1000) (hne : l1 ≠ []) :
  Calls Tryz.prog 66 #[.agg #[.int .i64 2, .int .u64 (tr : Nat), .int .u64 (bn : Nat), .int .u64 (bd : Nat), .int .u64 (sn : Nat), .int .u64 (sd : Nat), .int .i64 v, .bool ok, .slice a1 l1.length c1, .slice a2 l2.length c2, .slice a3 l3.length c3]] w (ListPost (fun w2 A c => SpanRow w2 A l1.length c l1) l1.length (fun x => .iface 170 (.agg #[.int .u64 (tr : Nat), .bool true, x])) w) := by
 have Hc := hid_ (fun (W : World) (hb : Below w.heap.size w W) => cloneSp_any a1 _ c1 l1 W (hr.below hb) (by omega) (.inr hne))
 have B0 := hid_ (show packBox (w.alloc (.cells #[.int .i64 2, .int .u64 (tr : Nat), .int .u64 (bn : Nat), .int .u64 (bd : Nat), .int .u64 (sn : Nat), .int .u64 (sd : Nat), .int .i64 v, .bool ok, .slice a1 l1.length c1, .slice a2 l2.length c2, .slice a3 l3.length c3] 41)) w.heap.size ⟨2, tr, bn, bd, sn, sd, v, ok, l1, l2, l3⟩ ⟨a1, c1, a2, c2, a3, c3⟩ from whole_new w _ _)
 have Ha := hid_ (show Below w.heap.size w (w.alloc (.cells #[.int .i64 2, .int .u64 (tr : Nat), .int .u64 (bn : Nat), .int .u64 (bd : Nat), .int .u64 (sn : Nat), .int .u64 (sd : Nat), .int .i64 v, .bool ok, .slice a1 l1.length c1, .slice a2 l2.length c2, .slice a3 l3.length c3] 41)) from (Below.refl _ _).alloc (Nat.le_refl _) _)
 have hlt0 := B0.out.lt
 have hIn := pIn_of B0.out
 clear B0 hr hm hne
 go_enter Tryz.func66, Tryz.ntmps66
 go_wp2_with fail
 generalize w.alloc (.cells #[.int .i64 2, .int .u64 (tr : Nat), .int .u64 (bn : Nat), .int .u64 (bd : Nat), .int .u64 (sn : Nat), .int .u64 (sd : Nat), .int .i64 v, .bool ok, .slice a1 l1.length c1, .slice a2 l2.length c2, .slice a3 l3.length c3] 41) = wb at *
 go_region_held3 (PIn wb w.heap.size ⟨2, tr, bn, bd, sn, sd, v, ok, l1, l2, l3⟩ ⟨a1, c1, a2, c2, a3, c3⟩) (first | assumption | (refine pIn_keep hlt0 (by assumption) (by assumption)) | (refine pIn_keep hlt0 (by assumption) (Below.drew (Below.refl _ _))) | (refine pIn_keep hlt0 (by assumption) (Below.alloc (Below.refl _ _) (Nat.le_refl _) _)))
  (first
   | (go_at_call 97; (with_reducible refine Calls.mono (Hc.out _ ?_) ?_); (exact Ha.out.trans (Below.mono (And.left (by assumption)) Ha.out.size)); rintro e w1 ⟨A, c, rfl, ⟨hr1, -⟩, hb1⟩; have Hr1 := hid_ hr1; simp only [id]; clear hr1)
   | fail)
 have hS : PIn wb w.heap.size ⟨2, tr, bn, bd, sn, sd, v, ok, l1, l2, l3⟩ ⟨a1, c1, a2, c2, a3, c3⟩ w1 := by assumption
 have h9 := hid_ (Below.trans Ha.out (Below.mono hS.1 Ha.out.size))
 clear hS hIn
 go_wp2_with fail
 go_ret
 exact listPost_mk rfl Hr1.out h9.out
set_option maxRecDepth 100000 in
set_option maxHeartbeats 4000000 in
theorem thing3k_any (tr bn bd sn sd : Nat) (v : Int) (ok : Bool) (l1 : List SpanD) (l2 : List MemberD) (l3 : List Nat) (a1 : Option Addr) (c1 : Nat) (a2 : Option Addr) (c2 : Nat) (a3 : Option Addr) (c3 : Nat) (w : World) (hr : MemRow w a2 l2.length c2 l2) (hm : l2.length ≤ 1000) (hne : l2 ≠ []) :
  Calls Tryz.prog 66 #[.agg #[.int .i64 3, .int .u64 (tr : Nat), .int .u64 (bn : Nat), .int .u64 (bd : Nat), .int .u64 (sn : Nat), .int .u64 (sd : Nat), .int .i64 v, .bool ok, .slice a1 l1.length c1, .slice a2 l2.length c2, .slice a3 l3.length c3]] w (ListPost (fun w2 A c => MemRow w2 A l2.length c l2) l2.length (fun x => .iface 173 (.agg #[x])) w) := by
 have Hc := hid_ (fun (W : World) (hb : Below w.heap.size w W) => cloneMem_any a2 _ c2 l2 W (hr.below hb) (by omega) (.inr hne))
 have B0 := hid_ (show packBox (w.alloc (.cells #[.int .i64 3, .int .u64 (tr : Nat), .int .u64 (bn : Nat), .int .u64 (bd : Nat), .int .u64 (sn : Nat), .int .u64 (sd : Nat), .int .i64 v, .bool ok, .slice a1 l1.length c1, .slice a2 l2.length c2, .slice a3 l3.length c3] 41)) w.heap.size ⟨3, tr, bn, bd, sn, sd, v, ok, l1, l2, l3⟩ ⟨a1, c1, a2, c2, a3, c3⟩ from whole_new w _ _)
 have Ha := hid_ (show Below w.heap.size w (w.alloc (.cells #[.int .i64 3, .int .u64 (tr : Nat), .int .u64 (bn : Nat), .int .u64 (bd : Nat), .int .u64 (sn : Nat), .int .u64 (sd : Nat), .int .i64 v, .bool ok, .slice a1 l1.length c1, .slice a2 l2.length c2, .slice a3 l3.length c3] 41)) from (Below.refl _ _).alloc (Nat.le_refl _) _)
 have hlt0 := B0.out.lt
 have hIn := pIn_of B0.out
 clear B0 hr hm hne
 go_enter Tryz.func66, Tryz.ntmps66
 go_wp2_with fail
 refine Calls.mono (Hc.out _ Ha.out) ?_
 rintro e w1 ⟨A, c, rfl, ⟨hr1, -⟩, hb1⟩
 have Hr1 := hid_ hr1
 have Hb1 := hid_ (Ha.out.trans (hb1.mono Ha.out.size))
 clear hr1 hb1
 simp only [id]
 go_wp2_with fail
 go_ret
 exact listPost_mk rfl Hr1.out Hb1.out
set_option maxRecDepth 100000 in
set_option maxHeartbeats 4000000 in
theorem thing4k_any (tr bn bd sn sd : Nat) (v : Int) (ok : Bool) (l1 : List SpanD) (l2 : List MemberD) (l3 : List Nat) (a1 : Option Addr) (c1 : Nat) (a2 : Option Addr) (c2 : Nat) (a3 : Option Addr) (c3 : Nat) (w : World) :
  Calls Tryz.prog 66 #[.agg #[.int .i64 4, .int .u64 (tr : Nat), .int .u64 (bn : Nat), .int .u64 (bd : Nat), .int .u64 (sn : Nat), .int .u64 (sd : Nat), .int .i64 v, .bool ok, .slice a1 l1.length c1, .slice a2 l2.length c2, .slice a3 l3.length c3]] w fun e w' => e = .returned (vAsk tr bn bd v) ∧ Below w.heap.size w w' := by
 go_enter Tryz.func66, Tryz.ntmps66
 go_wp2_with fail
 go_ret
 exact ⟨rfl, (Below.refl _ _).alloc (Nat.le_refl _) _⟩
set_option maxRecDepth 100000 in
set_option maxHeartbeats 4000000 in
theorem thing5k_any (tr bn bd sn sd : Nat) (v : Int) (ok : Bool) (l1 : List SpanD) (l2 : List MemberD) (l3 : List Nat) (a1 : Option Addr) (c1 : Nat) (a2 : Option Addr) (c2 : Nat) (a3 : Option Addr) (c3 : Nat) (w : World) :
  Calls Tryz.prog 66 #[.agg #[.int .i64 5, .int .u64 (tr : Nat), .int .u64 (bn : Nat), .int .u64 (bd : Nat), .int .u64 (sn : Nat), .int .u64 (sd : Nat), .int .i64 v, .bool ok, .slice a1 l1.length c1, .slice a2 l2.length c2, .slice a3 l3.length c3]] w fun e w' => e = .returned (vReply tr bn bd ok sn sd v false) ∧ Below w.heap.size w w' := by
 go_enter Tryz.func66, Tryz.ntmps66
 go_wp2_with fail
 go_ret
 exact ⟨rfl, (Below.refl _ _).alloc (Nat.le_refl _) _⟩
set_option maxRecDepth 100000 in
set_option maxHeartbeats 4000000 in
theorem thing6k_any (tr bn bd sn sd : Nat) (v : Int) (ok : Bool) (l1 : List SpanD) (l2 : List MemberD) (l3 : List Nat) (a1 : Option Addr) (c1 : Nat) (a2 : Option Addr) (c2 : Nat) (a3 : Option Addr) (c3 : Nat) (w : World) :
  Calls Tryz.prog 66 #[.agg #[.int .i64 6, .int .u64 (tr : Nat), .int .u64 (bn : Nat), .int .u64 (bd : Nat), .int .u64 (sn : Nat), .int .u64 (sd : Nat), .int .i64 v, .bool ok, .slice a1 l1.length c1, .slice a2 l2.length c2, .slice a3 l3.length c3]] w fun e w' => e = .returned (vAsk tr bn bd v) ∧ Below w.heap.size w w' := by
 go_enter Tryz.func66, Tryz.ntmps66
 go_wp2_with fail
 go_ret
 exact ⟨rfl, (Below.refl _ _).alloc (Nat.le_refl _) _⟩
set_option maxRecDepth 100000 in
set_option maxHeartbeats 4000000 in
theorem thing7k_any (tr bn bd sn sd : Nat) (v : Int) (ok : Bool) (l1 : List SpanD) (l2 : List MemberD) (l3 : List Nat) (a1 : Option Addr) (c1 : Nat) (a2 : Option Addr) (c2 : Nat) (a3 : Option Addr) (c3 : Nat) (w : World) :
  Calls Tryz.prog 66 #[.agg #[.int .i64 7, .int .u64 (tr : Nat), .int .u64 (bn : Nat), .int .u64 (bd : Nat), .int .u64 (sn : Nat), .int .u64 (sd : Nat), .int .i64 v, .bool ok, .slice a1 l1.length c1, .slice a2 l2.length c2, .slice a3 l3.length c3]] w fun e w' => e = .returned (vReply tr bn bd ok sn sd v true) ∧ Below w.heap.size w w' := by
 go_enter Tryz.func66, Tryz.ntmps66
 go_wp2_with fail
 go_ret
 exact ⟨rfl, (Below.refl _ _).alloc (Nat.le_refl _) _⟩
set_option maxRecDepth 100000 in
set_option maxHeartbeats 4000000 in
theorem thing8k_any (tr bn bd sn sd : Nat) (v : Int) (ok : Bool) (l1 : List SpanD) (l2 : List MemberD) (l3 : List Nat) (a1 : Option Addr) (c1 : Nat) (a2 : Option Addr) (c2 : Nat) (a3 : Option Addr) (c3 : Nat) (w : World) :
  Calls Tryz.prog 66 #[.agg #[.int .i64 8, .int .u64 (tr : Nat), .int .u64 (bn : Nat), .int .u64 (bd : Nat), .int .u64 (sn : Nat), .int .u64 (sd : Nat), .int .i64 v, .bool ok, .slice a1 l1.length c1, .slice a2 l2.length c2, .slice a3 l3.length c3]] w fun e w' => e = .returned (vTold tr v) ∧ Below w.heap.size w w' := by
 go_enter Tryz.func66, Tryz.ntmps66
 go_wp2_with fail
 go_ret
 exact ⟨rfl, (Below.refl _ _).alloc (Nat.le_refl _) _⟩
set_option maxRecDepth 100000 in
set_option maxHeartbeats 4000000 in
theorem thing9k_any (tr bn bd sn sd : Nat) (v : Int) (ok : Bool) (l1 : List SpanD) (l2 : List MemberD) (l3 : List Nat) (a1 : Option Addr) (c1 : Nat) (a2 : Option Addr) (c2 : Nat) (a3 : Option Addr) (c3 : Nat) (w : World) (hr : SpanRow w a1 l1.length c1 l1) (hm : l1.length ≤ 1000) (hne : l1 ≠ []) :
  Calls Tryz.prog 66 #[.agg #[.int .i64 9, .int .u64 (tr : Nat), .int .u64 (bn : Nat), .int .u64 (bd : Nat), .int .u64 (sn : Nat), .int .u64 (sd : Nat), .int .i64 v, .bool ok, .slice a1 l1.length c1, .slice a2 l2.length c2, .slice a3 l3.length c3]] w (ListPost (fun w2 A c => SpanRow w2 A l1.length c l1) l1.length (fun x => .iface 179 (.agg #[.int .u64 (tr : Nat), .int .u64 (bn : Nat), .int .u64 (bd : Nat), x])) w) := by
 have Hc := hid_ (fun (W : World) (hb : Below w.heap.size w W) => cloneSp_any a1 _ c1 l1 W (hr.below hb) (by omega) (.inr hne))
 have B0 := hid_ (show packBox (w.alloc (.cells #[.int .i64 9, .int .u64 (tr : Nat), .int .u64 (bn : Nat), .int .u64 (bd : Nat), .int .u64 (sn : Nat), .int .u64 (sd : Nat), .int .i64 v, .bool ok, .slice a1 l1.length c1, .slice a2 l2.length c2, .slice a3 l3.length c3] 41)) w.heap.size ⟨9, tr, bn, bd, sn, sd, v, ok, l1, l2, l3⟩ ⟨a1, c1, a2, c2, a3, c3⟩ from whole_new w _ _)
 have Ha := hid_ (show Below w.heap.size w (w.alloc (.cells #[.int .i64 9, .int .u64 (tr : Nat), .int .u64 (bn : Nat), .int .u64 (bd : Nat), .int .u64 (sn : Nat), .int .u64 (sd : Nat), .int .i64 v, .bool ok, .slice a1 l1.length c1, .slice a2 l2.length c2, .slice a3 l3.length c3] 41)) from (Below.refl _ _).alloc (Nat.le_refl _) _)
 have hlt0 := B0.out.lt
 have hIn := pIn_of B0.out
 clear B0 hr hm hne
 go_enter Tryz.func66, Tryz.ntmps66
 go_wp2_with fail
 generalize w.alloc (.cells #[.int .i64 9, .int .u64 (tr : Nat), .int .u64 (bn : Nat), .int .u64 (bd : Nat), .int .u64 (sn : Nat), .int .u64 (sd : Nat), .int .i64 v, .bool ok, .slice a1 l1.length c1, .slice a2 l2.length c2, .slice a3 l3.length c3] 41) = wb at *
 go_region_held3 (PIn wb w.heap.size ⟨9, tr, bn, bd, sn, sd, v, ok, l1, l2, l3⟩ ⟨a1, c1, a2, c2, a3, c3⟩) (first | assumption | (refine pIn_keep hlt0 (by assumption) (by assumption)) | (refine pIn_keep hlt0 (by assumption) (Below.drew (Below.refl _ _))) | (refine pIn_keep hlt0 (by assumption) (Below.alloc (Below.refl _ _) (Nat.le_refl _) _)))
  (first
   | (go_at_call 97; (with_reducible refine Calls.mono (Hc.out _ ?_) ?_); (exact Ha.out.trans (Below.mono (And.left (by assumption)) Ha.out.size)); rintro e w1 ⟨A, c, rfl, ⟨hr1, -⟩, hb1⟩; have Hr1 := hid_ hr1; simp only [id]; clear hr1)
   | fail)
 have hS : PIn wb w.heap.size ⟨9, tr, bn, bd, sn, sd, v, ok, l1, l2, l3⟩ ⟨a1, c1, a2, c2, a3, c3⟩ w1 := by assumption
 have h9 := hid_ (Below.trans Ha.out (Below.mono hS.1 Ha.out.size))
 clear hS hIn
 go_wp2_with fail
 go_ret
 exact listPost_mk rfl Hr1.out h9.out
set_option maxRecDepth 100000 in
set_option maxHeartbeats 4000000 in
theorem thing10k_any (tr bn bd sn sd : Nat) (v : Int) (ok : Bool) (l1 : List SpanD) (l2 : List MemberD) (l3 : List Nat) (a1 : Option Addr) (c1 : Nat) (a2 : Option Addr) (c2 : Nat) (a3 : Option Addr) (c3 : Nat) (w : World) (hr : Row w a3 l3.length c3 (idVals l3)) (hm : l3.length ≤ 1000) (hne : l3 ≠ []) :
  Calls Tryz.prog 66 #[.agg #[.int .i64 10, .int .u64 (tr : Nat), .int .u64 (bn : Nat), .int .u64 (bd : Nat), .int .u64 (sn : Nat), .int .u64 (sd : Nat), .int .i64 v, .bool ok, .slice a1 l1.length c1, .slice a2 l2.length c2, .slice a3 l3.length c3]] w (ListPost (fun w2 A c => Row w2 A l3.length c (idVals l3)) l3.length (fun x => .iface 182 (.agg #[.int .u64 (tr : Nat), x])) w) := by
 have Hc := hid_ (fun (W : World) (hb : Below w.heap.size w W) => cloneId_any a3 _ c3 l3 W (hr.below hb) (by omega) (.inr hne))
 have B0 := hid_ (show packBox (w.alloc (.cells #[.int .i64 10, .int .u64 (tr : Nat), .int .u64 (bn : Nat), .int .u64 (bd : Nat), .int .u64 (sn : Nat), .int .u64 (sd : Nat), .int .i64 v, .bool ok, .slice a1 l1.length c1, .slice a2 l2.length c2, .slice a3 l3.length c3] 41)) w.heap.size ⟨10, tr, bn, bd, sn, sd, v, ok, l1, l2, l3⟩ ⟨a1, c1, a2, c2, a3, c3⟩ from whole_new w _ _)
 have Ha := hid_ (show Below w.heap.size w (w.alloc (.cells #[.int .i64 10, .int .u64 (tr : Nat), .int .u64 (bn : Nat), .int .u64 (bd : Nat), .int .u64 (sn : Nat), .int .u64 (sd : Nat), .int .i64 v, .bool ok, .slice a1 l1.length c1, .slice a2 l2.length c2, .slice a3 l3.length c3] 41)) from (Below.refl _ _).alloc (Nat.le_refl _) _)
 have hlt0 := B0.out.lt
 have hIn := pIn_of B0.out
 clear B0 hr hm hne
 go_enter Tryz.func66, Tryz.ntmps66
 go_wp2_with fail
 generalize w.alloc (.cells #[.int .i64 10, .int .u64 (tr : Nat), .int .u64 (bn : Nat), .int .u64 (bd : Nat), .int .u64 (sn : Nat), .int .u64 (sd : Nat), .int .i64 v, .bool ok, .slice a1 l1.length c1, .slice a2 l2.length c2, .slice a3 l3.length c3] 41) = wb at *
 go_region_held3 (PIn wb w.heap.size ⟨10, tr, bn, bd, sn, sd, v, ok, l1, l2, l3⟩ ⟨a1, c1, a2, c2, a3, c3⟩) (first | assumption | (refine pIn_keep hlt0 (by assumption) (by assumption)) | (refine pIn_keep hlt0 (by assumption) (Below.drew (Below.refl _ _))) | (refine pIn_keep hlt0 (by assumption) (Below.alloc (Below.refl _ _) (Nat.le_refl _) _)))
  (first
   | (go_at_call 99; (with_reducible refine Calls.mono (Hc.out _ ?_) ?_); (exact Ha.out.trans (Below.mono (And.left (by assumption)) Ha.out.size)); rintro e w1 ⟨A, c, rfl, ⟨hr1, -⟩, hb1⟩; have Hr1 := hid_ hr1; simp only [id]; clear hr1)
   | fail)
 have hS : PIn wb w.heap.size ⟨10, tr, bn, bd, sn, sd, v, ok, l1, l2, l3⟩ ⟨a1, c1, a2, c2, a3, c3⟩ w1 := by assumption
 have h9 := hid_ (Below.trans Ha.out (Below.mono hS.1 Ha.out.size))
 clear hS hIn
 go_wp2_with fail
 go_ret
 exact listPost_mk rfl Hr1.out h9.out
end Go.Proofs.YthjhofmjhmnddaaGreat
/-
 What Of and Trace answer, by kinds.
-/
namespace Go.Proofs.YthjhofmjhmnddaaGreat
open Go.RowKit Ru
def OfP (R : World → Option Addr → Nat → Prop) (n : Nat) (V : Value → Value) (w : World) (e : Ending) (w' : World) : Prop := ∃ A c, e = .returned (.tuple #[V (.slice A n c), .int .i64 0]) ∧ R w' A c ∧ Below w.heap.size w w'
theorem ofP_mk {R : World → Option Addr → Nat → Prop} {n c : Nat} {A : Option Addr} {V : Value → Value} {v : Value} {w w' : World} (hv : v = .tuple #[V (.slice A n c), .int .i64 0]) (h : R w' A c) (hb : Below w.heap.size w w') : OfP R n V w (.returned v) w' := by rw [hv]; exact ⟨A, c, rfl, h, hb⟩
theorem listPost_plain {V : Value → Value} {w w' : World} {e : Ending} (h : e = .returned (V (.slice none 0 0)) ∧ Below w.heap.size w w') : ListPost (fun _ _ _ => True) 0 V w e w' := ⟨none, 0, h.1, trivial, h.2⟩
set_option maxRecDepth 100000 in
set_option maxHeartbeats 4000000 in
theorem of1k_any (tr bn bd sn sd : Nat) (v : Int) (ok : Bool) (l1 : List SpanD) (l2 : List MemberD) (l3 : List Nat) (a1 : Option Addr) (c1 : Nat) (a2 : Option Addr) (c2 : Nat) (a3 : Option Addr) (c3 : Nat) (w : World) (hp : PackIn w ⟨1, tr, bn, bd, sn, sd, v, ok, l1, l2, l3⟩ ⟨a1, c1, a2, c2, a3, c3⟩) (hw : PackD.Wf ⟨1, tr, bn, bd, sn, sd, v, ok, l1, l2, l3⟩) (hm : l1.length ≤ 1000 ∧ l2.length ≤ 1000 ∧ l3.length ≤ 1000) (hr : rightP ⟨1, tr, bn, bd, sn, sd, v, ok, l1, l2, l3⟩ = true) (hne : l1 ≠ []) :
  Calls Tryz.prog 35 #[.agg #[.int .i64 1, .int .u64 (tr : Nat), .int .u64 (bn : Nat), .int .u64 (bd : Nat), .int .u64 (sn : Nat), .int .u64 (sd : Nat), .int .i64 v, .bool ok, .slice a1 l1.length c1, .slice a2 l2.length c2, .slice a3 l3.length c3]] w (OfP (fun w2 A c => SpanRow w2 A l1.length c l1) l1.length (fun x => .iface 170 (.agg #[.int .u64 (tr : Nat), .bool false, x])) w) := by
 have Ha := hid_ (show Below w.heap.size w (w.alloc (.cells #[.int .i64 1, .int .u64 (tr : Nat), .int .u64 (bn : Nat), .int .u64 (bd : Nat), .int .u64 (sn : Nat), .int .u64 (sd : Nat), .int .i64 v, .bool ok, .slice a1 l1.length c1, .slice a2 l2.length c2, .slice a3 l3.length c3] 41)) from (Below.refl _ _).alloc (Nat.le_refl _) _)
 have B0 := hid_ (whole_new w 41 #[.int .i64 1, .int .u64 (tr : Nat), .int .u64 (bn : Nat), .int .u64 (bd : Nat), .int .u64 (sn : Nat), .int .u64 (sd : Nat), .int .i64 v, .bool ok, .slice a1 l1.length c1, .slice a2 l2.length c2, .slice a3 l3.length c3])
 have Hri := hid_ (fun (W : World) (hb : Below w.heap.size w W) => packright_any ⟨1, tr, bn, bd, sn, sd, v, ok, l1, l2, l3⟩ ⟨a1, c1, a2, c2, a3, c3⟩ W (hp.below hb) hw (by show l1.length ≤ _; omega))
 have Hth := hid_ (fun (W : World) (hb : Below w.heap.size w W) => show Calls Tryz.prog 66 #[.agg #[.int .i64 1, .int .u64 (tr : Nat), .int .u64 (bn : Nat), .int .u64 (bd : Nat), .int .u64 (sn : Nat), .int .u64 (sd : Nat), .int .i64 v, .bool ok, .slice a1 l1.length c1, .slice a2 l2.length c2, .slice a3 l3.length c3]] W (ListPost (fun w2 A c => SpanRow w2 A l1.length c l1) l1.length (fun x => .iface 170 (.agg #[.int .u64 (tr : Nat), .bool false, x])) W) from thing1k_any tr bn bd sn sd v ok l1 l2 l3 a1 c1 a2 c2 a3 c3 W (hp.below hb).r1 (by omega) hne)
 rw [hr] at Hri
 have ek : kindP true = 0 := rfl
 rw [ek] at Hri
 clear hp hw hm hr ek hne
 go_enter Tryz.func35, Tryz.ntmps35
 go_wp2_with fail
 refine Calls.mono (Hri.out _ Ha.out) ?_
 rintro e w1 ⟨rfl, hb1⟩
 have B1 := hid_ (B0.out.below hb1 B0.out.lt)
 have Hb1 := hid_ (Ha.out.trans (hb1.mono Ha.out.size))
 clear hb1
 have x0 := B1.out.cell 0 _ rfl
 have x1 := B1.out.cell 1 _ rfl
 have x2 := B1.out.cell 2 _ rfl
 have x3 := B1.out.cell 3 _ rfl
 have x4 := B1.out.cell 4 _ rfl
 have x5 := B1.out.cell 5 _ rfl
 have x6 := B1.out.cell 6 _ rfl
 have x7 := B1.out.cell 7 _ rfl
 have x8 := B1.out.cell 8 _ rfl
 have x9 := B1.out.cell 9 _ rfl
 have x10 := B1.out.cell 10 _ rfl
 go_wp2_with fail
 refine Calls.mono (Hth.out _ Hb1.out) ?_
 rintro e w2 ⟨A, c, rfl, hr2, hb2⟩
 have Hr2 := hid_ hr2
 have Hb2 := hid_ (Hb1.out.trans (hb2.mono Hb1.out.size))
 clear hb2 hr2
 simp only []
 go_wp2_with fail
 go_ret2
 exact ofP_mk (V := (fun x => .iface 170 (.agg #[.int .u64 (tr : Nat), .bool false, x]))) (A := A) (c := c) rfl Hr2.out Hb2.out
set_option maxRecDepth 100000 in
set_option maxHeartbeats 4000000 in
theorem of2k_any (tr bn bd sn sd : Nat) (v : Int) (ok : Bool) (l1 : List SpanD) (l2 : List MemberD) (l3 : List Nat) (a1 : Option Addr) (c1 : Nat) (a2 : Option Addr) (c2 : Nat) (a3 : Option Addr) (c3 : Nat) (w : World) (hp : PackIn w ⟨2, tr, bn, bd, sn, sd, v, ok, l1, l2, l3⟩ ⟨a1, c1, a2, c2, a3, c3⟩) (hw : PackD.Wf ⟨2, tr, bn, bd, sn, sd, v, ok, l1, l2, l3⟩) (hm : l1.length ≤ 1000 ∧ l2.length ≤ 1000 ∧ l3.length ≤ 1000) (hr : rightP ⟨2, tr, bn, bd, sn, sd, v, ok, l1, l2, l3⟩ = true) (hne : l1 ≠ []) :
  Calls Tryz.prog 35 #[.agg #[.int .i64 2, .int .u64 (tr : Nat), .int .u64 (bn : Nat), .int .u64 (bd : Nat), .int .u64 (sn : Nat), .int .u64 (sd : Nat), .int .i64 v, .bool ok, .slice a1 l1.length c1, .slice a2 l2.length c2, .slice a3 l3.length c3]] w (OfP (fun w2 A c => SpanRow w2 A l1.length c l1) l1.length (fun x => .iface 170 (.agg #[.int .u64 (tr : Nat), .bool true, x])) w) := by
 have Ha := hid_ (show Below w.heap.size w (w.alloc (.cells #[.int .i64 2, .int .u64 (tr : Nat), .int .u64 (bn : Nat), .int .u64 (bd : Nat), .int .u64 (sn : Nat), .int .u64 (sd : Nat), .int .i64 v, .bool ok, .slice a1 l1.length c1, .slice a2 l2.length c2, .slice a3 l3.length c3] 41)) from (Below.refl _ _).alloc (Nat.le_refl _) _)
 have B0 := hid_ (whole_new w 41 #[.int .i64 2, .int .u64 (tr : Nat), .int .u64 (bn : Nat), .int .u64 (bd : Nat), .int .u64 (sn : Nat), .int .u64 (sd : Nat), .int .i64 v, .bool ok, .slice a1 l1.length c1, .slice a2 l2.length c2, .slice a3 l3.length c3])
 have Hri := hid_ (fun (W : World) (hb : Below w.heap.size w W) => packright_any ⟨2, tr, bn, bd, sn, sd, v, ok, l1, l2, l3⟩ ⟨a1, c1, a2, c2, a3, c3⟩ W (hp.below hb) hw (by show l1.length ≤ _; omega))
 have Hth := hid_ (fun (W : World) (hb : Below w.heap.size w W) => show Calls Tryz.prog 66 #[.agg #[.int .i64 2, .int .u64 (tr : Nat), .int .u64 (bn : Nat), .int .u64 (bd : Nat), .int .u64 (sn : Nat), .int .u64 (sd : Nat), .int .i64 v, .bool ok, .slice a1 l1.length c1, .slice a2 l2.length c2, .slice a3 l3.length c3]] W (ListPost (fun w2 A c => SpanRow w2 A l1.length c l1) l1.length (fun x => .iface 170 (.agg #[.int .u64 (tr : Nat), .bool true, x])) W) from thing2k_any tr bn bd sn sd v ok l1 l2 l3 a1 c1 a2 c2 a3 c3 W (hp.below hb).r1 (by omega) hne)
 rw [hr] at Hri
 have ek : kindP true = 0 := rfl
 rw [ek] at Hri
 clear hp hw hm hr ek hne
 go_enter Tryz.func35, Tryz.ntmps35
 go_wp2_with fail
 refine Calls.mono (Hri.out _ Ha.out) ?_
 rintro e w1 ⟨rfl, hb1⟩
 have B1 := hid_ (B0.out.below hb1 B0.out.lt)
 have Hb1 := hid_ (Ha.out.trans (hb1.mono Ha.out.size))
 clear hb1
 have x0 := B1.out.cell 0 _ rfl
 have x1 := B1.out.cell 1 _ rfl
 have x2 := B1.out.cell 2 _ rfl
 have x3 := B1.out.cell 3 _ rfl
 have x4 := B1.out.cell 4 _ rfl
 have x5 := B1.out.cell 5 _ rfl
 have x6 := B1.out.cell 6 _ rfl
 have x7 := B1.out.cell 7 _ rfl
 have x8 := B1.out.cell 8 _ rfl
 have x9 := B1.out.cell 9 _ rfl
 have x10 := B1.out.cell 10 _ rfl
 go_wp2_with fail
 refine Calls.mono (Hth.out _ Hb1.out) ?_
 rintro e w2 ⟨A, c, rfl, hr2, hb2⟩
 have Hr2 := hid_ hr2
 have Hb2 := hid_ (Hb1.out.trans (hb2.mono Hb1.out.size))
 clear hb2 hr2
 simp only []
 go_wp2_with fail
 go_ret2
 exact ofP_mk (V := (fun x => .iface 170 (.agg #[.int .u64 (tr : Nat), .bool true, x]))) (A := A) (c := c) rfl Hr2.out Hb2.out
set_option maxRecDepth 100000 in
set_option maxHeartbeats 4000000 in
theorem of3k_any (tr bn bd sn sd : Nat) (v : Int) (ok : Bool) (l1 : List SpanD) (l2 : List MemberD) (l3 : List Nat) (a1 : Option Addr) (c1 : Nat) (a2 : Option Addr) (c2 : Nat) (a3 : Option Addr) (c3 : Nat) (w : World) (hp : PackIn w ⟨3, tr, bn, bd, sn, sd, v, ok, l1, l2, l3⟩ ⟨a1, c1, a2, c2, a3, c3⟩) (hw : PackD.Wf ⟨3, tr, bn, bd, sn, sd, v, ok, l1, l2, l3⟩) (hm : l1.length ≤ 1000 ∧ l2.length ≤ 1000 ∧ l3.length ≤ 1000) (hr : rightP ⟨3, tr, bn, bd, sn, sd, v, ok, l1, l2, l3⟩ = true) (hne : l2 ≠ []) :
  Calls Tryz.prog 35 #[.agg #[.int .i64 3, .int .u64 (tr : Nat), .int .u64 (bn : Nat), .int .u64 (bd : Nat), .int .u64 (sn : Nat), .int .u64 (sd : Nat), .int .i64 v, .bool ok, .slice a1 l1.length c1, .slice a2 l2.length c2, .slice a3 l3.length c3]] w (OfP (fun w2 A c => MemRow w2 A l2.length c l2) l2.length (fun x => .iface 173 (.agg #[x])) w) := by
 have Ha := hid_ (show Below w.heap.size w (w.alloc (.cells #[.int .i64 3, .int .u64 (tr : Nat), .int .u64 (bn : Nat), .int .u64 (bd : Nat), .int .u64 (sn : Nat), .int .u64 (sd : Nat), .int .i64 v, .bool ok, .slice a1 l1.length c1, .slice a2 l2.length c2, .slice a3 l3.length c3] 41)) from (Below.refl _ _).alloc (Nat.le_refl _) _)
 have B0 := hid_ (whole_new w 41 #[.int .i64 3, .int .u64 (tr : Nat), .int .u64 (bn : Nat), .int .u64 (bd : Nat), .int .u64 (sn : Nat), .int .u64 (sd : Nat), .int .i64 v, .bool ok, .slice a1 l1.length c1, .slice a2 l2.length c2, .slice a3 l3.length c3])
 have Hri := hid_ (fun (W : World) (hb : Below w.heap.size w W) => packright_any ⟨3, tr, bn, bd, sn, sd, v, ok, l1, l2, l3⟩ ⟨a1, c1, a2, c2, a3, c3⟩ W (hp.below hb) hw (by show l1.length ≤ _; omega))
 have Hth := hid_ (fun (W : World) (hb : Below w.heap.size w W) => show Calls Tryz.prog 66 #[.agg #[.int .i64 3, .int .u64 (tr : Nat), .int .u64 (bn : Nat), .int .u64 (bd : Nat), .int .u64 (sn : Nat), .int .u64 (sd : Nat), .int .i64 v, .bool ok, .slice a1 l1.length c1, .slice a2 l2.length c2, .slice a3 l3.length c3]] W (ListPost (fun w2 A c => MemRow w2 A l2.length c l2) l2.length (fun x => .iface 173 (.agg #[x])) W) from thing3k_any tr bn bd sn sd v ok l1 l2 l3 a1 c1 a2 c2 a3 c3 W (hp.below hb).r2 (by omega) hne)
 rw [hr] at Hri
 have ek : kindP true = 0 := rfl
 rw [ek] at Hri
 clear hp hw hm hr ek hne
 go_enter Tryz.func35, Tryz.ntmps35
 go_wp2_with fail
 refine Calls.mono (Hri.out _ Ha.out) ?_
 rintro e w1 ⟨rfl, hb1⟩
 have B1 := hid_ (B0.out.below hb1 B0.out.lt)
 have Hb1 := hid_ (Ha.out.trans (hb1.mono Ha.out.size))
 clear hb1
 have x0 := B1.out.cell 0 _ rfl
 have x1 := B1.out.cell 1 _ rfl
 have x2 := B1.out.cell 2 _ rfl
 have x3 := B1.out.cell 3 _ rfl
 have x4 := B1.out.cell 4 _ rfl
 have x5 := B1.out.cell 5 _ rfl
 have x6 := B1.out.cell 6 _ rfl
 have x7 := B1.out.cell 7 _ rfl
 have x8 := B1.out.cell 8 _ rfl
 have x9 := B1.out.cell 9 _ rfl
 have x10 := B1.out.cell 10 _ rfl
 go_wp2_with fail
 refine Calls.mono (Hth.out _ Hb1.out) ?_
 rintro e w2 ⟨A, c, rfl, hr2, hb2⟩
 have Hr2 := hid_ hr2
 have Hb2 := hid_ (Hb1.out.trans (hb2.mono Hb1.out.size))
 clear hb2 hr2
 simp only []
 go_wp2_with fail
 go_ret2
 exact ofP_mk (V := (fun x => .iface 173 (.agg #[x]))) (A := A) (c := c) rfl Hr2.out Hb2.out
set_option maxRecDepth 100000 in
set_option maxHeartbeats 4000000 in
theorem of4k_any (tr bn bd sn sd : Nat) (v : Int) (ok : Bool) (l1 : List SpanD) (l2 : List MemberD) (l3 : List Nat) (a1 : Option Addr) (c1 : Nat) (a2 : Option Addr) (c2 : Nat) (a3 : Option Addr) (c3 : Nat) (w : World) (hp : PackIn w ⟨4, tr, bn, bd, sn, sd, v, ok, l1, l2, l3⟩ ⟨a1, c1, a2, c2, a3, c3⟩) (hw : PackD.Wf ⟨4, tr, bn, bd, sn, sd, v, ok, l1, l2, l3⟩) (hm : l1.length ≤ 1000 ∧ l2.length ≤ 1000 ∧ l3.length ≤ 1000) (hr : rightP ⟨4, tr, bn, bd, sn, sd, v, ok, l1, l2, l3⟩ = true) :
  Calls Tryz.prog 35 #[.agg #[.int .i64 4, .int .u64 (tr : Nat), .int .u64 (bn : Nat), .int .u64 (bd : Nat), .int .u64 (sn : Nat), .int .u64 (sd : Nat), .int .i64 v, .bool ok, .slice a1 l1.length c1, .slice a2 l2.length c2, .slice a3 l3.length c3]] w (OfP (fun _ _ _ => True) 0 (fun _ => vAsk tr bn bd v) w) := by
 have Ha := hid_ (show Below w.heap.size w (w.alloc (.cells #[.int .i64 4, .int .u64 (tr : Nat), .int .u64 (bn : Nat), .int .u64 (bd : Nat), .int .u64 (sn : Nat), .int .u64 (sd : Nat), .int .i64 v, .bool ok, .slice a1 l1.length c1, .slice a2 l2.length c2, .slice a3 l3.length c3] 41)) from (Below.refl _ _).alloc (Nat.le_refl _) _)
 have B0 := hid_ (whole_new w 41 #[.int .i64 4, .int .u64 (tr : Nat), .int .u64 (bn : Nat), .int .u64 (bd : Nat), .int .u64 (sn : Nat), .int .u64 (sd : Nat), .int .i64 v, .bool ok, .slice a1 l1.length c1, .slice a2 l2.length c2, .slice a3 l3.length c3])
 have Hri := hid_ (fun (W : World) (hb : Below w.heap.size w W) => packright_any ⟨4, tr, bn, bd, sn, sd, v, ok, l1, l2, l3⟩ ⟨a1, c1, a2, c2, a3, c3⟩ W (hp.below hb) hw (by show l1.length ≤ _; omega))
 have Hth := hid_ (fun (W : World) (hb : Below w.heap.size w W) => show Calls Tryz.prog 66 #[.agg #[.int .i64 4, .int .u64 (tr : Nat), .int .u64 (bn : Nat), .int .u64 (bd : Nat), .int .u64 (sn : Nat), .int .u64 (sd : Nat), .int .i64 v, .bool ok, .slice a1 l1.length c1, .slice a2 l2.length c2, .slice a3 l3.length c3]] W (ListPost (fun _ _ _ => True) 0 (fun _ => vAsk tr bn bd v) W) from (thing4k_any tr bn bd sn sd v ok l1 l2 l3 a1 c1 a2 c2 a3 c3 W).mono fun e w2 h => listPost_plain (V := (fun _ => vAsk tr bn bd v)) h)
 rw [hr] at Hri
 have ek : kindP true = 0 := rfl
 rw [ek] at Hri
 clear hp hw hm hr ek
 go_enter Tryz.func35, Tryz.ntmps35
 go_wp2_with fail
 refine Calls.mono (Hri.out _ Ha.out) ?_
 rintro e w1 ⟨rfl, hb1⟩
 have B1 := hid_ (B0.out.below hb1 B0.out.lt)
 have Hb1 := hid_ (Ha.out.trans (hb1.mono Ha.out.size))
 clear hb1
 have x0 := B1.out.cell 0 _ rfl
 have x1 := B1.out.cell 1 _ rfl
 have x2 := B1.out.cell 2 _ rfl
 have x3 := B1.out.cell 3 _ rfl
 have x4 := B1.out.cell 4 _ rfl
 have x5 := B1.out.cell 5 _ rfl
 have x6 := B1.out.cell 6 _ rfl
 have x7 := B1.out.cell 7 _ rfl
 have x8 := B1.out.cell 8 _ rfl
 have x9 := B1.out.cell 9 _ rfl
 have x10 := B1.out.cell 10 _ rfl
 go_wp2_with fail
 refine Calls.mono (Hth.out _ Hb1.out) ?_
 rintro e w2 ⟨A, c, rfl, hr2, hb2⟩
 have Hr2 := hid_ hr2
 have Hb2 := hid_ (Hb1.out.trans (hb2.mono Hb1.out.size))
 clear hb2 hr2
 simp only []
 go_wp2_with fail
 go_ret2
 exact ofP_mk (V := (fun _ => vAsk tr bn bd v)) (A := A) (c := c) rfl Hr2.out Hb2.out
set_option maxRecDepth 100000 in
set_option maxHeartbeats 4000000 in
theorem of5k_any (tr bn bd sn sd : Nat) (v : Int) (ok : Bool) (l1 : List SpanD) (l2 : List MemberD) (l3 : List Nat) (a1 : Option Addr) (c1 : Nat) (a2 : Option Addr) (c2 : Nat) (a3 : Option Addr) (c3 : Nat) (w : World) (hp : PackIn w ⟨5, tr, bn, bd, sn, sd, v, ok, l1, l2, l3⟩ ⟨a1, c1, a2, c2, a3, c3⟩) (hw : PackD.Wf ⟨5, tr, bn, bd, sn, sd, v, ok, l1, l2, l3⟩) (hm : l1.length ≤ 1000 ∧ l2.length ≤ 1000 ∧ l3.length ≤ 1000) (hr : rightP ⟨5, tr, bn, bd, sn, sd, v, ok, l1, l2, l3⟩ = true) :
  Calls Tryz.prog 35 #[.agg #[.int .i64 5, .int .u64 (tr : Nat), .int .u64 (bn : Nat), .int .u64 (bd : Nat), .int .u64 (sn : Nat), .int .u64 (sd : Nat), .int .i64 v, .bool ok, .slice a1 l1.length c1, .slice a2 l2.length c2, .slice a3 l3.length c3]] w (OfP (fun _ _ _ => True) 0 (fun _ => vReply tr bn bd ok sn sd v false) w) := by
 have Ha := hid_ (show Below w.heap.size w (w.alloc (.cells #[.int .i64 5, .int .u64 (tr : Nat), .int .u64 (bn : Nat), .int .u64 (bd : Nat), .int .u64 (sn : Nat), .int .u64 (sd : Nat), .int .i64 v, .bool ok, .slice a1 l1.length c1, .slice a2 l2.length c2, .slice a3 l3.length c3] 41)) from (Below.refl _ _).alloc (Nat.le_refl _) _)
 have B0 := hid_ (whole_new w 41 #[.int .i64 5, .int .u64 (tr : Nat), .int .u64 (bn : Nat), .int .u64 (bd : Nat), .int .u64 (sn : Nat), .int .u64 (sd : Nat), .int .i64 v, .bool ok, .slice a1 l1.length c1, .slice a2 l2.length c2, .slice a3 l3.length c3])
 have Hri := hid_ (fun (W : World) (hb : Below w.heap.size w W) => packright_any ⟨5, tr, bn, bd, sn, sd, v, ok, l1, l2, l3⟩ ⟨a1, c1, a2, c2, a3, c3⟩ W (hp.below hb) hw (by show l1.length ≤ _; omega))
 have Hth := hid_ (fun (W : World) (hb : Below w.heap.size w W) => show Calls Tryz.prog 66 #[.agg #[.int .i64 5, .int .u64 (tr : Nat), .int .u64 (bn : Nat), .int .u64 (bd : Nat), .int .u64 (sn : Nat), .int .u64 (sd : Nat), .int .i64 v, .bool ok, .slice a1 l1.length c1, .slice a2 l2.length c2, .slice a3 l3.length c3]] W (ListPost (fun _ _ _ => True) 0 (fun _ => vReply tr bn bd ok sn sd v false) W) from (thing5k_any tr bn bd sn sd v ok l1 l2 l3 a1 c1 a2 c2 a3 c3 W).mono fun e w2 h => listPost_plain (V := (fun _ => vReply tr bn bd ok sn sd v false)) h)
 rw [hr] at Hri
 have ek : kindP true = 0 := rfl
 rw [ek] at Hri
 clear hp hw hm hr ek
 go_enter Tryz.func35, Tryz.ntmps35
 go_wp2_with fail
 refine Calls.mono (Hri.out _ Ha.out) ?_
 rintro e w1 ⟨rfl, hb1⟩
 have B1 := hid_ (B0.out.below hb1 B0.out.lt)
 have Hb1 := hid_ (Ha.out.trans (hb1.mono Ha.out.size))
 clear hb1
 have x0 := B1.out.cell 0 _ rfl
 have x1 := B1.out.cell 1 _ rfl
 have x2 := B1.out.cell 2 _ rfl
 have x3 := B1.out.cell 3 _ rfl
 have x4 := B1.out.cell 4 _ rfl
 have x5 := B1.out.cell 5 _ rfl
 have x6 := B1.out.cell 6 _ rfl
 have x7 := B1.out.cell 7 _ rfl
 have x8 := B1.out.cell 8 _ rfl
 have x9 := B1.out.cell 9 _ rfl
 have x10 := B1.out.cell 10 _ rfl
 go_wp2_with fail
 refine Calls.mono (Hth.out _ Hb1.out) ?_
 rintro e w2 ⟨A, c, rfl, hr2, hb2⟩
 have Hr2 := hid_ hr2
 have Hb2 := hid_ (Hb1.out.trans (hb2.mono Hb1.out.size))
 clear hb2 hr2
 simp only []
 go_wp2_with fail
 go_ret2
 exact ofP_mk (V := (fun _ => vReply tr bn bd ok sn sd v false)) (A := A) (c := c) rfl Hr2.out Hb2.out
set_option maxRecDepth 100000 in
set_option maxHeartbeats 4000000 in
theorem of6k_any (tr bn bd sn sd : Nat) (v : Int) (ok : Bool) (l1 : List SpanD) (l2 : List MemberD) (l3 : List Nat) (a1 : Option Addr) (c1 : Nat) (a2 : Option Addr) (c2 : Nat) (a3 : Option Addr) (c3 : Nat) (w : World) (hp : PackIn w ⟨6, tr, bn, bd, sn, sd, v, ok, l1, l2, l3⟩ ⟨a1, c1, a2, c2, a3, c3⟩) (hw : PackD.Wf ⟨6, tr, bn, bd, sn, sd, v, ok, l1, l2, l3⟩) (hm : l1.length ≤ 1000 ∧ l2.length ≤ 1000 ∧ l3.length ≤ 1000) (hr : rightP ⟨6, tr, bn, bd, sn, sd, v, ok, l1, l2, l3⟩ = true) :
  Calls Tryz.prog 35 #[.agg #[.int .i64 6, .int .u64 (tr : Nat), .int .u64 (bn : Nat), .int .u64 (bd : Nat), .int .u64 (sn : Nat), .int .u64 (sd : Nat), .int .i64 v, .bool ok, .slice a1 l1.length c1, .slice a2 l2.length c2, .slice a3 l3.length c3]] w (OfP (fun _ _ _ => True) 0 (fun _ => vAsk tr bn bd v) w) := by
 have Ha := hid_ (show Below w.heap.size w (w.alloc (.cells #[.int .i64 6, .int .u64 (tr : Nat), .int .u64 (bn : Nat), .int .u64 (bd : Nat), .int .u64 (sn : Nat), .int .u64 (sd : Nat), .int .i64 v, .bool ok, .slice a1 l1.length c1, .slice a2 l2.length c2, .slice a3 l3.length c3] 41)) from (Below.refl _ _).alloc (Nat.le_refl _) _)
 have B0 := hid_ (whole_new w 41 #[.int .i64 6, .int .u64 (tr : Nat), .int .u64 (bn : Nat), .int .u64 (bd : Nat), .int .u64 (sn : Nat), .int .u64 (sd : Nat), .int .i64 v, .bool ok, .slice a1 l1.length c1, .slice a2 l2.length c2, .slice a3 l3.length c3])
 have Hri := hid_ (fun (W : World) (hb : Below w.heap.size w W) => packright_any ⟨6, tr, bn, bd, sn, sd, v, ok, l1, l2, l3⟩ ⟨a1, c1, a2, c2, a3, c3⟩ W (hp.below hb) hw (by show l1.length ≤ _; omega))
 have Hth := hid_ (fun (W : World) (hb : Below w.heap.size w W) => show Calls Tryz.prog 66 #[.agg #[.int .i64 6, .int .u64 (tr : Nat), .int .u64 (bn : Nat), .int .u64 (bd : Nat), .int .u64 (sn : Nat), .int .u64 (sd : Nat), .int .i64 v, .bool ok, .slice a1 l1.length c1, .slice a2 l2.length c2, .slice a3 l3.length c3]] W (ListPost (fun _ _ _ => True) 0 (fun _ => vAsk tr bn bd v) W) from (thing6k_any tr bn bd sn sd v ok l1 l2 l3 a1 c1 a2 c2 a3 c3 W).mono fun e w2 h => listPost_plain (V := (fun _ => vAsk tr bn bd v)) h)
 rw [hr] at Hri
 have ek : kindP true = 0 := rfl
 rw [ek] at Hri
 clear hp hw hm hr ek
 go_enter Tryz.func35, Tryz.ntmps35
 go_wp2_with fail
 refine Calls.mono (Hri.out _ Ha.out) ?_
 rintro e w1 ⟨rfl, hb1⟩
 have B1 := hid_ (B0.out.below hb1 B0.out.lt)
 have Hb1 := hid_ (Ha.out.trans (hb1.mono Ha.out.size))
 clear hb1
 have x0 := B1.out.cell 0 _ rfl
 have x1 := B1.out.cell 1 _ rfl
 have x2 := B1.out.cell 2 _ rfl
 have x3 := B1.out.cell 3 _ rfl
 have x4 := B1.out.cell 4 _ rfl
 have x5 := B1.out.cell 5 _ rfl
 have x6 := B1.out.cell 6 _ rfl
 have x7 := B1.out.cell 7 _ rfl
 have x8 := B1.out.cell 8 _ rfl
 have x9 := B1.out.cell 9 _ rfl
 have x10 := B1.out.cell 10 _ rfl
 go_wp2_with fail
 refine Calls.mono (Hth.out _ Hb1.out) ?_
 rintro e w2 ⟨A, c, rfl, hr2, hb2⟩
 have Hr2 := hid_ hr2
 have Hb2 := hid_ (Hb1.out.trans (hb2.mono Hb1.out.size))
 clear hb2 hr2
 simp only []
 go_wp2_with fail
 go_ret2
 exact ofP_mk (V := (fun _ => vAsk tr bn bd v)) (A := A) (c := c) rfl Hr2.out Hb2.out
set_option maxRecDepth 100000 in
set_option maxHeartbeats 4000000 in
theorem of7k_any (tr bn bd sn sd : Nat) (v : Int) (ok : Bool) (l1 : List SpanD) (l2 : List MemberD) (l3 : List Nat) (a1 : Option Addr) (c1 : Nat) (a2 : Option Addr) (c2 : Nat) (a3 : Option Addr) (c3 : Nat) (w : World) (hp : PackIn w ⟨7, tr, bn, bd, sn, sd, v, ok, l1, l2, l3⟩ ⟨a1, c1, a2, c2, a3, c3⟩) (hw : PackD.Wf ⟨7, tr, bn, bd, sn, sd, v, ok, l1, l2, l3⟩) (hm : l1.length ≤ 1000 ∧ l2.length ≤ 1000 ∧ l3.length ≤ 1000) (hr : rightP ⟨7, tr, bn, bd, sn, sd, v, ok, l1, l2, l3⟩ = true) :
  Calls Tryz.prog 35 #[.agg #[.int .i64 7, .int .u64 (tr : Nat), .int .u64 (bn : Nat), .int .u64 (bd : Nat), .int .u64 (sn : Nat), .int .u64 (sd : Nat), .int .i64 v, .bool ok, .slice a1 l1.length c1, .slice a2 l2.length c2, .slice a3 l3.length c3]] w (OfP (fun _ _ _ => True) 0 (fun _ => vReply tr bn bd ok sn sd v true) w) := by
 have Ha := hid_ (show Below w.heap.size w (w.alloc (.cells #[.int .i64 7, .int .u64 (tr : Nat), .int .u64 (bn : Nat), .int .u64 (bd : Nat), .int .u64 (sn : Nat), .int .u64 (sd : Nat), .int .i64 v, .bool ok, .slice a1 l1.length c1, .slice a2 l2.length c2, .slice a3 l3.length c3] 41)) from (Below.refl _ _).alloc (Nat.le_refl _) _)
 have B0 := hid_ (whole_new w 41 #[.int .i64 7, .int .u64 (tr : Nat), .int .u64 (bn : Nat), .int .u64 (bd : Nat), .int .u64 (sn : Nat), .int .u64 (sd : Nat), .int .i64 v, .bool ok, .slice a1 l1.length c1, .slice a2 l2.length c2, .slice a3 l3.length c3])
 have Hri := hid_ (fun (W : World) (hb : Below w.heap.size w W) => packright_any ⟨7, tr, bn, bd, sn, sd, v, ok, l1, l2, l3⟩ ⟨a1, c1, a2, c2, a3, c3⟩ W (hp.below hb) hw (by show l1.length ≤ _; omega))
 have Hth := hid_ (fun (W : World) (hb : Below w.heap.size w W) => show Calls Tryz.prog 66 #[.agg #[.int .i64 7, .int .u64 (tr : Nat), .int .u64 (bn : Nat), .int .u64 (bd : Nat), .int .u64 (sn : Nat), .int .u64 (sd : Nat), .int .i64 v, .bool ok, .slice a1 l1.length c1, .slice a2 l2.length c2, .slice a3 l3.length c3]] W (ListPost (fun _ _ _ => True) 0 (fun _ => vReply tr bn bd ok sn sd v true) W) from (thing7k_any tr bn bd sn sd v ok l1 l2 l3 a1 c1 a2 c2 a3 c3 W).mono fun e w2 h => listPost_plain (V := (fun _ => vReply tr bn bd ok sn sd v true)) h)
 rw [hr] at Hri
 have ek : kindP true = 0 := rfl
 rw [ek] at Hri
 clear hp hw hm hr ek
 go_enter Tryz.func35, Tryz.ntmps35
 go_wp2_with fail
 refine Calls.mono (Hri.out _ Ha.out) ?_
 rintro e w1 ⟨rfl, hb1⟩
 have B1 := hid_ (B0.out.below hb1 B0.out.lt)
 have Hb1 := hid_ (Ha.out.trans (hb1.mono Ha.out.size))
 clear hb1
 have x0 := B1.out.cell 0 _ rfl
 have x1 := B1.out.cell 1 _ rfl
 have x2 := B1.out.cell 2 _ rfl
 have x3 := B1.out.cell 3 _ rfl
 have x4 := B1.out.cell 4 _ rfl
 have x5 := B1.out.cell 5 _ rfl
 have x6 := B1.out.cell 6 _ rfl
 have x7 := B1.out.cell 7 _ rfl
 have x8 := B1.out.cell 8 _ rfl
 have x9 := B1.out.cell 9 _ rfl
 have x10 := B1.out.cell 10 _ rfl
 go_wp2_with fail
 refine Calls.mono (Hth.out _ Hb1.out) ?_
 rintro e w2 ⟨A, c, rfl, hr2, hb2⟩
 have Hr2 := hid_ hr2
 have Hb2 := hid_ (Hb1.out.trans (hb2.mono Hb1.out.size))
 clear hb2 hr2
 simp only []
 go_wp2_with fail
 go_ret2
 exact ofP_mk (V := (fun _ => vReply tr bn bd ok sn sd v true)) (A := A) (c := c) rfl Hr2.out Hb2.out
set_option maxRecDepth 100000 in
set_option maxHeartbeats 4000000 in
theorem of8k_any (tr bn bd sn sd : Nat) (v : Int) (ok : Bool) (l1 : List SpanD) (l2 : List MemberD) (l3 : List Nat) (a1 : Option Addr) (c1 : Nat) (a2 : Option Addr) (c2 : Nat) (a3 : Option Addr) (c3 : Nat) (w : World) (hp : PackIn w ⟨8, tr, bn, bd, sn, sd, v, ok, l1, l2, l3⟩ ⟨a1, c1, a2, c2, a3, c3⟩) (hw : PackD.Wf ⟨8, tr, bn, bd, sn, sd, v, ok, l1, l2, l3⟩) (hm : l1.length ≤ 1000 ∧ l2.length ≤ 1000 ∧ l3.length ≤ 1000) (hr : rightP ⟨8, tr, bn, bd, sn, sd, v, ok, l1, l2, l3⟩ = true) :
  Calls Tryz.prog 35 #[.agg #[.int .i64 8, .int .u64 (tr : Nat), .int .u64 (bn : Nat), .int .u64 (bd : Nat), .int .u64 (sn : Nat), .int .u64 (sd : Nat), .int .i64 v, .bool ok, .slice a1 l1.length c1, .slice a2 l2.length c2, .slice a3 l3.length c3]] w (OfP (fun _ _ _ => True) 0 (fun _ => vTold tr v) w) := by
 have Ha := hid_ (show Below w.heap.size w (w.alloc (.cells #[.int .i64 8, .int .u64 (tr : Nat), .int .u64 (bn : Nat), .int .u64 (bd : Nat), .int .u64 (sn : Nat), .int .u64 (sd : Nat), .int .i64 v, .bool ok, .slice a1 l1.length c1, .slice a2 l2.length c2, .slice a3 l3.length c3] 41)) from (Below.refl _ _).alloc (Nat.le_refl _) _)
 have B0 := hid_ (whole_new w 41 #[.int .i64 8, .int .u64 (tr : Nat), .int .u64 (bn : Nat), .int .u64 (bd : Nat), .int .u64 (sn : Nat), .int .u64 (sd : Nat), .int .i64 v, .bool ok, .slice a1 l1.length c1, .slice a2 l2.length c2, .slice a3 l3.length c3])
 have Hri := hid_ (fun (W : World) (hb : Below w.heap.size w W) => packright_any ⟨8, tr, bn, bd, sn, sd, v, ok, l1, l2, l3⟩ ⟨a1, c1, a2, c2, a3, c3⟩ W (hp.below hb) hw (by show l1.length ≤ _; omega))
 have Hth := hid_ (fun (W : World) (hb : Below w.heap.size w W) => show Calls Tryz.prog 66 #[.agg #[.int .i64 8, .int .u64 (tr : Nat), .int .u64 (bn : Nat), .int .u64 (bd : Nat), .int .u64 (sn : Nat), .int .u64 (sd : Nat), .int .i64 v, .bool ok, .slice a1 l1.length c1, .slice a2 l2.length c2, .slice a3 l3.length c3]] W (ListPost (fun _ _ _ => True) 0 (fun _ => vTold tr v) W) from (thing8k_any tr bn bd sn sd v ok l1 l2 l3 a1 c1 a2 c2 a3 c3 W).mono fun e w2 h => listPost_plain (V := (fun _ => vTold tr v)) h)
 rw [hr] at Hri
 have ek : kindP true = 0 := rfl
 rw [ek] at Hri
 clear hp hw hm hr ek
 go_enter Tryz.func35, Tryz.ntmps35
 go_wp2_with fail
 refine Calls.mono (Hri.out _ Ha.out) ?_
 rintro e w1 ⟨rfl, hb1⟩
 have B1 := hid_ (B0.out.below hb1 B0.out.lt)
 have Hb1 := hid_ (Ha.out.trans (hb1.mono Ha.out.size))
 clear hb1
 have x0 := B1.out.cell 0 _ rfl
 have x1 := B1.out.cell 1 _ rfl
 have x2 := B1.out.cell 2 _ rfl
 have x3 := B1.out.cell 3 _ rfl
 have x4 := B1.out.cell 4 _ rfl
 have x5 := B1.out.cell 5 _ rfl
 have x6 := B1.out.cell 6 _ rfl
 have x7 := B1.out.cell 7 _ rfl
 have x8 := B1.out.cell 8 _ rfl
 have x9 := B1.out.cell 9 _ rfl
 have x10 := B1.out.cell 10 _ rfl
 go_wp2_with fail
 refine Calls.mono (Hth.out _ Hb1.out) ?_
 rintro e w2 ⟨A, c, rfl, hr2, hb2⟩
 have Hr2 := hid_ hr2
 have Hb2 := hid_ (Hb1.out.trans (hb2.mono Hb1.out.size))
 clear hb2 hr2
 simp only []
 go_wp2_with fail
 go_ret2
 exact ofP_mk (V := (fun _ => vTold tr v)) (A := A) (c := c) rfl Hr2.out Hb2.out
set_option maxRecDepth 100000 in
set_option maxHeartbeats 4000000 in
theorem of9k_any (tr bn bd sn sd : Nat) (v : Int) (ok : Bool) (l1 : List SpanD) (l2 : List MemberD) (l3 : List Nat) (a1 : Option Addr) (c1 : Nat) (a2 : Option Addr) (c2 : Nat) (a3 : Option Addr) (c3 : Nat) (w : World) (hp : PackIn w ⟨9, tr, bn, bd, sn, sd, v, ok, l1, l2, l3⟩ ⟨a1, c1, a2, c2, a3, c3⟩) (hw : PackD.Wf ⟨9, tr, bn, bd, sn, sd, v, ok, l1, l2, l3⟩) (hm : l1.length ≤ 1000 ∧ l2.length ≤ 1000 ∧ l3.length ≤ 1000) (hr : rightP ⟨9, tr, bn, bd, sn, sd, v, ok, l1, l2, l3⟩ = true) (hne : l1 ≠ []) :
  Calls Tryz.prog 35 #[.agg #[.int .i64 9, .int .u64 (tr : Nat), .int .u64 (bn : Nat), .int .u64 (bd : Nat), .int .u64 (sn : Nat), .int .u64 (sd : Nat), .int .i64 v, .bool ok, .slice a1 l1.length c1, .slice a2 l2.length c2, .slice a3 l3.length c3]] w (OfP (fun w2 A c => SpanRow w2 A l1.length c l1) l1.length (fun x => .iface 179 (.agg #[.int .u64 (tr : Nat), .int .u64 (bn : Nat), .int .u64 (bd : Nat), x])) w) := by
 have Ha := hid_ (show Below w.heap.size w (w.alloc (.cells #[.int .i64 9, .int .u64 (tr : Nat), .int .u64 (bn : Nat), .int .u64 (bd : Nat), .int .u64 (sn : Nat), .int .u64 (sd : Nat), .int .i64 v, .bool ok, .slice a1 l1.length c1, .slice a2 l2.length c2, .slice a3 l3.length c3] 41)) from (Below.refl _ _).alloc (Nat.le_refl _) _)
 have B0 := hid_ (whole_new w 41 #[.int .i64 9, .int .u64 (tr : Nat), .int .u64 (bn : Nat), .int .u64 (bd : Nat), .int .u64 (sn : Nat), .int .u64 (sd : Nat), .int .i64 v, .bool ok, .slice a1 l1.length c1, .slice a2 l2.length c2, .slice a3 l3.length c3])
 have Hri := hid_ (fun (W : World) (hb : Below w.heap.size w W) => packright_any ⟨9, tr, bn, bd, sn, sd, v, ok, l1, l2, l3⟩ ⟨a1, c1, a2, c2, a3, c3⟩ W (hp.below hb) hw (by show l1.length ≤ _; omega))
 have Hth := hid_ (fun (W : World) (hb : Below w.heap.size w W) => show Calls Tryz.prog 66 #[.agg #[.int .i64 9, .int .u64 (tr : Nat), .int .u64 (bn : Nat), .int .u64 (bd : Nat), .int .u64 (sn : Nat), .int .u64 (sd : Nat), .int .i64 v, .bool ok, .slice a1 l1.length c1, .slice a2 l2.length c2, .slice a3 l3.length c3]] W (ListPost (fun w2 A c => SpanRow w2 A l1.length c l1) l1.length (fun x => .iface 179 (.agg #[.int .u64 (tr : Nat), .int .u64 (bn : Nat), .int .u64 (bd : Nat), x])) W) from thing9k_any tr bn bd sn sd v ok l1 l2 l3 a1 c1 a2 c2 a3 c3 W (hp.below hb).r1 (by omega) hne)
 rw [hr] at Hri
 have ek : kindP true = 0 := rfl
 rw [ek] at Hri
 clear hp hw hm hr ek hne
 go_enter Tryz.func35, Tryz.ntmps35
 go_wp2_with fail
 refine Calls.mono (Hri.out _ Ha.out) ?_
 rintro e w1 ⟨rfl, hb1⟩
 have B1 := hid_ (B0.out.below hb1 B0.out.lt)
 have Hb1 := hid_ (Ha.out.trans (hb1.mono Ha.out.size))
 clear hb1
 have x0 := B1.out.cell 0 _ rfl
 have x1 := B1.out.cell 1 _ rfl
 have x2 := B1.out.cell 2 _ rfl
 have x3 := B1.out.cell 3 _ rfl
 have x4 := B1.out.cell 4 _ rfl
 have x5 := B1.out.cell 5 _ rfl
 have x6 := B1.out.cell 6 _ rfl
 have x7 := B1.out.cell 7 _ rfl
 have x8 := B1.out.cell 8 _ rfl
 have x9 := B1.out.cell 9 _ rfl
 have x10 := B1.out.cell 10 _ rfl
 go_wp2_with fail
 refine Calls.mono (Hth.out _ Hb1.out) ?_
 rintro e w2 ⟨A, c, rfl, hr2, hb2⟩
 have Hr2 := hid_ hr2
 have Hb2 := hid_ (Hb1.out.trans (hb2.mono Hb1.out.size))
 clear hb2 hr2
 simp only []
 go_wp2_with fail
 go_ret2
 exact ofP_mk (V := (fun x => .iface 179 (.agg #[.int .u64 (tr : Nat), .int .u64 (bn : Nat), .int .u64 (bd : Nat), x]))) (A := A) (c := c) rfl Hr2.out Hb2.out
set_option maxRecDepth 100000 in
set_option maxHeartbeats 4000000 in
theorem of10k_any (tr bn bd sn sd : Nat) (v : Int) (ok : Bool) (l1 : List SpanD) (l2 : List MemberD) (l3 : List Nat) (a1 : Option Addr) (c1 : Nat) (a2 : Option Addr) (c2 : Nat) (a3 : Option Addr) (c3 : Nat) (w : World) (hp : PackIn w ⟨10, tr, bn, bd, sn, sd, v, ok, l1, l2, l3⟩ ⟨a1, c1, a2, c2, a3, c3⟩) (hw : PackD.Wf ⟨10, tr, bn, bd, sn, sd, v, ok, l1, l2, l3⟩) (hm : l1.length ≤ 1000 ∧ l2.length ≤ 1000 ∧ l3.length ≤ 1000) (hr : rightP ⟨10, tr, bn, bd, sn, sd, v, ok, l1, l2, l3⟩ = true) (hne : l3 ≠ []) :
  Calls Tryz.prog 35 #[.agg #[.int .i64 10, .int .u64 (tr : Nat), .int .u64 (bn : Nat), .int .u64 (bd : Nat), .int .u64 (sn : Nat), .int .u64 (sd : Nat), .int .i64 v, .bool ok, .slice a1 l1.length c1, .slice a2 l2.length c2, .slice a3 l3.length c3]] w (OfP (fun w2 A c => Row w2 A l3.length c (idVals l3)) l3.length (fun x => .iface 182 (.agg #[.int .u64 (tr : Nat), x])) w) := by
 have Ha := hid_ (show Below w.heap.size w (w.alloc (.cells #[.int .i64 10, .int .u64 (tr : Nat), .int .u64 (bn : Nat), .int .u64 (bd : Nat), .int .u64 (sn : Nat), .int .u64 (sd : Nat), .int .i64 v, .bool ok, .slice a1 l1.length c1, .slice a2 l2.length c2, .slice a3 l3.length c3] 41)) from (Below.refl _ _).alloc (Nat.le_refl _) _)
 have B0 := hid_ (whole_new w 41 #[.int .i64 10, .int .u64 (tr : Nat), .int .u64 (bn : Nat), .int .u64 (bd : Nat), .int .u64 (sn : Nat), .int .u64 (sd : Nat), .int .i64 v, .bool ok, .slice a1 l1.length c1, .slice a2 l2.length c2, .slice a3 l3.length c3])
 have Hri := hid_ (fun (W : World) (hb : Below w.heap.size w W) => packright_any ⟨10, tr, bn, bd, sn, sd, v, ok, l1, l2, l3⟩ ⟨a1, c1, a2, c2, a3, c3⟩ W (hp.below hb) hw (by show l1.length ≤ _; omega))
 have Hth := hid_ (fun (W : World) (hb : Below w.heap.size w W) => show Calls Tryz.prog 66 #[.agg #[.int .i64 10, .int .u64 (tr : Nat), .int .u64 (bn : Nat), .int .u64 (bd : Nat), .int .u64 (sn : Nat), .int .u64 (sd : Nat), .int .i64 v, .bool ok, .slice a1 l1.length c1, .slice a2 l2.length c2, .slice a3 l3.length c3]] W (ListPost (fun w2 A c => Row w2 A l3.length c (idVals l3)) l3.length (fun x => .iface 182 (.agg #[.int .u64 (tr : Nat), x])) W) from thing10k_any tr bn bd sn sd v ok l1 l2 l3 a1 c1 a2 c2 a3 c3 W (hp.below hb).r3 (by omega) hne)
 rw [hr] at Hri
 have ek : kindP true = 0 := rfl
 rw [ek] at Hri
 clear hp hw hm hr ek hne
 go_enter Tryz.func35, Tryz.ntmps35
 go_wp2_with fail
 refine Calls.mono (Hri.out _ Ha.out) ?_
 rintro e w1 ⟨rfl, hb1⟩
 have B1 := hid_ (B0.out.below hb1 B0.out.lt)
 have Hb1 := hid_ (Ha.out.trans (hb1.mono Ha.out.size))
 clear hb1
 have x0 := B1.out.cell 0 _ rfl
 have x1 := B1.out.cell 1 _ rfl
 have x2 := B1.out.cell 2 _ rfl
 have x3 := B1.out.cell 3 _ rfl
 have x4 := B1.out.cell 4 _ rfl
 have x5 := B1.out.cell 5 _ rfl
 have x6 := B1.out.cell 6 _ rfl
 have x7 := B1.out.cell 7 _ rfl
 have x8 := B1.out.cell 8 _ rfl
 have x9 := B1.out.cell 9 _ rfl
 have x10 := B1.out.cell 10 _ rfl
 go_wp2_with fail
 refine Calls.mono (Hth.out _ Hb1.out) ?_
 rintro e w2 ⟨A, c, rfl, hr2, hb2⟩
 have Hr2 := hid_ hr2
 have Hb2 := hid_ (Hb1.out.trans (hb2.mono Hb1.out.size))
 clear hb2 hr2
 simp only []
 go_wp2_with fail
 go_ret2
 exact ofP_mk (V := (fun x => .iface 182 (.agg #[.int .u64 (tr : Nat), x]))) (A := A) (c := c) rfl Hr2.out Hb2.out
end Go.Proofs.YthjhofmjhmnddaaGreat
