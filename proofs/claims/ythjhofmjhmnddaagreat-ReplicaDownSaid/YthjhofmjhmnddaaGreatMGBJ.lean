/-
  What the reference's Right answers of a packet (kind 6).
-/
import Derived.Test.YthjhofmjhmnddaaGreatMGBG
set_option linter.unusedSimpArgs false
set_option linter.unusedVariables false
namespace Go.Proofs.YthjhofmjhmnddaaGreat
open Go.RowKit Ru
set_option linter.unusedSimpArgs false
attribute [local go_sem] undef
set_option maxRecDepth 100000 in
set_option maxHeartbeats 16000000 in
theorem refright6_any (p : PackD) (s : PackS) (w : World) (hp : PackIn w p s) (hw : p.Wf) (hk : p.kind = 6) : Calls Tryz.prog 41 #[packVal p s] w (KindIs w (kindP (refRightP p))) := by
 have Ha := hid_ (show Below w.heap.size w (w.alloc (.cells (packCells p s) 41)) from (Below.refl _ _).alloc (Nat.le_refl _) _)
 have B0 := hid_ (show packBox (w.alloc (.cells (packCells p s) 41)) w.heap.size p s from whole_new w _ _)
 have hlt0 := B0.out.lt
 have kz := fun (a b : Nat) (w : World) => ballot_zero a b w
 have Ho := hid_ (fun W => only_any p s W)
 have Hsm := hid_ (fun (W : World) (hb : Below w.heap.size w W) => refsame_any p (onlyF p) s (onlyS p.kind s) W (hp.below hb) (only_in (hp.below hb)))
 have Hsp := hid_ (fun (W : World) (hb : Below w.heap.size w W) => refspans5_any p.trace s.a1 p.spans.length s.c1 p.spans W (hp.r1.below hb) hw.spans)
 have Hmm := hid_ (fun (W : World) (hb : Below w.heap.size w W) => refmembers_any s.a2 p.members.length s.c2 p.members W (hp.r2.below hb))
 have Hri := hid_ (fun (W : World) (hb : Below w.heap.size w W) => refrise_any s.a3 p.ids.length s.c3 p.ids W (hp.r3.below hb))
 have Hk := hid_ (show refRightP p = (sameP p (onlyF p) && ((p.kind == 3) || ((p.trace : Int) != 0)) && restF p) from rfl)
 unfold OnlyPost at Ho
 generalize hq : onlyF p = q at *
 generalize hqs : onlyS p.kind s = qs at *
 clear hq hqs
 generalize refRightP p = r at *
 generalize sameP p q = g at *
 have hrest : restF p = (decide (p.bn ≠ 0) && toldF p.v) := by unfold restF; rw [hk]; simp
 rw [hrest, hk] at Hk
 clear hrest hp hw Hsp Hmm Hri
 obtain ⟨k, tr, bn, bd, sn, sd, v, ok, l1, l2, l3⟩ := p
 obtain ⟨a1, c1, a2, c2, a3, c3⟩ := s
 simp only at hk Hk Ho Hsm
 subst hk
 have hIn := pIn_of B0.out
 simp only [packCells] at hIn Ha hlt0
 have g1 : ((6 : Int) == 3) = false := rfl
 have hr0 : g = false → r = false := fun h => by rw [Hk.out, h]; rfl
 cases g
 ·have hr1 := hr0 rfl
  subst hr1
  obtain ⟨-, y0, y1, y2, y3, y4, y5, y6, y7, y8, y9, y10⟩ := id hIn
  go_enter Tryz.func41, Tryz.ntmps41
  go_wp2_with fail
  generalize w.alloc (.cells #[.int .i64 6, .int .u64 (tr : Nat), .int .u64 (bn : Nat), .int .u64 (bd : Nat), .int .u64 (sn : Nat), .int .u64 (sd : Nat), .int .i64 v, .bool ok, .slice a1 l1.length c1, .slice a2 l2.length c2, .slice a3 l3.length c3] 41) = w0 at *
  first | (go_region_law (first
    | (go_simp; go_at_call 69; (with_reducible refine Calls.mono (Ho.out _) ?_); rintro e w' ⟨rfl, hb'⟩; obtain ⟨hbb, z0, z1, z2, z3, z4, z5, z6, z7, z8, z9, z10⟩ := pIn_keep hlt0 (pIn_keep hlt0 hIn (Below.drew (Below.refl _ _))) hb')
    | (go_simp; go_at_call 15; (with_reducible refine Calls.mono (Hsm.out _ ?_) ?_); (exact Ha.out.trans (Below.mono hbb Ha.out.size)); rintro e w' ⟨rfl, hb''⟩; obtain ⟨hbc, x0, x1, x2, x3, x4, x5, x6, x7, x8, x9, x10⟩ := pIn_keep hlt0 (show PIn w0 w.heap.size ⟨6, tr, bn, bd, sn, sd, v, ok, l1, l2, l3⟩ ⟨a1, c1, a2, c2, a3, c3⟩ _ from ⟨hbb, z0, z1, z2, z3, z4, z5, z6, z7, z8, z9, z10⟩) hb'')
    | fail)) | fail
  all_goals
   have h9 := Below.trans Ha.out (Below.mono hbc Ha.out.size)
   go_wp2_with fail
  all_goals
   go_ret
   exact kindIs_mk rfl h9
 cases htz : ((tr : Int) != 0) <;> rw [htz] at Hk
 all_goals
  go_enter Tryz.func41, Tryz.ntmps41
  go_wp2_with fail
  generalize w.alloc (.cells #[.int .i64 6, .int .u64 (tr : Nat), .int .u64 (bn : Nat), .int .u64 (bd : Nat), .int .u64 (sn : Nat), .int .u64 (sd : Nat), .int .i64 v, .bool ok, .slice a1 l1.length c1, .slice a2 l2.length c2, .slice a3 l3.length c3] 41) = w0 at *
  go_region_held3 (PIn w0 w.heap.size ⟨6, tr, bn, bd, sn, sd, v, ok, l1, l2, l3⟩ ⟨a1, c1, a2, c2, a3, c3⟩) (first | assumption | (refine pIn_keep hlt0 (by assumption) (by assumption)) | (refine pIn_keep hlt0 (by assumption) (Below.drew (Below.refl _ _))) | (refine pIn_keep hlt0 (by assumption) (Below.alloc (Below.refl _ _) (Nat.le_refl _) _)))
   (first
    | (go_at_call 69; (with_reducible refine Calls.mono (Ho.out _) ?_); rintro e w' ⟨rfl, hb'⟩)
    | (go_at_call 15; (with_reducible refine Calls.mono (Hsm.out _ ?_) ?_); (exact Ha.out.trans (Below.mono (And.left (by assumption)) Ha.out.size)); rintro e w' ⟨rfl, hb'⟩))
  have hS : PIn w0 w.heap.size ⟨6, tr, bn, bd, sn, sd, v, ok, l1, l2, l3⟩ ⟨a1, c1, a2, c2, a3, c3⟩ w' := by assumption
  obtain ⟨hbel, y0, y1, y2, y3, y4, y5, y6, y7, y8, y9, y10⟩ := hS
  have h9 := Below.trans Ha.out (Below.mono hbel Ha.out.size)
  go_wp2_with fail
 all_goals
  go_ret
  refine kindIs_mk ?_ (by assumption)
  rw [Hk.out]
  simp_all [toldF, kindP] <;> (intros; omega)
end Go.Proofs.YthjhofmjhmnddaaGreat
/-
 What the reference's Right answers of a packet (kind 7).
-/
namespace Go.Proofs.YthjhofmjhmnddaaGreat
open Go.RowKit Ru
set_option linter.unusedSimpArgs false
attribute [local go_sem] undef
set_option maxRecDepth 100000 in
set_option maxHeartbeats 16000000 in
theorem refright7_any (p : PackD) (s : PackS) (w : World) (hp : PackIn w p s) (hw : p.Wf) (hk : p.kind = 7) : Calls Tryz.prog 41 #[packVal p s] w (KindIs w (kindP (refRightP p))) := by
 have Ha := hid_ (show Below w.heap.size w (w.alloc (.cells (packCells p s) 41)) from (Below.refl _ _).alloc (Nat.le_refl _) _)
 have B0 := hid_ (show packBox (w.alloc (.cells (packCells p s) 41)) w.heap.size p s from whole_new w _ _)
 have hlt0 := B0.out.lt
 have kz := fun (a b : Nat) (w : World) => ballot_zero a b w
 have Ho := hid_ (fun W => only_any p s W)
 have Hsm := hid_ (fun (W : World) (hb : Below w.heap.size w W) => refsame_any p (onlyF p) s (onlyS p.kind s) W (hp.below hb) (only_in (hp.below hb)))
 have Hsp := hid_ (fun (W : World) (hb : Below w.heap.size w W) => refspans5_any p.trace s.a1 p.spans.length s.c1 p.spans W (hp.r1.below hb) hw.spans)
 have Hmm := hid_ (fun (W : World) (hb : Below w.heap.size w W) => refmembers_any s.a2 p.members.length s.c2 p.members W (hp.r2.below hb))
 have Hri := hid_ (fun (W : World) (hb : Below w.heap.size w W) => refrise_any s.a3 p.ids.length s.c3 p.ids W (hp.r3.below hb))
 have Hk := hid_ (show refRightP p = (sameP p (onlyF p) && ((p.kind == 3) || ((p.trace : Int) != 0)) && restF p) from rfl)
 unfold OnlyPost at Ho
 generalize hq : onlyF p = q at *
 generalize hqs : onlyS p.kind s = qs at *
 clear hq hqs
 generalize refRightP p = r at *
 generalize sameP p q = g at *
 have hrest : restF p = (decide (p.bn ≠ 0) && (p.ok == !isB p.sn p.snode)) := by unfold restF; rw [hk]; simp
 rw [hrest, hk] at Hk
 clear hrest hp hw Hsp Hmm Hri
 obtain ⟨k, tr, bn, bd, sn, sd, v, ok, l1, l2, l3⟩ := p
 obtain ⟨a1, c1, a2, c2, a3, c3⟩ := s
 simp only at hk Hk Ho Hsm
 subst hk
 have hIn := pIn_of B0.out
 simp only [packCells] at hIn Ha hlt0
 have g1 : ((7 : Int) == 3) = false := rfl
 have hr0 : g = false → r = false := fun h => by rw [Hk.out, h]; rfl
 cases g
 ·have hr1 := hr0 rfl
  subst hr1
  obtain ⟨-, y0, y1, y2, y3, y4, y5, y6, y7, y8, y9, y10⟩ := id hIn
  go_enter Tryz.func41, Tryz.ntmps41
  go_wp2_with fail
  generalize w.alloc (.cells #[.int .i64 7, .int .u64 (tr : Nat), .int .u64 (bn : Nat), .int .u64 (bd : Nat), .int .u64 (sn : Nat), .int .u64 (sd : Nat), .int .i64 v, .bool ok, .slice a1 l1.length c1, .slice a2 l2.length c2, .slice a3 l3.length c3] 41) = w0 at *
  first | (go_region_law (first
    | (go_simp; go_at_call 69; (with_reducible refine Calls.mono (Ho.out _) ?_); rintro e w' ⟨rfl, hb'⟩; obtain ⟨hbb, z0, z1, z2, z3, z4, z5, z6, z7, z8, z9, z10⟩ := pIn_keep hlt0 (pIn_keep hlt0 hIn (Below.drew (Below.refl _ _))) hb')
    | (go_simp; go_at_call 15; (with_reducible refine Calls.mono (Hsm.out _ ?_) ?_); (exact Ha.out.trans (Below.mono hbb Ha.out.size)); rintro e w' ⟨rfl, hb''⟩; obtain ⟨hbc, x0, x1, x2, x3, x4, x5, x6, x7, x8, x9, x10⟩ := pIn_keep hlt0 (show PIn w0 w.heap.size ⟨7, tr, bn, bd, sn, sd, v, ok, l1, l2, l3⟩ ⟨a1, c1, a2, c2, a3, c3⟩ _ from ⟨hbb, z0, z1, z2, z3, z4, z5, z6, z7, z8, z9, z10⟩) hb'')
    | fail)) | fail
  all_goals
   have h9 := Below.trans Ha.out (Below.mono hbc Ha.out.size)
   go_wp2_with fail
  all_goals
   go_ret
   exact kindIs_mk rfl h9
 cases htz : ((tr : Int) != 0) <;> rw [htz] at Hk
 all_goals
  go_enter Tryz.func41, Tryz.ntmps41
  go_wp2_with fail
  generalize w.alloc (.cells #[.int .i64 7, .int .u64 (tr : Nat), .int .u64 (bn : Nat), .int .u64 (bd : Nat), .int .u64 (sn : Nat), .int .u64 (sd : Nat), .int .i64 v, .bool ok, .slice a1 l1.length c1, .slice a2 l2.length c2, .slice a3 l3.length c3] 41) = w0 at *
  go_region_held3 (PIn w0 w.heap.size ⟨7, tr, bn, bd, sn, sd, v, ok, l1, l2, l3⟩ ⟨a1, c1, a2, c2, a3, c3⟩) (first | assumption | (refine pIn_keep hlt0 (by assumption) (by assumption)) | (refine pIn_keep hlt0 (by assumption) (Below.drew (Below.refl _ _))) | (refine pIn_keep hlt0 (by assumption) (Below.alloc (Below.refl _ _) (Nat.le_refl _) _)))
   (first
    | (go_at_call 69; (with_reducible refine Calls.mono (Ho.out _) ?_); rintro e w' ⟨rfl, hb'⟩)
    | (go_at_call 15; (with_reducible refine Calls.mono (Hsm.out _ ?_) ?_); (exact Ha.out.trans (Below.mono (And.left (by assumption)) Ha.out.size)); rintro e w' ⟨rfl, hb'⟩))
  have hS : PIn w0 w.heap.size ⟨7, tr, bn, bd, sn, sd, v, ok, l1, l2, l3⟩ ⟨a1, c1, a2, c2, a3, c3⟩ w' := by assumption
  obtain ⟨hbel, y0, y1, y2, y3, y4, y5, y6, y7, y8, y9, y10⟩ := hS
  have h9 := Below.trans Ha.out (Below.mono hbel Ha.out.size)
  go_wp2_with fail
 all_goals
  go_ret
  refine kindIs_mk ?_ (by assumption)
  rw [Hk.out]
  simp_all [toldF, kindP] <;> (intros; omega)
end Go.Proofs.YthjhofmjhmnddaaGreat
/-
 What the reference's Right answers of a packet (kind 8).
-/
namespace Go.Proofs.YthjhofmjhmnddaaGreat
open Go.RowKit Ru
set_option linter.unusedSimpArgs false
attribute [local go_sem] undef
set_option maxRecDepth 100000 in
set_option maxHeartbeats 16000000 in
theorem refright8_any (p : PackD) (s : PackS) (w : World) (hp : PackIn w p s) (hw : p.Wf) (hk : p.kind = 8) : Calls Tryz.prog 41 #[packVal p s] w (KindIs w (kindP (refRightP p))) := by
 have Ha := hid_ (show Below w.heap.size w (w.alloc (.cells (packCells p s) 41)) from (Below.refl _ _).alloc (Nat.le_refl _) _)
 have B0 := hid_ (show packBox (w.alloc (.cells (packCells p s) 41)) w.heap.size p s from whole_new w _ _)
 have hlt0 := B0.out.lt
 have kz := fun (a b : Nat) (w : World) => ballot_zero a b w
 have Ho := hid_ (fun W => only_any p s W)
 have Hsm := hid_ (fun (W : World) (hb : Below w.heap.size w W) => refsame_any p (onlyF p) s (onlyS p.kind s) W (hp.below hb) (only_in (hp.below hb)))
 have Hsp := hid_ (fun (W : World) (hb : Below w.heap.size w W) => refspans5_any p.trace s.a1 p.spans.length s.c1 p.spans W (hp.r1.below hb) hw.spans)
 have Hmm := hid_ (fun (W : World) (hb : Below w.heap.size w W) => refmembers_any s.a2 p.members.length s.c2 p.members W (hp.r2.below hb))
 have Hri := hid_ (fun (W : World) (hb : Below w.heap.size w W) => refrise_any s.a3 p.ids.length s.c3 p.ids W (hp.r3.below hb))
 have Hk := hid_ (show refRightP p = (sameP p (onlyF p) && ((p.kind == 3) || ((p.trace : Int) != 0)) && restF p) from rfl)
 unfold OnlyPost at Ho
 generalize hq : onlyF p = q at *
 generalize hqs : onlyS p.kind s = qs at *
 clear hq hqs
 generalize refRightP p = r at *
 generalize sameP p q = g at *
 have hrest : restF p = (toldF p.v) := by unfold restF; rw [hk]; simp
 rw [hrest, hk] at Hk
 clear hrest hp hw Hsp Hmm Hri
 obtain ⟨k, tr, bn, bd, sn, sd, v, ok, l1, l2, l3⟩ := p
 obtain ⟨a1, c1, a2, c2, a3, c3⟩ := s
 simp only at hk Hk Ho Hsm
 subst hk
 have hIn := pIn_of B0.out
 simp only [packCells] at hIn Ha hlt0
 have g1 : ((8 : Int) == 3) = false := rfl
 have hr0 : g = false → r = false := fun h => by rw [Hk.out, h]; rfl
 cases g
 ·have hr1 := hr0 rfl
  subst hr1
  obtain ⟨-, y0, y1, y2, y3, y4, y5, y6, y7, y8, y9, y10⟩ := id hIn
  go_enter Tryz.func41, Tryz.ntmps41
  go_wp2_with fail
  generalize w.alloc (.cells #[.int .i64 8, .int .u64 (tr : Nat), .int .u64 (bn : Nat), .int .u64 (bd : Nat), .int .u64 (sn : Nat), .int .u64 (sd : Nat), .int .i64 v, .bool ok, .slice a1 l1.length c1, .slice a2 l2.length c2, .slice a3 l3.length c3] 41) = w0 at *
  first | (go_region_law (first
    | (go_simp; go_at_call 69; (with_reducible refine Calls.mono (Ho.out _) ?_); rintro e w' ⟨rfl, hb'⟩; obtain ⟨hbb, z0, z1, z2, z3, z4, z5, z6, z7, z8, z9, z10⟩ := pIn_keep hlt0 (pIn_keep hlt0 hIn (Below.drew (Below.refl _ _))) hb')
    | (go_simp; go_at_call 15; (with_reducible refine Calls.mono (Hsm.out _ ?_) ?_); (exact Ha.out.trans (Below.mono hbb Ha.out.size)); rintro e w' ⟨rfl, hb''⟩; obtain ⟨hbc, x0, x1, x2, x3, x4, x5, x6, x7, x8, x9, x10⟩ := pIn_keep hlt0 (show PIn w0 w.heap.size ⟨8, tr, bn, bd, sn, sd, v, ok, l1, l2, l3⟩ ⟨a1, c1, a2, c2, a3, c3⟩ _ from ⟨hbb, z0, z1, z2, z3, z4, z5, z6, z7, z8, z9, z10⟩) hb'')
    | fail)) | fail
  all_goals
   have h9 := Below.trans Ha.out (Below.mono hbc Ha.out.size)
   go_wp2_with fail
  all_goals
   go_ret
   exact kindIs_mk rfl h9
 cases htz : ((tr : Int) != 0) <;> rw [htz] at Hk
 all_goals
  go_enter Tryz.func41, Tryz.ntmps41
  go_wp2_with fail
  generalize w.alloc (.cells #[.int .i64 8, .int .u64 (tr : Nat), .int .u64 (bn : Nat), .int .u64 (bd : Nat), .int .u64 (sn : Nat), .int .u64 (sd : Nat), .int .i64 v, .bool ok, .slice a1 l1.length c1, .slice a2 l2.length c2, .slice a3 l3.length c3] 41) = w0 at *
  go_region_held3 (PIn w0 w.heap.size ⟨8, tr, bn, bd, sn, sd, v, ok, l1, l2, l3⟩ ⟨a1, c1, a2, c2, a3, c3⟩) (first | assumption | (refine pIn_keep hlt0 (by assumption) (by assumption)) | (refine pIn_keep hlt0 (by assumption) (Below.drew (Below.refl _ _))) | (refine pIn_keep hlt0 (by assumption) (Below.alloc (Below.refl _ _) (Nat.le_refl _) _)))
   (first
    | (go_at_call 69; (with_reducible refine Calls.mono (Ho.out _) ?_); rintro e w' ⟨rfl, hb'⟩)
    | (go_at_call 15; (with_reducible refine Calls.mono (Hsm.out _ ?_) ?_); (exact Ha.out.trans (Below.mono (And.left (by assumption)) Ha.out.size)); rintro e w' ⟨rfl, hb'⟩))
  have hS : PIn w0 w.heap.size ⟨8, tr, bn, bd, sn, sd, v, ok, l1, l2, l3⟩ ⟨a1, c1, a2, c2, a3, c3⟩ w' := by assumption
  obtain ⟨hbel, y0, y1, y2, y3, y4, y5, y6, y7, y8, y9, y10⟩ := hS
  have h9 := Below.trans Ha.out (Below.mono hbel Ha.out.size)
  go_wp2_with fail
 all_goals
  go_ret
  refine kindIs_mk ?_ (by assumption)
  rw [Hk.out]
  simp_all [toldF, kindP] <;> (intros; omega)
end Go.Proofs.YthjhofmjhmnddaaGreat
