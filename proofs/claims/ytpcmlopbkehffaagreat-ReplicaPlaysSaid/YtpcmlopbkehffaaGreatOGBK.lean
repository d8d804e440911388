/-
  What the reference's Right answers of a packet (kind 9).
-/
import Derived.Test.YtpcmlopbkehffaaGreatOGBG
set_option linter.unusedSimpArgs false
set_option linter.unusedVariables false
namespace Go.Proofs.YtpcmlopbkehffaaGreat
open Go.RowKit Ru
set_option linter.unusedSimpArgs false
attribute [local go_sem] undef
set_option maxRecDepth 100000 in
set_option maxHeartbeats 16000000 in
theorem ajJ (p:av) (s:aT) (w:World) (hp:bP w p s) (hw:p.Wf) (hk:p.kind=9):Calls Tryz.prog 38 #[aM p s] w (gQ w (bY (bZ p))):=by
 have Ha:=aj (show Below w.heap.size w (w.alloc (.cells (bL p s) 41)) from (Below.refl _ _).alloc (Nat.le_refl _) _)
 have B0:=aj (show gB (w.alloc (.cells (bL p s) 41)) w.heap.size p s from aP w _ _)
 have hlt0:=B0.out.lt
 have kz:=fun (a b:Nat) (w:World)=>kG a b w
 have Ho:=aj (fun W=>kP p s W)
 have Hsm:=aj (fun (W:World) (hb:Below w.heap.size w W)=>jF p (aX p) s (bQ p.kind s) W (hp.below hb) (kQ (hp.below hb)))
 have Hsp:=aj (fun (W:World) (hb:Below w.heap.size w W)=>kY p.trace s.a1 p.spans.length s.c1 p.spans W (hp.r1.below hb) hw.spans)
 have Hmm:=aj (fun (W:World) (hb:Below w.heap.size w W)=>kW s.a2 p.members.length s.c2 p.members W (hp.r2.below hb))
 have Hri:=aj (fun (W:World) (hb:Below w.heap.size w W)=>kX s.a3 p.ids.length s.c3 p.ids W (hp.r3.below hb))
 have Hk:=aj (show bZ p=(cu p (aX p)&&((p.kind==3)||((p.trace:Int) != 0))&&dA p) from rfl)
 unfold fQ at Ho
 generalize hq:aX p=q at *
 generalize hqs:bQ p.kind s=qs at *
 clear hq hqs
 generalize bZ p=r at *
 generalize cu p q=g at *
 have hrest:dA p=(decide (p.bn≠0)&&iq p.trace p.spans):=by unfold dA;rw [hk];simp
 rw [hrest,hk] at Hk
 clear hrest hp hw Hmm Hri
 obtain ⟨k,tr,bn,bd,sn,sd,v,ok,l1,l2,l3⟩:=p
 obtain ⟨a1,c1,a2,c2,a3,c3⟩:=s
 simp only at hk Hk Ho Hsm Hsp
 subst hk
 have hIn:=jc B0.out
 simp only [bL] at hIn Ha hlt0
 have g1:((9:Int)==3)=false:=rfl
 have hr0:g=false→r=false:=fun h=>by rw [Hk.out,h];rfl
 cases g
 ·have hr1:=hr0 rfl
  subst hr1
  obtain ⟨-,y0,y1,y2,y3,y4,y5,y6,y7,y8,y9,y10⟩:=id hIn
  go_enter Tryz.func38,Tryz.ntmps38
  go_wp2_with fail
  generalize w.alloc (.cells #[.int .i64 9,.int .u64 (tr:Nat),.int .u64 (bn:Nat),.int .u64 (bd:Nat),.int .u64 (sn:Nat),.int .u64 (sd:Nat),.int .i64 v,.bool ok,.slice a1 l1.length c1,.slice a2 l2.length c2,.slice a3 l3.length c3] 41)=w0 at *
  first | (go_region_law (first
    | (go_simp;go_at_call 66;(with_reducible refine Calls.mono (Ho.out _) ?_);rintro e w' ⟨rfl,hb'⟩;obtain ⟨hbb,z0,z1,z2,z3,z4,z5,z6,z7,z8,z9,z10⟩:=aI hlt0 (aI hlt0 hIn (Below.drew (Below.refl _ _))) hb')
    | (go_simp;go_at_call 13;(with_reducible refine Calls.mono (Hsm.out _ ?_) ?_);(exact Ha.out.trans (Below.mono hbb Ha.out.size));rintro e w' ⟨rfl,hb''⟩;obtain ⟨hbc,x0,x1,x2,x3,x4,x5,x6,x7,x8,x9,x10⟩:=aI hlt0 (show PIn w0 w.heap.size ⟨9,tr,bn,bd,sn,sd,v,ok,l1,l2,l3⟩ ⟨a1,c1,a2,c2,a3,c3⟩ _ from ⟨hbb,z0,z1,z2,z3,z4,z5,z6,z7,z8,z9,z10⟩) hb'')
    | fail)) | fail
  all_goals
   have h9:=Below.trans Ha.out (Below.mono hbc Ha.out.size)
   go_wp2_with fail
  all_goals
   go_ret
   exact bG rfl h9
 cases htz:((tr:Int) != 0) <;> rw [htz] at Hk
 ·skip
  go_enter Tryz.func38,Tryz.ntmps38
  go_wp2_with fail
  generalize w.alloc (.cells #[.int .i64 9,.int .u64 (tr:Nat),.int .u64 (bn:Nat),.int .u64 (bd:Nat),.int .u64 (sn:Nat),.int .u64 (sd:Nat),.int .i64 v,.bool ok,.slice a1 l1.length c1,.slice a2 l2.length c2,.slice a3 l3.length c3] 41)=w0 at *
  go_region_held3 (PIn w0 w.heap.size ⟨9,tr,bn,bd,sn,sd,v,ok,l1,l2,l3⟩ ⟨a1,c1,a2,c2,a3,c3⟩) (first | assumption | (refine aI hlt0 (by assumption) (by assumption)) | (refine aI hlt0 (by assumption) (Below.drew (Below.refl _ _))) | (refine aI hlt0 (by assumption) (Below.alloc (Below.refl _ _) (Nat.le_refl _) _)))
   (first
    | (go_at_call 66;(with_reducible refine Calls.mono (Ho.out _) ?_);rintro e w' ⟨rfl,hb'⟩)
    | (go_at_call 13;(with_reducible refine Calls.mono (Hsm.out _ ?_) ?_);(exact Ha.out.trans (Below.mono (And.left (by assumption)) Ha.out.size));rintro e w' ⟨rfl,hb'⟩))
  have hS:PIn w0 w.heap.size ⟨9,tr,bn,bd,sn,sd,v,ok,l1,l2,l3⟩ ⟨a1,c1,a2,c2,a3,c3⟩ w':=by assumption
  obtain ⟨hbel,y0,y1,y2,y3,y4,y5,y6,y7,y8,y9,y10⟩:=hS
  have h9:=Below.trans Ha.out (Below.mono hbel Ha.out.size)
  all_goals
   go_wp2_with fail
  all_goals
   go_ret
   refine bG ?_ (by assumption)
   rw [Hk.out]
   simp_all [bY]
 by_cases hbn:bn=0
 ·have hbz:((bn:Int) != 0)=false:=by rw [bne_eq_false_iff_eq];omega
  have HBN:=aj hbn
  clear hbn
  go_enter Tryz.func38,Tryz.ntmps38
  go_wp2_with fail
  generalize w.alloc (.cells #[.int .i64 9,.int .u64 (tr:Nat),.int .u64 (bn:Nat),.int .u64 (bd:Nat),.int .u64 (sn:Nat),.int .u64 (sd:Nat),.int .i64 v,.bool ok,.slice a1 l1.length c1,.slice a2 l2.length c2,.slice a3 l3.length c3] 41)=w0 at *
  go_region_held3 (PIn w0 w.heap.size ⟨9,tr,bn,bd,sn,sd,v,ok,l1,l2,l3⟩ ⟨a1,c1,a2,c2,a3,c3⟩) (first | assumption | (refine aI hlt0 (by assumption) (by assumption)) | (refine aI hlt0 (by assumption) (Below.drew (Below.refl _ _))) | (refine aI hlt0 (by assumption) (Below.alloc (Below.refl _ _) (Nat.le_refl _) _)))
   (first
    | (go_at_call 66;(with_reducible refine Calls.mono (Ho.out _) ?_);rintro e w' ⟨rfl,hb'⟩)
    | (go_at_call 13;(with_reducible refine Calls.mono (Hsm.out _ ?_) ?_);(exact Ha.out.trans (Below.mono (And.left (by assumption)) Ha.out.size));rintro e w' ⟨rfl,hb'⟩))
  have hS:PIn w0 w.heap.size ⟨9,tr,bn,bd,sn,sd,v,ok,l1,l2,l3⟩ ⟨a1,c1,a2,c2,a3,c3⟩ w':=by assumption
  obtain ⟨hbel,y0,y1,y2,y3,y4,y5,y6,y7,y8,y9,y10⟩:=hS
  have h9:=Below.trans Ha.out (Below.mono hbel Ha.out.size)
  all_goals
   go_wp2_with fail
  all_goals
   go_ret
   refine bG ?_ (by assumption)
   rw [Hk.out]
   have hbn:=HBN.out
   simp_all [bY]
 ·have hbz:((bn:Int) != 0)=true:=by rw [bne_iff_ne];omega
  have HBN:=aj hbn
  clear hbn
  go_enter Tryz.func38,Tryz.ntmps38
  go_wp2_with fail
  generalize w.alloc (.cells #[.int .i64 9,.int .u64 (tr:Nat),.int .u64 (bn:Nat),.int .u64 (bd:Nat),.int .u64 (sn:Nat),.int .u64 (sd:Nat),.int .i64 v,.bool ok,.slice a1 l1.length c1,.slice a2 l2.length c2,.slice a3 l3.length c3] 41)=w0 at *
  go_region_held3 (PIn w0 w.heap.size ⟨9,tr,bn,bd,sn,sd,v,ok,l1,l2,l3⟩ ⟨a1,c1,a2,c2,a3,c3⟩) (first | assumption | (refine aI hlt0 (by assumption) (by assumption)) | (refine aI hlt0 (by assumption) (Below.drew (Below.refl _ _))) | (refine aI hlt0 (by assumption) (Below.alloc (Below.refl _ _) (Nat.le_refl _) _)))
   (first
    | (go_at_call 66;(with_reducible refine Calls.mono (Ho.out _) ?_);rintro e w' ⟨rfl,hb'⟩)
    | (go_at_call 13;(with_reducible refine Calls.mono (Hsm.out _ ?_) ?_);(exact Ha.out.trans (Below.mono (And.left (by assumption)) Ha.out.size));rintro e w' ⟨rfl,hb'⟩))
  have hS:PIn w0 w.heap.size ⟨9,tr,bn,bd,sn,sd,v,ok,l1,l2,l3⟩ ⟨a1,c1,a2,c2,a3,c3⟩ w':=by assumption
  obtain ⟨hbel,y0,y1,y2,y3,y4,y5,y6,y7,y8,y9,y10⟩:=hS
  have h9:=Below.trans Ha.out (Below.mono hbel Ha.out.size)
  all_goals
   go_wp2_with fail
  all_goals
   refine Calls.mono (Hsp.out _ h9) ?_
   rintro e wq ⟨rfl,hbq⟩
   have Hz:=aj (rfl:iq tr l1=iq tr l1)
   generalize hz:iq tr l1=z at *
   clear hz Hz
   have h99:=Below.trans h9 (Below.mono hbq h9.size)
   clear h9
   cases z
   all_goals
    go_wp2_with fail
   all_goals
    go_ret
    refine bG ?_ (by assumption)
    rw [Hk.out]
    have hbn:=HBN.out
    simp_all [bY]
end Go.Proofs.YtpcmlopbkehffaaGreat
namespace Go.Proofs.YtpcmlopbkehffaaGreat
open Go.RowKit Ru
set_option linter.unusedSimpArgs false
attribute [local go_sem] undef
set_option maxRecDepth 100000 in
set_option maxHeartbeats 16000000 in
theorem ajA (p:av) (s:aT) (w:World) (hp:bP w p s) (hw:p.Wf) (hk:p.kind=10):Calls Tryz.prog 38 #[aM p s] w (gQ w (bY (bZ p))):=by
 have Ha:=aj (show Below w.heap.size w (w.alloc (.cells (bL p s) 41)) from (Below.refl _ _).alloc (Nat.le_refl _) _)
 have B0:=aj (show gB (w.alloc (.cells (bL p s) 41)) w.heap.size p s from aP w _ _)
 have hlt0:=B0.out.lt
 have kz:=fun (a b:Nat) (w:World)=>kG a b w
 have Ho:=aj (fun W=>kP p s W)
 have Hsm:=aj (fun (W:World) (hb:Below w.heap.size w W)=>jF p (aX p) s (bQ p.kind s) W (hp.below hb) (kQ (hp.below hb)))
 have Hsp:=aj (fun (W:World) (hb:Below w.heap.size w W)=>kY p.trace s.a1 p.spans.length s.c1 p.spans W (hp.r1.below hb) hw.spans)
 have Hmm:=aj (fun (W:World) (hb:Below w.heap.size w W)=>kW s.a2 p.members.length s.c2 p.members W (hp.r2.below hb))
 have Hri:=aj (fun (W:World) (hb:Below w.heap.size w W)=>kX s.a3 p.ids.length s.c3 p.ids W (hp.r3.below hb))
 have Hk:=aj (show bZ p=(cu p (aX p)&&((p.kind==3)||((p.trace:Int) != 0))&&dA p) from rfl)
 unfold fQ at Ho
 generalize hq:aX p=q at *
 generalize hqs:bQ p.kind s=qs at *
 clear hq hqs
 generalize bZ p=r at *
 generalize cu p q=g at *
 have hrest:dA p=(jL p.ids):=by unfold dA;rw [hk];simp
 rw [hrest,hk] at Hk
 clear hrest hp hw Hsp Hmm
 obtain ⟨k,tr,bn,bd,sn,sd,v,ok,l1,l2,l3⟩:=p
 obtain ⟨a1,c1,a2,c2,a3,c3⟩:=s
 simp only at hk Hk Ho Hsm Hri
 subst hk
 have hIn:=jc B0.out
 simp only [bL] at hIn Ha hlt0
 have g1:((10:Int)==3)=false:=rfl
 have hr0:g=false→r=false:=fun h=>by rw [Hk.out,h];rfl
 cases g
 ·have hr1:=hr0 rfl
  subst hr1
  obtain ⟨-,y0,y1,y2,y3,y4,y5,y6,y7,y8,y9,y10⟩:=id hIn
  go_enter Tryz.func38,Tryz.ntmps38
  go_wp2_with fail
  generalize w.alloc (.cells #[.int .i64 10,.int .u64 (tr:Nat),.int .u64 (bn:Nat),.int .u64 (bd:Nat),.int .u64 (sn:Nat),.int .u64 (sd:Nat),.int .i64 v,.bool ok,.slice a1 l1.length c1,.slice a2 l2.length c2,.slice a3 l3.length c3] 41)=w0 at *
  first | (go_region_law (first
    | (go_simp;go_at_call 66;(with_reducible refine Calls.mono (Ho.out _) ?_);rintro e w' ⟨rfl,hb'⟩;obtain ⟨hbb,z0,z1,z2,z3,z4,z5,z6,z7,z8,z9,z10⟩:=aI hlt0 (aI hlt0 hIn (Below.drew (Below.refl _ _))) hb')
    | (go_simp;go_at_call 13;(with_reducible refine Calls.mono (Hsm.out _ ?_) ?_);(exact Ha.out.trans (Below.mono hbb Ha.out.size));rintro e w' ⟨rfl,hb''⟩;obtain ⟨hbc,x0,x1,x2,x3,x4,x5,x6,x7,x8,x9,x10⟩:=aI hlt0 (show PIn w0 w.heap.size ⟨10,tr,bn,bd,sn,sd,v,ok,l1,l2,l3⟩ ⟨a1,c1,a2,c2,a3,c3⟩ _ from ⟨hbb,z0,z1,z2,z3,z4,z5,z6,z7,z8,z9,z10⟩) hb'')
    | fail)) | fail
  all_goals
   have h9:=Below.trans Ha.out (Below.mono hbc Ha.out.size)
   go_wp2_with fail
  all_goals
   go_ret
   exact bG rfl h9
 cases htz:((tr:Int) != 0) <;> rw [htz] at Hk
 ·skip
  go_enter Tryz.func38,Tryz.ntmps38
  go_wp2_with fail
  generalize w.alloc (.cells #[.int .i64 10,.int .u64 (tr:Nat),.int .u64 (bn:Nat),.int .u64 (bd:Nat),.int .u64 (sn:Nat),.int .u64 (sd:Nat),.int .i64 v,.bool ok,.slice a1 l1.length c1,.slice a2 l2.length c2,.slice a3 l3.length c3] 41)=w0 at *
  go_region_held3 (PIn w0 w.heap.size ⟨10,tr,bn,bd,sn,sd,v,ok,l1,l2,l3⟩ ⟨a1,c1,a2,c2,a3,c3⟩) (first | assumption | (refine aI hlt0 (by assumption) (by assumption)) | (refine aI hlt0 (by assumption) (Below.drew (Below.refl _ _))) | (refine aI hlt0 (by assumption) (Below.alloc (Below.refl _ _) (Nat.le_refl _) _)))
   (first
    | (go_at_call 66;(with_reducible refine Calls.mono (Ho.out _) ?_);rintro e w' ⟨rfl,hb'⟩)
    | (go_at_call 13;(with_reducible refine Calls.mono (Hsm.out _ ?_) ?_);(exact Ha.out.trans (Below.mono (And.left (by assumption)) Ha.out.size));rintro e w' ⟨rfl,hb'⟩))
  have hS:PIn w0 w.heap.size ⟨10,tr,bn,bd,sn,sd,v,ok,l1,l2,l3⟩ ⟨a1,c1,a2,c2,a3,c3⟩ w':=by assumption
  obtain ⟨hbel,y0,y1,y2,y3,y4,y5,y6,y7,y8,y9,y10⟩:=hS
  have h9:=Below.trans Ha.out (Below.mono hbel Ha.out.size)
  all_goals
   go_wp2_with fail
  all_goals
   go_ret
   refine bG ?_ (by assumption)
   rw [Hk.out]
   simp_all [bY]
 ·skip
  go_enter Tryz.func38,Tryz.ntmps38
  go_wp2_with fail
  generalize w.alloc (.cells #[.int .i64 10,.int .u64 (tr:Nat),.int .u64 (bn:Nat),.int .u64 (bd:Nat),.int .u64 (sn:Nat),.int .u64 (sd:Nat),.int .i64 v,.bool ok,.slice a1 l1.length c1,.slice a2 l2.length c2,.slice a3 l3.length c3] 41)=w0 at *
  go_region_held3 (PIn w0 w.heap.size ⟨10,tr,bn,bd,sn,sd,v,ok,l1,l2,l3⟩ ⟨a1,c1,a2,c2,a3,c3⟩) (first | assumption | (refine aI hlt0 (by assumption) (by assumption)) | (refine aI hlt0 (by assumption) (Below.drew (Below.refl _ _))) | (refine aI hlt0 (by assumption) (Below.alloc (Below.refl _ _) (Nat.le_refl _) _)))
   (first
    | (go_at_call 66;(with_reducible refine Calls.mono (Ho.out _) ?_);rintro e w' ⟨rfl,hb'⟩)
    | (go_at_call 13;(with_reducible refine Calls.mono (Hsm.out _ ?_) ?_);(exact Ha.out.trans (Below.mono (And.left (by assumption)) Ha.out.size));rintro e w' ⟨rfl,hb'⟩))
  have hS:PIn w0 w.heap.size ⟨10,tr,bn,bd,sn,sd,v,ok,l1,l2,l3⟩ ⟨a1,c1,a2,c2,a3,c3⟩ w':=by assumption
  obtain ⟨hbel,y0,y1,y2,y3,y4,y5,y6,y7,y8,y9,y10⟩:=hS
  have h9:=Below.trans Ha.out (Below.mono hbel Ha.out.size)
  all_goals
   go_wp2_with fail
  all_goals
   refine Calls.mono (Hri.out _ h9) ?_
   rintro e wq ⟨rfl,hbq⟩
   have Hz:=aj (rfl:jL l3=jL l3)
   generalize hz:jL l3=z at *
   clear hz Hz
   have h99:=Below.trans h9 (Below.mono hbq h9.size)
   clear h9
   cases z
   all_goals
    go_wp2_with fail
   all_goals
    go_ret
    refine bG ?_ (by assumption)
    rw [Hk.out]
    simp_all [bY]
end Go.Proofs.YtpcmlopbkehffaaGreat
namespace Go.Proofs.YtpcmlopbkehffaaGreat
open Go.RowKit Ru
set_option linter.unusedSimpArgs false
attribute [local go_sem] undef
set_option maxRecDepth 100000 in
set_option maxHeartbeats 16000000 in
theorem ajK (p:av) (s:aT) (w:World) (hp:bP w p s) (hw:p.Wf) (hk:¬ (1≤p.kind∧p.kind≤10)):Calls Tryz.prog 38 #[aM p s] w (gQ w (bY (bZ p))):=by
 have Ha:=aj (show Below w.heap.size w (w.alloc (.cells (bL p s) 41)) from (Below.refl _ _).alloc (Nat.le_refl _) _)
 have B0:=aj (show gB (w.alloc (.cells (bL p s) 41)) w.heap.size p s from aP w _ _)
 have hlt0:=B0.out.lt
 have kz:=fun (a b:Nat) (w:World)=>kG a b w
 have Ho:=aj (fun W=>kP p s W)
 have Hsm:=aj (fun (W:World) (hb:Below w.heap.size w W)=>jF p (aX p) s (bQ p.kind s) W (hp.below hb) (kQ (hp.below hb)))
 have Hsp:=aj (fun (W:World) (hb:Below w.heap.size w W)=>kY p.trace s.a1 p.spans.length s.c1 p.spans W (hp.r1.below hb) hw.spans)
 have Hmm:=aj (fun (W:World) (hb:Below w.heap.size w W)=>kW s.a2 p.members.length s.c2 p.members W (hp.r2.below hb))
 have Hri:=aj (fun (W:World) (hb:Below w.heap.size w W)=>kX s.a3 p.ids.length s.c3 p.ids W (hp.r3.below hb))
 have Hk:=aj (show bZ p=(cu p (aX p)&&((p.kind==3)||((p.trace:Int) != 0))&&dA p) from rfl)
 unfold fQ at Ho
 generalize hq:aX p=q at *
 generalize hqs:bQ p.kind s=qs at *
 clear hq hqs
 generalize bZ p=r at *
 generalize cu p q=g at *
 have hrest:dA p=false:=by
  unfold dA
  rw [if_neg (by omega),if_neg (by omega),if_neg (by omega),if_neg (by omega),if_neg (by omega),if_neg (by omega),if_neg (by omega),if_neg (by omega),if_neg (by omega)]
 rw [hrest,Bool.and_false] at Hk
 clear hrest hp hw Hsp Hmm Hri
 obtain ⟨k,tr,bn,bd,sn,sd,v,ok,l1,l2,l3⟩:=p
 obtain ⟨a1,c1,a2,c2,a3,c3⟩:=s
 simp only at hk Hk Ho Hsm
 have e1:(k==1)=false:=by rw [beq_eq_false_iff_ne];omega
 have e2:(k==2)=false:=by rw [beq_eq_false_iff_ne];omega
 have e3:(k==3)=false:=by rw [beq_eq_false_iff_ne];omega
 have e4:(k==4)=false:=by rw [beq_eq_false_iff_ne];omega
 have e5:(k==5)=false:=by rw [beq_eq_false_iff_ne];omega
 have e6:(k==6)=false:=by rw [beq_eq_false_iff_ne];omega
 have e7:(k==7)=false:=by rw [beq_eq_false_iff_ne];omega
 have e8:(k==8)=false:=by rw [beq_eq_false_iff_ne];omega
 have e9:(k==9)=false:=by rw [beq_eq_false_iff_ne];omega
 have e10:(k==10)=false:=by rw [beq_eq_false_iff_ne];omega
 clear hk
 have hIn:=jc B0.out
 simp only [bL] at hIn Ha hlt0
 have hr0:g=false→r=false:=fun h=>Hk.out
 cases g
 ·have hr1:=hr0 rfl
  subst hr1
  obtain ⟨-,y0,y1,y2,y3,y4,y5,y6,y7,y8,y9,y10⟩:=id hIn
  go_enter Tryz.func38,Tryz.ntmps38
  go_wp2_with fail
  generalize w.alloc (.cells #[.int .i64 k,.int .u64 (tr:Nat),.int .u64 (bn:Nat),.int .u64 (bd:Nat),.int .u64 (sn:Nat),.int .u64 (sd:Nat),.int .i64 v,.bool ok,.slice a1 l1.length c1,.slice a2 l2.length c2,.slice a3 l3.length c3] 41)=w0 at *
  first | (go_region_law (first
    | (go_simp;go_at_call 66;(with_reducible refine Calls.mono (Ho.out _) ?_);rintro e w' ⟨rfl,hb'⟩;obtain ⟨hbb,z0,z1,z2,z3,z4,z5,z6,z7,z8,z9,z10⟩:=aI hlt0 (aI hlt0 hIn (Below.drew (Below.refl _ _))) hb')
    | (go_simp;go_at_call 13;(with_reducible refine Calls.mono (Hsm.out _ ?_) ?_);(exact Ha.out.trans (Below.mono hbb Ha.out.size));rintro e w' ⟨rfl,hb''⟩;obtain ⟨hbc,x0,x1,x2,x3,x4,x5,x6,x7,x8,x9,x10⟩:=aI hlt0 (show PIn w0 w.heap.size ⟨k,tr,bn,bd,sn,sd,v,ok,l1,l2,l3⟩ ⟨a1,c1,a2,c2,a3,c3⟩ _ from ⟨hbb,z0,z1,z2,z3,z4,z5,z6,z7,z8,z9,z10⟩) hb'')
    | fail)) | fail
  all_goals
   have h9:=Below.trans Ha.out (Below.mono hbc Ha.out.size)
   go_wp2_with fail
  all_goals
   go_ret
   exact bG rfl h9
 cases htz:((tr:Int) != 0)
 ·skip
  go_enter Tryz.func38,Tryz.ntmps38
  go_wp2_with fail
  generalize w.alloc (.cells #[.int .i64 k,.int .u64 (tr:Nat),.int .u64 (bn:Nat),.int .u64 (bd:Nat),.int .u64 (sn:Nat),.int .u64 (sd:Nat),.int .i64 v,.bool ok,.slice a1 l1.length c1,.slice a2 l2.length c2,.slice a3 l3.length c3] 41)=w0 at *
  go_region_held3 (PIn w0 w.heap.size ⟨k,tr,bn,bd,sn,sd,v,ok,l1,l2,l3⟩ ⟨a1,c1,a2,c2,a3,c3⟩) (first | assumption | (refine aI hlt0 (by assumption) (by assumption)) | (refine aI hlt0 (by assumption) (Below.drew (Below.refl _ _))) | (refine aI hlt0 (by assumption) (Below.alloc (Below.refl _ _) (Nat.le_refl _) _)))
   (first
    | (go_at_call 66;(with_reducible refine Calls.mono (Ho.out _) ?_);rintro e w' ⟨rfl,hb'⟩)
    | (go_at_call 13;(with_reducible refine Calls.mono (Hsm.out _ ?_) ?_);(exact Ha.out.trans (Below.mono (And.left (by assumption)) Ha.out.size));rintro e w' ⟨rfl,hb'⟩))
  have hS:PIn w0 w.heap.size ⟨k,tr,bn,bd,sn,sd,v,ok,l1,l2,l3⟩ ⟨a1,c1,a2,c2,a3,c3⟩ w':=by assumption
  obtain ⟨hbel,y0,y1,y2,y3,y4,y5,y6,y7,y8,y9,y10⟩:=hS
  have h9:=Below.trans Ha.out (Below.mono hbel Ha.out.size)
  all_goals
   go_wp2_with fail
  all_goals
   go_ret
   refine bG ?_ (by assumption)
   rw [Hk.out]
   rfl
 ·skip
  go_enter Tryz.func38,Tryz.ntmps38
  go_wp2_with fail
  generalize w.alloc (.cells #[.int .i64 k,.int .u64 (tr:Nat),.int .u64 (bn:Nat),.int .u64 (bd:Nat),.int .u64 (sn:Nat),.int .u64 (sd:Nat),.int .i64 v,.bool ok,.slice a1 l1.length c1,.slice a2 l2.length c2,.slice a3 l3.length c3] 41)=w0 at *
  go_region_held3 (PIn w0 w.heap.size ⟨k,tr,bn,bd,sn,sd,v,ok,l1,l2,l3⟩ ⟨a1,c1,a2,c2,a3,c3⟩) (first | assumption | (refine aI hlt0 (by assumption) (by assumption)) | (refine aI hlt0 (by assumption) (Below.drew (Below.refl _ _))) | (refine aI hlt0 (by assumption) (Below.alloc (Below.refl _ _) (Nat.le_refl _) _)))
   (first
    | (go_at_call 66;(with_reducible refine Calls.mono (Ho.out _) ?_);rintro e w' ⟨rfl,hb'⟩)
    | (go_at_call 13;(with_reducible refine Calls.mono (Hsm.out _ ?_) ?_);(exact Ha.out.trans (Below.mono (And.left (by assumption)) Ha.out.size));rintro e w' ⟨rfl,hb'⟩))
  have hS:PIn w0 w.heap.size ⟨k,tr,bn,bd,sn,sd,v,ok,l1,l2,l3⟩ ⟨a1,c1,a2,c2,a3,c3⟩ w':=by assumption
  obtain ⟨hbel,y0,y1,y2,y3,y4,y5,y6,y7,y8,y9,y10⟩:=hS
  have h9:=Below.trans Ha.out (Below.mono hbel Ha.out.size)
  all_goals
   go_wp2_with fail
  all_goals
   go_ret
   refine bG ?_ (by assumption)
   rw [Hk.out]
   rfl
end Go.Proofs.YtpcmlopbkehffaaGreat
