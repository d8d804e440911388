/-
  A replica and its disk in a law's hands.
-/
import Derived.Test.YtpcmlopbkehffaaGreatOGAB
import Derived.Test.YtpcmlopbkehffaaGreatOGAP
import Derived.Test.YtpcmlopbkehffaaGreatOGBE
import Derived.Test.YtpcmlopbkehffaaGreatOGBL
import Derived.Test.YtpcmlopbkehffaaGreatOGDF
import Derived.Test.YtpcmlopbkehffaaGreatOGDG
set_option linter.unusedSimpArgs false
set_option linter.unusedVariables false
namespace Go.Proofs.YtpcmlopbkehffaaGreat
open Go.RowKit Rg Bl Re Wl Dsk Fm Vw
namespace Rp
structure Mv (X E:Nat→Prop) (w:World) (X' E':Nat→Prop) (w':World):Prop where
 tn:Tn E w w'
 e1:∀ q,E' q→E q∨w.heap.size≤q
 x2:∀ q,X q→X' q
 x1:∀ q,X' q→X q∨w.heap.size≤q
 e2:∀ q,E q→E' q
theorem Mv.refl (X E:Nat→Prop) (w:World):Mv X E w X E w:=⟨Tn.refl _ _,fun _ h => .inl h,fun _ h=>h,fun _ h => .inl h,fun _ h=>h⟩
theorem Mv.trans {X E X1 E1 X2 E2:Nat→Prop} {w w1 w2:World} (h:Mv X E w X1 E1 w1) (k:Mv X1 E1 w1 X2 E2 w2):Mv X E w X2 E2 w2:=by
 have hz:=h.tn.size
 refine ⟨h.tn.trans k.tn h.e1,fun q hq=>?_,fun q hq=>k.x2 q (h.x2 q hq),fun q hq=>?_,fun q hq=>k.e2 q (h.e2 q hq)⟩
 ·rcases k.e1 q hq with h1 | h1
  ·exact h.e1 q h1
  ·right;omega
 ·rcases k.x1 q hq with h1 | h1
  ·exact h.x1 q h1
  ·right;omega
theorem Mv.later {X E X1 E1:Nat→Prop} {w w1 w2:World} (h:Mv X E w X1 E1 w1) (k:Below w1.heap.size w1 w2):Mv X E w X1 E1 w2:=⟨h.tn.iQ k,h.e1,h.x2,h.x1,h.e2⟩
theorem Mv.of_below {X E:Nat→Prop} {w w1:World} (k:Below w.heap.size w w1):Mv X E w X E w1:=(Mv.refl X E w).later k
structure RpU (wa w:World) (gr gd:Nat) (X E:Nat→Prop) (d:ak) (most:Int) (L:List FS) (R:List au) (N:Nat):Prop where
 rep:∃ gl bm F,bO wa.heap.size wa w gr gl gd bm X F E d most L R false N
 up:RUp d most L R N
structure RpD (wa w:World) (gr gd:Nat) (X E:Nat→Prop) (d:ak) (most:Int) (R S:List au) (N:Nat):Prop where
 rep:∃ gl bm F L,bO wa.heap.size wa w gr gl gd bm X F E d most L R true N
 down:nH d most R S N
 fa:dS R∧fA R∧(∀ o∈R,o.Ok)∧R.length≤1000000
section
variable {wa w w':World} {gr gd:Nat} {X E X' E':Nat→Prop} {d d':ak} {most:Int} {L L':List FS} {R R' S:List au} {N N':Nat}
theorem RUp.len (h:RUp d most L R N):R.length≤1000000:=by
 have hr:=h.adh
 obtain ⟨base,hl,-⟩:=h.gY
 have hb:=hl.big
 obtain ⟨base,c,os,s,h1,h2,h3,h4,h5,h6,h7,h8⟩:=h
 have e:=h7 os.length h6 (Nat.le_refl _)
 rw [List.take_length] at e
 have:=ad4 [] os
 rw [e] at this
 have:=zi h4
 simp at *
 omega
theorem RpU.later (h:RpU wa w gr gd X E d most L R N) (k:Below w.heap.size w w'):RpU wa w' gr gd X E d most L R N:=by
 obtain ⟨gl,bm,F,h1⟩:=h.rep
 exact ⟨⟨gl,bm,F,h1.later k⟩,h.up⟩
theorem RpD.later (h:RpD wa w gr gd X E d most R S N) (k:Below w.heap.size w w'):RpD wa w' gr gd X E d most R S N:=by
 obtain ⟨gl,bm,F,L,h1⟩:=h.rep
 exact ⟨⟨gl,bm,F,L,h1.later k⟩,h.down,h.fa⟩
theorem RpU.below (h:RpU wa w gr gd X E d most L R N):Below wa.heap.size wa w:=by
 obtain ⟨gl,bm,F,h1⟩:=h.rep
 exact h1.lg.below
theorem RpD.below (h:RpD wa w gr gd X E d most R S N):Below wa.heap.size wa w:=by
 obtain ⟨gl,bm,F,L,h1⟩:=h.rep
 exact h1.lg.below
theorem RpU.elt (h:RpU wa w gr gd X E d most L R N):∀ q,E q→q<w.heap.size∧wa.heap.size≤q:=by
 obtain ⟨gl,bm,F,h1⟩:=h.rep
 exact fun q hq=>⟨h1.elt q hq,h1.own q hq⟩
theorem vC {gl bm:Nat} (h:dh wa.heap.size wa w X E gr gl gd bm d' most L' R' false N' w') (hu:RUp d' most L' R' N'):∃ X' E',Mv X E w X' E' w'∧RpU wa w' gr gd X' E' d' most L' R' N':=by
 obtain ⟨X',F',E',k,k1,k2,k3,k4,k5⟩:=h
 exact ⟨X',E',⟨k1,k2,k3,k4,k5⟩,⟨_,_,_,k⟩,hu⟩
theorem abq {gl bm:Nat} (h:dh wa.heap.size wa w X E gr gl gd bm d' most L' R true N' w') (hu:nH d' most R S N') (fa:dS R∧fA R∧(∀ o∈R,o.Ok)∧R.length≤1000000):∃ X' E',Mv X E w X' E' w'∧RpD wa w' gr gd X' E' d' most R S N':=by
 obtain ⟨X',F',E',k,k1,k2,k3,k4,k5⟩:=h
 exact ⟨X',E',⟨k1,k2,k3,k4,k5⟩,⟨_,_,_,_,k⟩,hu,fa⟩
def aeh (wa w:World) (gr gd:Nat) (X E:Nat→Prop) (d:ak) (most:Int) (L:List FS) (R:List au) (p:av) (N:Nat) (e:Ending) (w':World):Prop :=
 ∃ (k:Int) (q:av) (X' E':Nat→Prop) (d':ak) (L':List FS),e = .returned (.tuple #[aM q noS,.int .i64 k])∧Mv X E w X' E' w'∧d'.room=d.room∧d'.armed=d.armed∧(d.armed=false→k≠10)∧(dU p=true→k=if dH (dD R p) (aA R p.trace) then 0 else (aL d most L (aU ⟨p.trace,dD R p⟩)).1) ∧
  ((k=6∧dU p=false∧q=fU∧d'=d∧RpU wa w' gr gd X' E' d' most L' R (N+2)) ∨
   (k=0∧dU p=true∧q=lN R p∧RpU wa w' gr gd X' E' d' most L' (nextR R p) (N+2)) ∨
   (k=9∧dU p=true∧q=fU∧RpU wa w' gr gd X' E' d' most L' R (N+2)) ∨
   (k=10∧dU p=true∧q=fU∧nextR R p=bJ R p.trace (dD R p)∧RpD wa w' gr gd X' E' d' most R (nextR R p) (N+2)))
theorem RpU.handle (h:RpU wa w gr gd X E d most L R N) (p:av) (s:aT) (hp:bP w p s) (hw:p.Wf) (hm:p.spans.length≤1000∧p.members.length≤1000∧p.ids.length≤1000) (hN:N+2≤1000000) :
  Calls Tryz.prog 11 #[.pointer (some ⟨gr,0,none⟩),aM p s] w (aeh wa w gr gd X E d most L R p N):=by
 obtain ⟨gl,bm,F,h1⟩:=h.rep
 have hu:=h.up
 have hfa:=hu.facts
 have hlen:=hu.len
 rcases hr:dU p with _ | _
 ·refine Calls.mono (af8 h1 p s hp hw hm hr) ?_
  rintro e w' ⟨rfl,hb⟩
  exact ⟨6,fU,X,E,d,L,rfl,Mv.of_below hb,rfl,rfl,fun _=>by decide,fun h=>absurd (hr.symm.trans h) (by decide),.inl ⟨rfl,hr,rfl,rfl,⟨_,_,_,(h1.later hb).more (by omega)⟩,hu.grow (by omega) hN⟩⟩
 ·refine Calls.mono (af9 h1 hu p s hp hw hm hr hN (fun k=>k=if dH (dD R p) (aA R p.trace) then 0 else (aL d most L (aU ⟨p.trace,dD R p⟩)).1) rfl) ?_
  rintro e w' ⟨k,q,d',L',rfl,⟨m1,m2,m3,m4⟩,hc⟩
  rcases hc with ⟨rfl,rfl,hS,hU⟩ | ⟨rfl,rfl,hS,hU⟩ | ⟨rfl,rfl,hS,hsm,os1,ho,hU⟩
  ·obtain ⟨X',E',mv,hu'⟩:=vC hS hU
   exact ⟨0,_,X',E',d',L',rfl,mv,m1,m2,m3,fun _=>m4,.inr (.inl ⟨rfl,hr,rfl,hu'⟩)⟩
  ·obtain ⟨X',E',mv,hu'⟩:=vC hS hU
   exact ⟨9,_,X',E',d',L',rfl,mv,m1,m2,m3,fun _=>m4,.inr (.inr (.inl ⟨rfl,hr,rfl,hu'⟩))⟩
  ·have hnx:nextR R p=bJ R p.trace (dD R p):=by
    unfold nextR keepR
    rw [hsm]
    rfl
   obtain ⟨X',E',mv,hu'⟩:=abq (S:=bJ R p.trace (dD R p)) hS (hU.down (fun j hj=>by
    rcases ho with rfl | rfl
    ·left;rw [List.take_nil];rfl
    ·rcases j with _ | j
     ·left;rfl
     ·right
      rw [List.take_succ_cons,List.take_nil]
      rfl)) ⟨hfa.1,hfa.2.1,hfa.2.2,hlen⟩
   exact ⟨10,_,X',E',d',L',rfl,mv,m1,m2,m3,fun _=>m4,.inr (.inr (.inr ⟨rfl,hr,rfl,hnx,by rw [hnx];exact hu'⟩))⟩
theorem RpU.all (h:RpU wa w gr gd X E d most L R N) (hM:R.length≤Ns.lZ):Calls Tryz.prog 16 #[.pointer (some ⟨gr,0,none⟩)] w (oW w R):=by
 obtain ⟨gl,bm,F,h1⟩:=h.rep
 exact vY h1 h.up.facts.1 h.up.facts.2.1 h.up.facts.2.2 hM
theorem RpD.all (h:RpD wa w gr gd X E d most R S N) (hM:R.length≤Ns.lZ):Calls Tryz.prog 16 #[.pointer (some ⟨gr,0,none⟩)] w (oW w R):=by
 obtain ⟨gl,bm,F,L,h1⟩:=h.rep
 exact vY h1 h.fa.1 h.fa.2.1 h.fa.2.2.1 hM
theorem RpU.reg (h:RpU wa w gr gd X E d most L R N) {t:Nat} (ht:t<18446744073709551616):Calls Tryz.prog 17 #[.pointer (some ⟨gr,0,none⟩),.int .u64 (t:Nat)] w (bT w.heap.size w (aK (aA R t))):=by
 obtain ⟨gl,bm,F,h1⟩:=h.rep
 exact adl h1 ht
theorem RpU.traces (h:RpU wa w gr gd X E d most L R N) (hM:R.length≤Ns.lZ):Calls Tryz.prog 25 #[.pointer (some ⟨gr,0,none⟩)] w (aaw w R):=by
 obtain ⟨gl,bm,F,h1⟩:=h.rep
 exact zT h1 h.up.facts.1 h.up.facts.2.1 hM
def aef (wa w:World) (gr gd:Nat) (X E:Nat→Prop) (d:ak) (most:Int) (L:List FS) (R:List au) (N:Nat) (e:Ending) (w':World):Prop :=
 ∃ (k:Int) (X' E':Nat→Prop) (d':ak) (L':List FS),e = .returned (.int .i64 k)∧Mv X E w X' E' w'∧d'.room=d.room∧d'.armed=d.armed∧(d.armed=false→k≠10) ∧
  ((k=0∧RpU wa w' gr gd X' E' d' most L' R (N+R.length)∧R.length≤(aC L').length∧(aC L').length≤R.length+(aC L).length) ∨
   (k=9∧RpU wa w' gr gd X' E' d' most L' R (N+R.length)) ∨
   (k=10∧RpD wa w' gr gd X' E' d' most R R (N+R.length)))
theorem RpU.compact (h:RpU wa w gr gd X E d most L R N) (hN:N+R.length≤1000000) (hM:R.length≤Ns.lZ):Calls Tryz.prog 14 #[.pointer (some ⟨gr,0,none⟩)] w (aef wa w gr gd X E d most L R N):=by
 obtain ⟨gl,bm,F,h1⟩:=h.rep
 have hfa:=h.up.facts
 have hlen:=h.up.len
 refine Calls.mono (afk h1 h.up hN hM) ?_
 rintro e w' ⟨k,d',L',rfl,⟨m1,m2,m3,m4⟩,hc⟩
 rcases hc with ⟨rfl,hS,hU,l1,l2⟩ | ⟨rfl,hS,hU⟩ | ⟨rfl,hS,hU⟩
 ·obtain ⟨X',E',mv,hu'⟩:=vC hS hU
  exact ⟨0,X',E',d',L',rfl,mv,m1,m2,m3,.inl ⟨rfl,hu',l1,l2⟩⟩
 ·obtain ⟨X',E',mv,hu'⟩:=vC hS hU
  exact ⟨9,X',E',d',L',rfl,mv,m1,m2,m3,.inr (.inl ⟨rfl,hu'⟩)⟩
 ·obtain ⟨X',E',mv,hu'⟩:=abq hS hU ⟨hfa.1,hfa.2.1,hfa.2.2,hlen⟩
  exact ⟨10,X',E',d',L',rfl,mv,m1,m2,m3,.inr (.inr ⟨rfl,hu'⟩)⟩
theorem Lay.arm {base c s:Nat} {M:List FS} (h:Lay d most base M c s N) {m:Int} (hm:m≤9223372036854775807):Lay (jy d m) most base M c s N:=⟨wH h.ok hm,h.shp,h.rest,h.full,h.last,h.s0⟩
theorem RUp.arm (h:RUp d most L R N) {m:Int} (hm:m≤9223372036854775807):RUp (jy d m) most L R N:=by
 obtain ⟨base,c,os,s,h1,h2,h3,h4,h5,h6,h7,h8⟩:=h
 exact ⟨base,c,os,s,Lay.arm h1 hm,h2,h3,h4,h5,h6,h7,h8⟩
theorem nH.arm (h:nH d most R S N) {m:Int} (hm:m≤9223372036854775807):nH (jy d m) most R S N:=by
 obtain ⟨hd,base,M,c,os,s,h1,h2⟩:=h
 exact ⟨hd,base,M,c,os,s,Lay.arm h1 hm,h2⟩
theorem RpU.arm (h:RpU wa w gr gd X E d most L R N) (m:Int) (hm:m≤9223372036854775807):Calls Tryz.prog 18 #[.pointer (some ⟨gd,0,none⟩),.int .i64 m] w (fun e w'=>∃ X' E',e = .returned (.tuple #[])∧Mv X E w X' E' w'∧RpU wa w' gr gd X' E' (jy d m) most L R N):=by
 obtain ⟨gl,bm,F,h1⟩:=h.rep
 obtain ⟨Qd,Pl,P,g,Af,cf,hlg,hf⟩:=h1.lg.lg
 refine Calls.mono (wI m hm gd Qd d w hlg.dk) ?_
 intro e w' k
 obtain ⟨he,Q',q1,q2,q3⟩:=k
 have kp:fH w gl gd X F (.tuple #[]) (jy d m) most L e w':=by
  refine ⟨he,_,(hlg.disk q1 q2 q3).upper ((hf.wide (F':=fun q=>F q∨w.heap.size≤q) (fun q hq => .inl hq)).qd (fun q hq=>(q3 q hq).imp (hf.d q) id)),q2.sub hf.d,fun q hq=>?_,fun q hq => .inl hq⟩
  rcases hq with h4 | h4
  ·exact .inl h4
  ·rcases q3 q h4 with h5 | h5
   ·exact .inl (hlg.dx q h5)
   ·exact .inr h5
 obtain ⟨rfl,X',F',E',r1,r2,r3,r4,r5,r6⟩:=h1.logged kp
 exact ⟨X',E',rfl,⟨r2,r3,r4,r5,r6⟩,⟨_,_,_,r1⟩,h.up.arm hm⟩
theorem RpD.arm (h:RpD wa w gr gd X E d most R S N) (m:Int) (hm:m≤9223372036854775807):Calls Tryz.prog 18 #[.pointer (some ⟨gd,0,none⟩),.int .i64 m] w (fun e w'=>∃ X' E',e = .returned (.tuple #[])∧Mv X E w X' E' w'∧RpD wa w' gr gd X' E' (jy d m) most R S N):=by
 obtain ⟨gl,bm,F,L,h1⟩:=h.rep
 obtain ⟨Qd,Pl,P,g,Af,cf,hlg,hf⟩:=h1.lg.lg
 refine Calls.mono (wI m hm gd Qd d w hlg.dk) ?_
 intro e w' k
 obtain ⟨he,Q',q1,q2,q3⟩:=k
 have kp:fH w gl gd X F (.tuple #[]) (jy d m) most L e w':=by
  refine ⟨he,_,(hlg.disk q1 q2 q3).upper ((hf.wide (F':=fun q=>F q∨w.heap.size≤q) (fun q hq => .inl hq)).qd (fun q hq=>(q3 q hq).imp (hf.d q) id)),q2.sub hf.d,fun q hq=>?_,fun q hq => .inl hq⟩
  rcases hq with h4 | h4
  ·exact .inl h4
  ·rcases q3 q h4 with h5 | h5
   ·exact .inl (hlg.dx q h5)
   ·exact .inr h5
 obtain ⟨rfl,X',F',E',r1,r2,r3,r4,r5,r6⟩:=h1.logged kp
 exact ⟨X',E',rfl,⟨r2,r3,r4,r5,r6⟩,⟨_,_,_,_,r1⟩,h.down.arm hm,h.fa⟩
structure CrD (wa w:World) (gd:Nat) (Q E:Nat→Prop) (w0:World) (d:ak):Prop where
 dk:DkB wa.heap.size wa w gd Q d
 tn:Tn E w0 w
 q1:∀ q,Q q→E q∨w0.heap.size≤q
theorem CrD.later {Q:Nat→Prop} {w0:World} (h:CrD wa w gd Q E w0 d) (k:Below w.heap.size w w'):CrD wa w' gd Q E w0 d:=⟨h.dk.later k,h.tn.iQ k,h.q1⟩
theorem afr {gl bm:Nat} {F:Nat→Prop} {dn:Bool} (h:bO wa.heap.size wa w gr gl gd bm X F E d most L R dn N) (Ak:Option Addr) (nk ck:Nat) (keep:List Int) (hk:Row wa Ak nk ck (jT keep)) :
  Calls Tryz.prog 19 #[.pointer (some ⟨gd,0,none⟩),.slice Ak nk ck] w (fun e w'=>e = .returned (.tuple #[])∧∃ Q,CrD wa w' gd Q E w (iL d keep)):=by
 obtain ⟨Qd,Pl,P,g,Af,cf,hlg,hf⟩:=h.lg.lg
 have hB:=h.lg.size
 refine Calls.mono (afo Ak nk ck keep gd Qd d w hlg.dk (hk.below h.lg.below) (fun a ea hne hq=>?_)) ?_
 ·have:=h.lg.own _ (hf.d _ hq)
  have h9:=akr hk ea hne
  omega
 ·intro e w' k
  obtain ⟨he,⟨Q',k1,k2⟩,t⟩:=DkB.post ⟨hlg.dk,h.lg.below,fun q hq=>h.lg.own q (hf.d q hq),h.lg.base⟩ k
  have t2:=t.sub (Q':=E) (fun q hq=>h.fe q (hf.d q hq))
  exact ⟨he,Q',k1,t2,fun q hq=>(k2 q hq).imp (fun h5=>h.fe q (hf.d q h5)) id⟩
theorem RpU.crash (h:RpU wa w gr gd X E d most L R N) (Ak:Option Addr) (nk ck:Nat) (keep:List Int) (hk:Row wa Ak nk ck (jT keep)) :
  Calls Tryz.prog 19 #[.pointer (some ⟨gd,0,none⟩),.slice Ak nk ck] w (fun e w'=>e = .returned (.tuple #[])∧∃ Q,CrD wa w' gd Q E w (iL d keep)):=by
 obtain ⟨gl,bm,F,h1⟩:=h.rep
 exact afr h1 Ak nk ck keep hk
def aam (wa w:World) (gd:Nat) (Q G0:Nat→Prop) (most:Int) (R S:List au) (N room:Nat) (e:Ending) (w':World):Prop :=
 ∃ gr X E d L R',e = .returned (.tuple #[.pointer (some ⟨gr,0,none⟩),.int .i64 0])∧(R'=R∨R'=S)∧RpU wa w' gr gd X E d most L R' N∧d.armed=false∧d.room=room∧Tn Q w w'∧(∀ q,E q→Q q∨w.heap.size≤q)∧(∀ q,G0 q→X q)
theorem ain {Q G0:Nat→Prop} {os:List au} {room:Nat} {e:Ending} (hR:bN [] os=R∨bN [] os=S) (h:aao wa.heap.size wa w gd Q G0 most L (bN [] os) N room e w'):aam wa w gd Q G0 most R S N room e w':=by
 obtain ⟨gr,gl,bm,X,F,E,d,rfl,h1,h2,h3,h4,h5,h6,h7,h8⟩:=h
 exact ⟨gr,X,E,d,L,_,rfl,hR,⟨⟨_,_,_,h1⟩,h2⟩,h3,h4,h5,h6,h7⟩
theorem afG {Q:Nat→Prop} {keep:List Int} (h:DkB wa.heap.size wa w gd Q (iL d keep)) (hd:∃ (base:Nat) (M:List FS) (c:Nat) (os:List au) (s:Nat),Lay d most base M c s N∧(M=[]→base=0)∧aC M=os.map aU∧(∀ o∈os,o.Ok)∧∀ t,s≤t→t≤os.length→bN [] (os.take t)=R∨bN [] (os.take t)=S) (h64:64≤most) (hmx:most≤1048576) (G0:Nat→Prop) (hG:∀ q,G0 q→q<w.heap.size∧wa.heap.size≤q) :
  Calls Tryz.prog 10 #[.pointer (some ⟨gd,0,none⟩),.int .i64 most] w (aam wa w gd Q G0 most R S N d.room):=by
 obtain ⟨base,M,c,os,s,h1,h2,h3,h4,h5⟩:=hd
 obtain ⟨b0,n,C,os',base',k1,k2,k3,k4,k5,k6,k7,k8⟩:=afq h1 h2 h3 h4 h5 keep h64
 have harm:(gZ (iL d keep) b0 n C).armed=false:=by
  rcases n with _ | m
  ·rfl
  ·show (gH (iL d keep) (bF (rg b0 m) (C m))).armed=false
   unfold gH
   split
   ·unfold fG;split <;> rfl
   ·split
    ·rfl
    ·unfold gV;split <;> rfl
 rw [← k8]
 exact Calls.mono (zo h rfl h64 hmx k1 rfl rfl k2 k3 k5 k6 harm G0 (fun q hq=>(hG q hq).1) (fun q hq=>(hG q hq).2)) (fun e w' ho=>ain k7 ho)
theorem RUp.tells (h:RUp d most L R N):∃ (base:Nat) (M:List FS) (c:Nat) (os:List au) (s:Nat),Lay d most base M c s N∧(M=[]→base=0)∧aC M=os.map aU∧(∀ o∈os,o.Ok)∧∀ t,s≤t→t≤os.length→bN [] (os.take t)=R∨bN [] (os.take t)=R:=by
 obtain ⟨base,c,os,s,h1,h2,h3,h4,h5,h6,h7,h8⟩:=h
 exact ⟨base,L,c,os,s,h1,h3,h4,h5,fun t t1 t2 => .inl (h7 t t1 t2)⟩
theorem abS {Q:Nat→Prop} {room:Nat} (h:DkB wa.heap.size wa w gd Q (mV room)) (h64:64≤most) (hmx:most≤1048576) (G0:Nat→Prop) (hG:∀ q,G0 q→q<w.heap.size∧wa.heap.size≤q) :
  Calls Tryz.prog 10 #[.pointer (some ⟨gd,0,none⟩),.int .i64 most] w (fun e w'=>∃ gr X E d,e = .returned (.tuple #[.pointer (some ⟨gr,0,none⟩),.int .i64 0])∧RpU wa w' gr gd X E d most [] [] 0∧d.armed=false∧d.room=room∧Tn Q w w'∧(∀ q,E q→Q q∨w.heap.size≤q)∧(∀ q,G0 q→X q)):=by
 have hl:aH (mV room) most 0 [] 0 0:=aH.new h.dk.ok rfl rfl
 have ho:=hl.open_
 refine Calls.mono (zo (os:=[]) h rfl h64 hmx (hl.disk h64) ho.1 ho.2 hl (fun _=>rfl) rfl (by simp) rfl G0 (fun q hq=>(hG q hq).1) (fun q hq=>(hG q hq).2)) ?_
 rintro e w' ⟨gr,gl,bm,X,F,E,d,rfl,h1,h2,h3,h4,h5,h6,h7,h8⟩
 exact ⟨gr,X,E,d,rfl,⟨⟨_,_,_,h1⟩,h2⟩,h3,h4,h5,h6,h7⟩
theorem aaC {Q:Nat→Prop} (h:DkB wa.heap.size wa w gd Q d) (hu:RUp d most L R N) (ha:d.armed=false) (h64:64≤most) (hmx:most≤1048576) (G0:Nat→Prop) (hG:∀ q,G0 q→q<w.heap.size∧wa.heap.size≤q) :
  Calls Tryz.prog 10 #[.pointer (some ⟨gd,0,none⟩),.int .i64 most] w (fun e w'=>∃ gr X E d',e = .returned (.tuple #[.pointer (some ⟨gr,0,none⟩),.int .i64 0])∧RpU wa w' gr gd X E d' most L R N∧d'.armed=false∧d'.room=d.room∧Tn Q w w'∧(∀ q,E q→Q q∨w.heap.size≤q)∧(∀ q,G0 q→X q)):=by
 obtain ⟨base,hl,h0⟩:=hu.gY
 have ho:=hl.open_
 have hup:=hu.up
 obtain ⟨b1,c,os,s,u1,u2,u3,u4,u5,u6,u7,u8⟩:=hu
 have hR:=u7 os.length u6 (Nat.le_refl _)
 rw [List.take_length] at hR
 refine Calls.mono (zo (os:=os) h hup h64 hmx (hl.disk h64) ho.1 ho.2 hl h0 u4 u5 ha G0 (fun q hq=>(hG q hq).1) (fun q hq=>(hG q hq).2)) ?_
 rintro e w' ⟨gr,gl,bm,X,F,E,d',rfl,h1,h2,h3,h4,h5,h6,h7,h8⟩
 rw [hR] at h1 h2
 exact ⟨gr,X,E,d',rfl,⟨⟨_,_,_,h1⟩,h2⟩,h3,h4,h5,h6,h7⟩
theorem RpU.again (h:RpU wa w gr gd X E d most L R N) (ha:d.armed=false) (h64:64≤most) (hmx:most≤1048576) :
  Calls Tryz.prog 10 #[.pointer (some ⟨gd,0,none⟩),.int .i64 most] w (fun e w'=>∃ gs X2 E2 d' Xr Er,e = .returned (.tuple #[.pointer (some ⟨gs,0,none⟩),.int .i64 0])∧RpU wa w' gs gd X2 E2 d' most L R N∧RpU wa w' gr gd Xr Er d' most L R N∧d'.armed=false∧Tn E w w'):=by
 obtain ⟨gl,bm,F,h1⟩:=h.rep
 obtain ⟨Qd,Pl,P,g,Af,cf,hlg,hf⟩:=h1.lg.lg
 have hk:DkB wa.heap.size wa w gd Qd d:=⟨hlg.dk,h1.lg.below,fun q hq=>h1.own q (h1.fe q (hf.d q hq)),h1.lg.base⟩
 refine Calls.mono (aaC hk h.up ha h64 hmx (fun _=>False) (fun q h=>h.elim)) ?_
 rintro e w' ⟨gs,X2,E2,d',rfl,hu,ha2,-,ht,hE,-⟩
 obtain ⟨gl2,bm2,F2,h2⟩:=hu.rep
 obtain ⟨Q2,Pl2,P2,g2,Af2,cf2,hlg2,hf2⟩:=h2.lg.lg
 have q3:∀ q,Q2 q→Qd q∨w.heap.size≤q:=fun q hq=>hE q (h2.fe q (hf2.d q hq))
 have kp:fH w gl gd X F (.tuple #[]) d' most L (.returned (.tuple #[])) w':=by
  refine ⟨rfl,_,(hlg.disk hlg2.dk ht q3).upper ((hf.wide (F':=fun q=>F q∨w.heap.size≤q) (fun q hq => .inl hq)).qd (fun q hq=>(q3 q hq).imp (hf.d q) id)),ht.sub hf.d,fun q hq=>?_,fun q hq => .inl hq⟩
  rcases hq with h4 | h4
  ·exact .inl h4
  ·rcases q3 q h4 with h5 | h5
   ·exact .inl (hlg.dx q h5)
   ·exact .inr h5
 obtain ⟨-,X',F',E',r1,r2,r3,r4,r5,r6⟩:=h1.logged kp
 exact ⟨gs,X2,E2,d',X',E',rfl,hu,⟨⟨_,_,_,r1⟩,hu.up⟩,ha2,r2⟩
theorem RUp.noF {N0:Nat} (h:RUp d most [] [] N0):d.F=noF:=by
 obtain ⟨base,c,os,s,h1,-⟩:=h
 funext j
 exact h1.rest j (fun i hi=>absurd hi (Nat.not_lt_zero i))
theorem af3 {N0:Nat} (h:RUp d most [] [] N0) (o:au) (hr:1000≤d.room):(aL d most [] (aU o)).1=if d.armed&&decide (d.left≤40) then 10 else if d.armed then (aL d most [] (aU o)).1 else 0:=by
 have hl:(framed (aG 0)++framed (aU o)).length=65:=by rw [abN,p9]
 have e:(aL d most [] (aU o)).1=bU d ((0:Nat):Int) (framed (aG 0)++framed (aU o)).length:=rfl
 rw [e,hl]
 unfold bU
 have hu:bR d.F=0:=by rw [h.noF];exact vD
 rw [h.up,hu]
 have c1:¬ (((0:Nat):Int)<0∨(64:Int)≤((0:Nat):Int)):=by omega
 have c2:¬ d.room<0+65:=by omega
 simp only [Bool.false_eq_true,if_false,if_neg c1,if_neg c2]
 unfold takeN
 rcases ha:d.armed with _ | _
 ·simp
 ·by_cases hle:d.left≤40
  ·have h2:min 65 d.left<65:=by omega
   simp [hle]
   omega
  ·simp [hle]
theorem RpU.disk (h:RpU wa w gr gd X E d most L R N):∃ Q,DkB wa.heap.size wa w gd Q d∧∀ q,Q q→E q:=by
 obtain ⟨gl,bm,F,h1⟩:=h.rep
 obtain ⟨Qd,Pl,P,g,Af,cf,hlg,hf⟩:=h1.lg.lg
 exact ⟨Qd,⟨hlg.dk,h1.lg.below,fun q hq=>h1.own q (h1.fe q (hf.d q hq)),h1.lg.base⟩,fun q hq=>h1.fe q (hf.d q hq)⟩
end
end Rp
end Go.Proofs.YtpcmlopbkehffaaGreat
namespace Go.Proofs.YtpcmlopbkehffaaGreat
open Go.RowKit Rg Bl Re Wl Dsk Fm Vw
namespace Rp
theorem oN (w:World) (p:av) (h1:p.spans=[]) (h2:p.members=[]) (h3:p.ids=[]):bP w p noS :=
 ⟨by rw [h1];exact ⟨fun h=>absurd rfl h,rfl,Nat.le_refl _,(show (0:Nat)≤9223372036854775807 by omega),fun _=>rfl⟩,by rw [h2];exact eO.none w,by rw [h3];exact Row.none w⟩
abbrev p0:av:=⟨4,5,3,1,0,0,0,false,[],[],[]⟩
theorem aiB:dU p0=true:=by decide
theorem aiC:nextR [] p0=[⟨5,⟨⟨3,1⟩,⟨0,0⟩,0⟩⟩]:=by rfl
theorem afQ {p:av} (h:Few p):p.spans.length≤1000∧p.members.length≤1000∧p.ids.length≤1000:=by
 obtain ⟨h1,h2,h3⟩:=h
 omega
theorem agV {p:av} (h:gX p=true):p.spans.length≤1000∧p.members.length≤1000∧p.ids.length≤1000:=afQ (agS h)
theorem aiA:lN [] p0=⟨5,5,3,1,0,0,0,true,[],[],[]⟩:=by rfl
theorem fld0 (a b c d e:Int) (w:World):(Instr.field 54 (.agg #[.int .u64 a,.int .u64 b,.int .u64 c,.int .u64 d,.int .i64 e]) 0).run Tryz.prog w = .ok (.agg #[.int .u64 a,.int .u64 b]) w:=by
 first | kernel_rfl | rfl | simp [go_sem]
abbrev sW (w1:World) (g6 g5:Nat) (W:World):Prop:=Below w1.heap.size w1 W∧W.cell? ⟨g6,7,none⟩=some (.bool true)∧W.cell? ⟨g6,0,none⟩=some (.int .i64 5)∧W.cell? ⟨g5,0,none⟩=some (.int .u64 3)∧W.cell? ⟨g5,1,none⟩=some (.int .u64 1)
theorem aaD {w1 W:World} {g6 g5:Nat} (h:sW w1 g6 g5 w1) (hb:Below w1.heap.size w1 W):sW w1 g6 g5 W:=by
 obtain ⟨-,a,b,c,d⟩:=h
 exact ⟨hb,by rw [hb.cell (lt_of_cell a)];exact a,by rw [hb.cell (lt_of_cell b)];exact b,by rw [hb.cell (lt_of_cell c)];exact c,by rw [hb.cell (lt_of_cell d)];exact d⟩
set_option maxRecDepth 100000 in
set_option maxHeartbeats 4000000 in
theorem ajh (w:World):Calls Tryz.prog 8 #[] w (bT w.heap.size w (.bool true)):=by
 have HNw:=aj (yj 10000 (by decide) (by decide) w)
 rw [show ((10000:Nat):Int)=10000 from rfl] at HNw
 go_enter Tryz.func8,Tryz.ntmps8
 go_wp2_with fail
 (with_reducible refine Calls.mono HNw.out ?_)
 rintro e w1 ⟨rfl,hd,hb1⟩
 have HDk:=aj (show DkB w.heap.size w w1 w.heap.size (fun q=>q=w.heap.size) (mV 10000) from ⟨hd,hb1,fun q hq=>by omega,Nat.le_refl _⟩)
 have HOp:=aj (abS HDk.out (most:=256) (by decide) (by decide) (fun _=>False) (fun q h=>h.elim))
 clear hd hb1
 generalize hgd:w.heap.size=gd at HOp HDk ⊢
 have HGd:=aj hgd
 clear hgd
 go_wp2_with fail
 (with_reducible refine Calls.mono HOp.out ?_)
 rintro e w2 ⟨gr,X,E,d,rfl,hu,ha,hr,ht,hE,-⟩
 have HU:=aj hu
 have HA:=aj (And.intro ha hr)
 clear hu ha hr ht hE
 have hu3:=HU.out.later ((Below.refl w2.heap.size w2).alloc (Nat.le_refl _) (.cells #[.int .u64 3,.int .u64 1] 35))
 have HHa:=aj (hu3.handle p0 noS (oN _ _ rfl rfl rfl) (by constructor <;> simp) (by decide) (by decide))
 have HW3:=aj (aP w2 35 #[.int .u64 3,.int .u64 1])
 clear hu3
 go_wp2_with fail
 (with_reducible refine Calls.mono HHa.out ?_)
 rintro e w4 ⟨k,qa,X4,E4,d4,L4,rfl,mv4,ro4,ar4,h104,hk4,hcase⟩
 obtain ⟨rfl,rfl,hu4⟩:k=0∧qa=lN [] p0∧RpU w w4 gr gd X4 E4 d4 256 L4 (nextR [] p0) (0+2):=by
  have e0:=hk4 aiB
  rw [show dH (dD [] p0) (aA [] p0.trace)=false from by rfl,if_neg (by decide),af3 HU.out.up _ (by rw [HA.out.2];decide),HA.out.1] at e0
  have e1:k=0:=e0
  subst e1
  rcases hcase with ⟨h9,-⟩ | ⟨-,-,h8,h9⟩ | ⟨h9,-⟩ | ⟨h9,-⟩
  ·cases h9
  ·exact ⟨rfl,h8,h9⟩
  ·cases h9
  ·cases h9
 rw [aiA]
 rw [aiC] at hu4
 have HMv:=aj mv4
 have HU4:=aj hu4
 have HW4:=aj (HW3.out.tn mv4.tn (fun hq=>by have:=(HU.out.elt _ hq).1;omega))
 clear hk4 hcase h104 mv4 hu4 HHa
 go_wp2_with fail
 have hb5:Below w4.heap.size w4 (w4.alloc (.cells #[.int .i64 5,.int .u64 5,.int .u64 3,.int .u64 1,.int .u64 0,.int .u64 0,.int .i64 0,.bool true,.slice none 0 0,.slice none 0 0,.slice none 0 0] 41)):=(Below.refl _ _).alloc (Nat.le_refl _) _
 have HW5:=aj (HW4.out.below hb5 HW4.out.lt)
 have HQ5:=aj (aP w4 41 #[.int .i64 5,.int .u64 5,.int .u64 3,.int .u64 1,.int .u64 0,.int .u64 0,.int .i64 0,.bool true,.slice none 0 0,.slice none 0 0,.slice none 0 0])
 have HU5:=aj (HU4.out.later hb5)
 have HL4:=aj (HU4.out.elt)
 have HG2:=aj (show w2.heap.size<w4.heap.size from HW4.out.lt)
 have HE4:=aj (show ¬ E4 w2.heap.size from fun hq=>by
  rcases HMv.out.e1 _ hq with h1 | h1
  ·have:=(HU.out.elt _ h1).1;omega
  ·simp at h1;omega)
 obtain ⟨w5,hw5⟩:∃ w5:World,w5=w4.alloc (.cells #[.int .i64 5,.int .u64 5,.int .u64 3,.int .u64 1,.int .u64 0,.int .u64 0,.int .i64 0,.bool true,.slice none 0 0,.slice none 0 0,.slice none 0 0] 41):=⟨_,rfl⟩
 rw [← hw5] at HW5 HQ5 HU5 hb5 ⊢
 have HCr:=aj (HU5.out.crash none 0 0 [] (Row.none _))
 generalize hg6:w4.heap.size=g6 at *
 generalize hg5:w2.heap.size=g5 at *
 clear hw5 hb5 hg6 hg5
 (with_reducible refine Calls.mono HCr.out ?_)
 rintro e w6 ⟨rfl,Q6,hc6⟩
 have HOp6:=aj (afG (R:=[⟨5,⟨⟨3,1⟩,⟨0,0⟩,0⟩⟩]) hc6.dk HU5.out.up.tells (by decide) (by decide) (fun _=>False) (fun q h=>h.elim))
 have HC6:=aj hc6
 have HW6:=aj (HW5.out.tn hc6.tn HE4.out)
 have HQ6:=aj (HQ5.out.tn hc6.tn (fun hq=>by have:=(HL4.out _ hq).1;omega))
 clear hc6 HCr
 go_wp2_with fail
 (with_reducible refine Calls.mono HOp6.out ?_)
 rintro e w7 ⟨gr7,X7,E7,d7,L7,R7,rfl,hR7,hu7,-,-,ht7,hE7,-⟩
 obtain rfl:R7=[⟨5,⟨⟨3,1⟩,⟨0,0⟩,0⟩⟩]:=hR7.elim id id
 have HU7:=aj hu7
 have HW7:=aj (HW6.out.tn ht7 (fun hq=>by
  rcases HC6.out.q1 _ hq with h1 | h1
  ·exact HE4.out h1
  ·have:=HW5.out.lt;omega))
 have HQ7:=aj (HQ6.out.tn ht7 (fun hq=>by
  rcases HC6.out.q1 _ hq with h1 | h1
  ·have:=(HL4.out _ h1).1;omega
  ·have:=HQ5.out.lt;omega))
 have HRg:=aj (fun (W:World) (hb:Below w7.heap.size w7 W)=>show Calls Tryz.prog 17 #[.pointer (some ⟨gr7,0,none⟩),.int .u64 5] W (bT W.heap.size W (.agg #[.int .u64 3,.int .u64 1,.int .u64 0,.int .u64 0,.int .i64 0])) from (hu7.later hb).reg (t:=5) (by decide))
 have HTr:=aj (fun (W:World) (hb:Below w7.heap.size w7 W)=>(hu7.later hb).traces (by decide))
 have kb:∀ w,(binOp .eql 35 (.agg #[.int .u64 3,.int .u64 1]) (.agg #[.int .u64 3,.int .u64 1])).run Tryz.prog w = .ok (.bool true) w:=fun w=>tV ⟨3,1⟩ ⟨3,1⟩ w
 have kf:=fun (w:World)=>fld0 3 1 0 0 0 w
 have S0:sW w7 g6 g5 w7:=⟨Below.refl _ _,HQ7.out.cell 7 _ rfl,HQ7.out.cell 0 _ rfl,HW7.out.cell 0 _ rfl,HW7.out.cell 1 _ rfl⟩
 have HS0:=aj S0
 have HBr:=aj (Below.refl w7.heap.size w7)
 have HBz:=aj hu7.below
 clear hR7 hu7 ht7 hE7 HOp6
 go_wp2_with fail
 go_region_held3 (sW w7 g6 g5) (first | (with_reducible assumption) | (with_reducible exact aaD HS0.out hcb) | (with_reducible exact aaD HS0.out (Below.drew (Below.refl _ _))) | fail)
  (first
  | (go_at_call 17;(first | (with_reducible refine Calls.mono (HRg.out _ HBr.out) ?_) | (with_reducible refine Calls.mono (HRg.out _ (Below.drew HBr.out)) ?_));rintro e w' ⟨rfl,hcn⟩;(first | (with_reducible have hcb:=jA HBr.out hcn) | (with_reducible have hcb:=oF HBr.out hcn)))
  | (go_at_call 25;(first | (with_reducible refine Calls.mono (HTr.out _ hcb) ?_) | (with_reducible refine Calls.mono (HTr.out _ (Below.drew hcb)) ?_));rintro e w' ⟨At,ct,rfl,-,-,hcn⟩;(first | (with_reducible have hcb:=jA hcb hcn) | (with_reducible have hcb:=oF hcb hcn)))
  | fail)
 all_goals
  have hfin:=HBz.out.trans (hcb.mono HBz.out.size)
  go_wp2_with fail
  go_ret
  exact bH rfl hfin
end Rp
end Go.Proofs.YtpcmlopbkehffaaGreat
namespace Go.Proofs.YtpcmlopbkehffaaGreat
open Go.RowKit Rg Bl Re Wl Dsk Fm Vw
namespace Rp
theorem row_in {w:World} {A:Option Addr} {n c:Nat} {R:List au} (h:bA.Row w A n c R) {a:Addr} (ea:A=some a) (hne:R≠[]):a.block<w.heap.size:=by
 obtain ⟨k,hk⟩:∃ k,k<R.length:=⟨0,List.length_pos_iff.2 hne⟩
 obtain ⟨b,off,e,h1,-⟩:=pW h hk
 rw [ea] at e
 injection e with e
 rw [e]
 show b<_
 exact lt_of_cell h1
theorem ahu (R:List au) (p:av):(nextR R p).length≤R.length+1:=by
 unfold nextR keepR
 split
 ·exact Nat.le_succ _
 ·exact acf _ _ _
def jU (l:List OpD):Bool:=decide (l.length≤60)&&l.all (fun o=>gX o.p)
theorem agP {l:List OpD} (h:jU l=true):l.length≤60:=by
 unfold jU at h
 rw [Bool.and_eq_true,decide_eq_true_eq] at h
 exact h.1
theorem agM {l:List OpD} (h:jU l=true) {o:OpD} (ho:o∈l):gX o.p=true:=by
 unfold jU at h
 rw [Bool.and_eq_true,List.all_eq_true] at h
 exact h.2 o ho
theorem agQ {l:List OpD} (h:¬ l.length≤60):jU l=false:=by unfold jU;rw [decide_eq_false h];rfl
theorem agN {l:List OpD} {i:Nat} (hi:i<l.length) (h:gX l[i].p=false):jU l=false:=by
 unfold jU
 rw [List.all_eq_false.2 ⟨l[i],List.getElem_mem hi,by rw [h];decide⟩,Bool.and_false]
theorem agO {l:List OpD} (h:l.length≤60) (hs:∀ j (hj:j<l.length),gX l[j].p=true):jU l=true:=by
 unfold jU
 rw [decide_eq_true h,Bool.true_and,List.all_eq_true]
 intro x hx
 obtain ⟨j,hj,rfl⟩:=List.getElem_of_mem hx
 exact hs j hj
set_option maxRecDepth 100000 in
set_option maxHeartbeats 4000000 in
theorem air (A:Option Addr) (n c:Nat) (l:List OpD) (w:World) (h:o9 14 OpP w A n c l) (hw:∀ o∈l,o.Wf):Calls Tryz.prog 7 #[.slice A n c] w (iw w (jU l)):=by
 have hlen:=h.len
 have hcap:=h.cap
 have hmax:=h.max
 have HR:=aj h
 have HWf:=aj hw
 have HLen:=aj hlen
 clear h hw
 by_cases h60:60<n
 ·have e0:decide ((60:Int)<(n:Int))=true:=decide_eq_true (by omega)
  have e1:decide (60<n)=true:=decide_eq_true h60
  have Hf:=aj (agQ (l:=l) (by omega))
  clear h60 hlen
  go_enter Tryz.func7,Tryz.ntmps7
  go_wp2_with fail
  go_ret
  exact aD Hf.out (Below.refl _ _)
 have e0:decide ((60:Int)<(n:Int))=false:=decide_eq_false (by omega)
 have e1:decide (60<n)=false:=decide_eq_false h60
 have H60:=aj h60
 clear hlen h60
 go_enter Tryz.func7,Tryz.ntmps7
 go_wp2_with fail
 go_loopw [3] (fun vi wr=>∃ i:Nat,i≤n∧vi = .int .i64 (i:Nat)∧Hid (∀ j (hj:j<l.length),j<i→gX l[j].p=true)∧Hid (Below w.heap.size w wr)) (fun vi _=>n-(intOf vi).toNat)
 case atStart=>exact ⟨0,Nat.zero_le _,rfl,aj (fun j hj h=>absurd h (by omega)),aj (Below.refl _ _)⟩
 case round =>
  obtain ⟨i,hi,rfl,HG,HB⟩:=hrel
  by_cases hlt:i<n
  ·have hiL:i<l.length:=by rw [HLen.out];exact hlt
   obtain ⟨g,off,cs,hA,⟨s,Ak,ck,rfl,hp,hk⟩,hcell⟩:=HR.out.at_ hiL
   have hwf:=(HWf.out _ (List.getElem_mem hiL)).p
   subst hA
   have HBad:=aj (fun (hf:gX l[i].p=false)=>agN hiL hf)
   have HGood:=aj (fun (hf:gX l[i].p=true)=>show ∀ j (hj:j<l.length),j<i+1→gX l[j].p=true from fun j hj h2=>by
    by_cases e:j=i
    ·subst e;exact hf
    ·exact HG.out j hj (by omega))
   have hc:=fun (W:World) (hb:Below w.heap.size w W) (j:Nat) (u:Value) (hj:([.int .i64 l[i].kind,.int .i64 l[i].n]++(bL l[i].p s).toList++[.slice Ak l[i].keep.length ck])[j]? = some u)=>(hb.cell (p:=⟨g,off+i*14+j,none⟩) (lt_of_cell (hcell j u hj))).trans (hcell j u hj)
   generalize l[i]=o at *
   have HC:=aj hc
   have HLp:=aj (ahl o.p s wr (hp.below HB.out) hwf.1)
   have x1:(i:Int)<(n:Int):=by omega
   have x2:(0:Int)≤(i:Int):=by omega
   have HK:=aj hlt
   clear hlt hiL hp hwf hc hcell hk
   have x_0:wr.cell? ⟨g,off+i*14+2,none⟩=some (.int .i64 o.p.kind):=HC.out wr HB.out 2 _ rfl
   have x_1:wr.cell? ⟨g,off+i*14+3,none⟩=some (.int .u64 (o.p.trace:Nat)):=HC.out wr HB.out 3 _ rfl
   have x_2:wr.cell? ⟨g,off+i*14+4,none⟩=some (.int .u64 (o.p.bn:Nat)):=HC.out wr HB.out 4 _ rfl
   have x_3:wr.cell? ⟨g,off+i*14+5,none⟩=some (.int .u64 (o.p.aZ:Nat)):=HC.out wr HB.out 5 _ rfl
   have x_4:wr.cell? ⟨g,off+i*14+6,none⟩=some (.int .u64 (o.p.sn:Nat)):=HC.out wr HB.out 6 _ rfl
   have x_5:wr.cell? ⟨g,off+i*14+7,none⟩=some (.int .u64 (o.p.bM:Nat)):=HC.out wr HB.out 7 _ rfl
   have x_6:wr.cell? ⟨g,off+i*14+8,none⟩=some (.int .i64 o.p.v):=HC.out wr HB.out 8 _ rfl
   have x_7:wr.cell? ⟨g,off+i*14+9,none⟩=some (.bool o.p.ok):=HC.out wr HB.out 9 _ rfl
   have x_8:wr.cell? ⟨g,off+i*14+10,none⟩=some (.slice s.a1 o.p.spans.length s.c1):=HC.out wr HB.out 10 _ rfl
   have x_9:wr.cell? ⟨g,off+i*14+11,none⟩=some (.slice s.a2 o.p.members.length s.c2):=HC.out wr HB.out 11 _ rfl
   have x_10:wr.cell? ⟨g,off+i*14+12,none⟩=some (.slice s.a3 o.p.ids.length s.c3):=HC.out wr HB.out 12 _ rfl
   cases hq:gX o.p
   ·rw [hq] at HLp
    have Hf:=aj (HBad.out hq)
    clear hq HBad HGood
    go_wp2_with fail
    (with_reducible refine Calls.mono HLp.out ?_)
    rintro e w3 ⟨rfl,hb3⟩
    have HB3:=aj (HB.out.trans (hb3.mono HB.out.size))
    clear hb3
    go_wp2_with fail
    go_ret
    exact aD Hf.out HB3.out
   ·rw [hq] at HLp
    have HG2:=aj (HGood.out hq)
    clear hq HBad HGood
    go_wp2_with fail
    (with_reducible refine Calls.mono HLp.out ?_)
    rintro e w3 ⟨rfl,hb3⟩
    have HB3:=aj (HB.out.trans (hb3.mono HB.out.size))
    clear hb3
    clear x_0 x_1 x_2 x_3 x_4 x_5 x_6 x_7 x_8 x_9 x_10
    go_wp2_with fail
    go_roundw
    case rel=>exact ⟨i+1,by have:=HK.out;omega,by go_num,HG2,HB3⟩
    case measure=>have:=HK.out;simp [intOf];omega
  ·obtain rfl:i=n:=by omega
   have Hf:=aj (agO (l:=l) (by have:=H60.out;have:=HLen.out;omega) (fun j hj=>HG.out j hj (by rw [← HLen.out];exact hj)))
   have x1:¬ (i:Int)<(i:Int):=by omega
   clear hlt hi
   go_wp2_with fail
   go_ret
   exact aD Hf.out HB.out
theorem RpU.reopen {wa w:World} {gr gd:Nat} {X E:Nat→Prop} {d:ak} {most:Int} {L:List FS} {R:List au} {N:Nat} (h:RpU wa w gr gd X E d most L R N) (ha:d.armed=false) (h64:64≤most) (hmx:most≤1048576) :
  Calls Tryz.prog 10 #[.pointer (some ⟨gd,0,none⟩),.int .i64 most] w (fun e w'=>∃ gs X2 E2 d',e = .returned (.tuple #[.pointer (some ⟨gs,0,none⟩),.int .i64 0])∧RpU wa w' gs gd X2 E2 d' most L R N∧d'.armed=false∧Tn E w w'∧∀ q,E2 q→E q∨w.heap.size≤q):=by
 obtain ⟨gl,bm,F,h1⟩:=h.rep
 obtain ⟨Qd,Pl,P,g,Af,cf,hlg,hf⟩:=h1.lg.lg
 have hq:∀ q,Qd q→E q:=fun q hq=>h1.fe q (hf.d q hq)
 have hk:DkB wa.heap.size wa w gd Qd d:=⟨hlg.dk,h1.lg.below,fun q hq=>h1.own q (h1.fe q (hf.d q hq)),h1.lg.base⟩
 refine Calls.mono (aaC hk h.up ha h64 hmx (fun _=>False) (fun q h=>h.elim)) ?_
 rintro e w' ⟨gr,X,E',d',rfl,hu,ha2,-,ht,hE,-⟩
 exact ⟨gr,X,E',d',rfl,hu,ha2,ht.sub hq,fun q h9=>(hE q h9).imp (hq q) id⟩
theorem adJ (p:av):cu p p=true:=by
 unfold cu nA
 rw [iB qj,iB ql,iB pG]
 simp [eqB]
abbrev qA (q:av):Array Value:=#[.int .i64 q.kind,.int .u64 (q.trace:Nat),.int .u64 (q.bn:Nat),.int .u64 (q.aZ:Nat),.int .u64 (q.sn:Nat),.int .u64 (q.bM:Nat),.int .i64 q.v,.bool q.ok,.slice none q.spans.length 0,.slice none q.members.length 0,.slice none q.ids.length 0]
abbrev qO (q:av):Obj := .cells (qA q) 41
end Rp
end Go.Proofs.YtpcmlopbkehffaaGreat
