/-
  The packet of a thing, with the thing's own lists.
-/
import Derived.Test.YtpcmlopbkehffaaGreatOGAA
import Derived.Test.YtpcmlopbkehffaaGreatOGBG
import Derived.Test.YtpcmlopbkehffaaGreatOGBL
import Derived.Test.YtpcmlopbkehffaaGreatOShelf
import Derived.BigQuiet
import Derived.StillTailTactics
import Derived.Deep.RegionHeld3
set_option linter.unusedSimpArgs false
set_option linter.unusedVariables false
namespace Go.Proofs.YtpcmlopbkehffaaGreat
open Go.RowKit
abbrev vSpans (tr:Nat) (hand:Bool) (A:Option Addr) (n c:Nat):Value := .iface 168 (.agg #[.int .u64 (tr:Nat),.bool hand,.slice A n c])
abbrev amA (A:Option Addr) (n c:Nat):Value := .iface 171 (.agg #[.slice A n c])
abbrev lC (tr bn bd:Nat) (v:Int):Value := .iface 92 (.agg #[.int .u64 (tr:Nat),.int .u64 (bn:Nat),.int .u64 (bd:Nat),.int .i64 v])
abbrev mF (tr bn bd:Nat) (ok:Bool) (sn sd:Nat) (v:Int) (took:Bool):Value := .iface 173 (.agg #[.int .u64 (tr:Nat),.int .u64 (bn:Nat),.int .u64 (bd:Nat),.bool ok,.int .u64 (sn:Nat),.int .u64 (sd:Nat),.int .i64 v,.bool took])
abbrev sQ (tr:Nat) (v:Int):Value := .iface 175 (.agg #[.int .u64 (tr:Nat),.int .i64 v])
abbrev amB (tr bn bd:Nat) (A:Option Addr) (n c:Nat):Value := .iface 177 (.agg #[.int .u64 (tr:Nat),.int .u64 (bn:Nat),.int .u64 (bd:Nat),.slice A n c])
abbrev vAcked (tr:Nat) (A:Option Addr) (n c:Nat):Value := .iface 180 (.agg #[.int .u64 (tr:Nat),.slice A n c])
end Go.Proofs.YtpcmlopbkehffaaGreat
namespace Go.Proofs.YtpcmlopbkehffaaGreat
open Go.RowKit Ru
open Go.Proofs Go.Shelf
theorem agm:(Tryz.prog.info? 108).map (fun i=>(i.zero,i.size,i.bytes))=some (some (.agg #[.int .u64 0,.int .u64 0,.int .i64 0]),3,24):=by kernel_rfl
theorem agl:(Tryz.prog.info? 33).map (fun i=>(i.zero,i.size,i.bytes))=some (some (.int .u64 0),1,8):=by kernel_rfl
theorem aiw {B:Nat} {w:World} {A:Option Addr} {n c:Nat} {ms:List aJ} (h:w.ownsRow B 108 3 (.slice A n c) n (kL ms)):eO w A n c ms:=by
 have hl:ms.length=n:=by
  have:=h.1
  rw [uJ] at this
  omega
 have hh:=oM h
 obtain ⟨hx,⟨e,_⟩ | ⟨g,cap,cur,e,hg,hh2,hnc,hcm,hs,hc⟩⟩:=h
 ·injection e with a b c
  subst a c
  exact acs hh hl (by omega) (by omega) (fun _=>rfl)
 ·injection e with a b c
  subst a c
  unfold maxLen at hcm
  exact acs hh hl hnc (by omega) (fun e=>by cases e)
def gT (R:World→Option Addr→Nat→Prop) (n:Nat) (V:Value→Value) (w:World) (e:Ending) (w':World):Prop:=∃ A c,e = .returned (V (.slice A n c))∧R w' A c∧Below w.heap.size w w'
theorem kJ {R:World→Option Addr→Nat→Prop} {n c:Nat} {A:Option Addr} {V:Value→Value} {v:Value} {w w':World} (hv:v=V (.slice A n c)) (h:R w' A c) (hb:Below w.heap.size w w'):gT R n V w (.returned v) w':=by rw [hv];exact ⟨A,c,rfl,h,hb⟩
theorem wO (A:Option Addr) (n c:Nat) (ss:List ay) (w:World) (hs:bW w A n c ss) (hn:n≤1000000) (hne:A=none∨ss≠[]) :
  Calls Tryz.prog 95 #[.slice A n c] w (gT (fun w' A c=>bW w' A n c ss∧∀ a,A=some a→ss≠[]→w.heap.size≤a.block) n id w):=by
 obtain ⟨i0,hi0,hz0,hz1,hz2⟩:=info_parts ab2
 have hlen:=hs.len
 rcases A with _ | a
 ·have h0:=hs.nil rfl
  have h1:=hs.cap
  obtain rfl:n=0:=by omega
  subst h0
  refine Calls.mono (AnyE.slices_Clone_nil Sh.cloneSpans 0 0 w) ?_
  rintro e w' ⟨rfl,rfl⟩
  exact kJ rfl ⟨hs,fun a e=>by cases e⟩ (Below.refl _ _)
 ·have hne2:ss≠[]:=by rcases hne with h | h;cases h;exact h
  obtain ⟨b,o,e,-⟩:=hs.holds hne2
  cases e
  refine Calls.mono (AnyE.slices_Clone Sh.cloneSpans i0 _ 8 80 hi0 hz0 hz1 hz2 rfl (by omega) (fun w=>by kernel_rfl) b o n c (iH ss) w (by rw [tX];omega) (by unfold maxLen;omega) (by omega) (fun j u hu=>?_) (ae5 ss)) ?_
  ·obtain ⟨b2,o2,e,hc⟩:=hs.cells (by rintro hh;rw [hh] at hu;simp at hu)
   cases e
   exact hc j u hu
  ·rintro e w' ⟨v',rfl,ho,_,hb⟩
   obtain ⟨A',c',rfl,-⟩:=mY ho
   exact kJ rfl ⟨eP.row ho,fun a e _=>jY ho a.block (by rw [e];rfl)⟩ hb
theorem afg (A:Option Addr) (n c:Nat) (ss:List aJ) (w:World) (hs:eO w A n c ss) (hn:n≤1000000) (hne:A=none∨ss≠[]) :
  Calls Tryz.prog 96 #[.slice A n c] w (gT (fun w' A c=>eO w' A n c ss∧∀ a,A=some a→ss≠[]→w.heap.size≤a.block) n id w):=by
 obtain ⟨i0,hi0,hz0,hz1,hz2⟩:=info_parts agm
 have hlen:=hs.len
 rcases A with _ | a
 ·have h0:=hs.nil rfl
  have h1:=hs.cap
  obtain rfl:n=0:=by omega
  subst h0
  refine Calls.mono (AnyE.slices_Clone_nil Sh.cloneMembers 0 0 w) ?_
  rintro e w' ⟨rfl,rfl⟩
  exact kJ rfl ⟨hs,fun a e=>by cases e⟩ (Below.refl _ _)
 ·have hne2:ss≠[]:=by rcases hne with h | h;cases h;exact h
  obtain ⟨b,o,e,-⟩:=hs.holds hne2
  cases e
  refine Calls.mono (AnyE.slices_Clone Sh.cloneMembers i0 _ 3 24 hi0 hz0 hz1 hz2 rfl (by omega) (fun w=>by kernel_rfl) b o n c (kL ss) w (by rw [uJ];omega) (by unfold maxLen;omega) (by omega) (fun j u hu=>?_) (ahh ss)) ?_
  ·obtain ⟨b2,o2,e,hc⟩:=hs.cells (by rintro hh;rw [hh] at hu;simp at hu)
   cases e
   exact hc j u hu
  ·rintro e w' ⟨v',rfl,ho,_,hb⟩
   obtain ⟨A',c',rfl,-⟩:=mY ho
   exact kJ rfl ⟨aiw ho,fun a e _=>jY ho a.block (by rw [e];rfl)⟩ hb
theorem aff (A:Option Addr) (n c:Nat) (ss:List Nat) (w:World) (hs:Row w A n c (eG ss)) (hn:n≤1000000) (hne:A=none∨ss≠[]) :
  Calls Tryz.prog 97 #[.slice A n c] w (gT (fun w' A c=>Row w' A n c (eG ss)∧∀ a,A=some a→ss≠[]→w.heap.size≤a.block) n id w):=by
 obtain ⟨i0,hi0,hz0,hz1,hz2⟩:=info_parts agl
 have hlen:=hs.len
 have hlen2:(eG ss).length=ss.length:=by simp [eG]
 rcases A with _ | a
 ·have h0:=hs.nil rfl
  have h1:=hs.cap
  obtain rfl:n=0:=by omega
  subst h0
  refine Calls.mono (AnyE.slices_Clone_nil Sh.cloneIds 0 0 w) ?_
  rintro e w' ⟨rfl,rfl⟩
  exact kJ rfl ⟨hs,fun a e=>by cases e⟩ (Below.refl _ _)
 ·have hne2:eG ss≠[]:=by rcases hne with h | h;cases h;(intro e;apply h;have:=congrArg List.length e;rw [hlen2] at this;exact List.eq_nil_of_length_eq_zero this)
  obtain ⟨b,o,e,hc⟩:=hs.holds hne2
  cases e
  refine Calls.mono (AnyE.slices_Clone Sh.cloneIds i0 _ 1 8 hi0 hz0 hz1 hz2 rfl (by omega) (fun w=>by kernel_rfl) b o n c (eG ss) w (by omega) (by unfold maxLen;omega) (by omega) hc (fun u hu=>by simp [eG] at hu;obtain ⟨x,_,rfl⟩:=hu;rfl)) ?_
  rintro e w' ⟨v',rfl,ho,_,hb⟩
  obtain ⟨A',c',rfl,-⟩:=mY ho
  exact kJ rfl ⟨eY.row (show eY 33 _ _ _ _ _ _ from ho),fun a e _=>jY ho a.block (by rw [e];rfl)⟩ hb
set_option maxRecDepth 100000 in
set_option maxHeartbeats 4000000 in
theorem alD (tr bn bd sn sd:Nat) (v:Int) (ok:Bool) (l1:List ay) (l2:List aJ) (l3:List Nat) (a1:Option Addr) (c1:Nat) (a2:Option Addr) (c2:Nat) (a3:Option Addr) (c3:Nat) (w:World) (hr:bW w a1 l1.length c1 l1) (hm:l1.length≤1000) (hne:l1≠[]) :
  Calls Tryz.prog 63 #[.agg #[.int .i64 1,.int .u64 (tr:Nat),.int .u64 (bn:Nat),.int .u64 (bd:Nat),.int .u64 (sn:Nat),.int .u64 (sd:Nat),.int .i64 v,.bool ok,.slice a1 l1.length c1,.slice a2 l2.length c2,.slice a3 l3.length c3]] w (gT (fun w2 A c=>bW w2 A l1.length c l1) l1.length (fun x => .iface 168 (.agg #[.int .u64 (tr:Nat),.bool false,x])) w):=by
 have Hc:=aj (fun (W:World) (hb:Below w.heap.size w W)=>wO a1 _ c1 l1 W (hr.below hb) (by omega) (.inr hne))
 have B0:=aj (show gB (w.alloc (.cells #[.int .i64 1,.int .u64 (tr:Nat),.int .u64 (bn:Nat),.int .u64 (bd:Nat),.int .u64 (sn:Nat),.int .u64 (sd:Nat),.int .i64 v,.bool ok,.slice a1 l1.length c1,.slice a2 l2.length c2,.slice a3 l3.length c3] 41)) w.heap.size ⟨1,tr,bn,bd,sn,sd,v,ok,l1,l2,l3⟩ ⟨a1,c1,a2,c2,a3,c3⟩ from aP w _ _)
 have Ha:=aj (show Below w.heap.size w (w.alloc (.cells #[.int .i64 1,.int .u64 (tr:Nat),.int .u64 (bn:Nat),.int .u64 (bd:Nat),.int .u64 (sn:Nat),.int .u64 (sd:Nat),.int .i64 v,.bool ok,.slice a1 l1.length c1,.slice a2 l2.length c2,.slice a3 l3.length c3] 41)) from (Below.refl _ _).alloc (Nat.le_refl _) _)
 have hlt0:=B0.out.lt
 have hIn:=jc B0.out
 clear B0 hr hm hne
 go_enter Tryz.func63,Tryz.ntmps63
 go_wp2_with fail
 generalize w.alloc (.cells #[.int .i64 1,.int .u64 (tr:Nat),.int .u64 (bn:Nat),.int .u64 (bd:Nat),.int .u64 (sn:Nat),.int .u64 (sd:Nat),.int .i64 v,.bool ok,.slice a1 l1.length c1,.slice a2 l2.length c2,.slice a3 l3.length c3] 41)=wb at *
 go_region_held3 (PIn wb w.heap.size ⟨1,tr,bn,bd,sn,sd,v,ok,l1,l2,l3⟩ ⟨a1,c1,a2,c2,a3,c3⟩) (first | assumption | (refine aI hlt0 (by assumption) (by assumption)) | (refine aI hlt0 (by assumption) (Below.drew (Below.refl _ _))) | (refine aI hlt0 (by assumption) (Below.alloc (Below.refl _ _) (Nat.le_refl _) _)))
  (first
   | (go_at_call 95;(with_reducible refine Calls.mono (Hc.out _ ?_) ?_);(exact Ha.out.trans (Below.mono (And.left (by assumption)) Ha.out.size));rintro e w1 ⟨A,c,rfl,⟨hr1,-⟩,hb1⟩;have Hr1:=aj hr1;simp only [id];clear hr1)
   | fail)
 have hS:PIn wb w.heap.size ⟨1,tr,bn,bd,sn,sd,v,ok,l1,l2,l3⟩ ⟨a1,c1,a2,c2,a3,c3⟩ w1:=by assumption
 have h9:=aj (Below.trans Ha.out (Below.mono hS.1 Ha.out.size))
 clear hS hIn
 go_wp2_with fail
 go_ret
 exact kJ rfl Hr1.out h9.out
set_option maxRecDepth 100000 in
set_option maxHeartbeats 4000000 in
theorem alE (tr bn bd sn sd:Nat) (v:Int) (ok:Bool) (l1:List ay) (l2:List aJ) (l3:List Nat) (a1:Option Addr) (c1:Nat) (a2:Option Addr) (c2:Nat) (a3:Option Addr) (c3:Nat) (w:World) (hr:bW w a1 l1.length c1 l1) (hm:l1.length≤1000) (hne:l1≠[]) :
  Calls Tryz.prog 63 #[.agg #[.int .i64 2,.int .u64 (tr:Nat),.int .u64 (bn:Nat),.int .u64 (bd:Nat),.int .u64 (sn:Nat),.int .u64 (sd:Nat),.int .i64 v,.bool ok,.slice a1 l1.length c1,.slice a2 l2.length c2,.slice a3 l3.length c3]] w (gT (fun w2 A c=>bW w2 A l1.length c l1) l1.length (fun x => .iface 168 (.agg #[.int .u64 (tr:Nat),.bool true,x])) w):=by
 have Hc:=aj (fun (W:World) (hb:Below w.heap.size w W)=>wO a1 _ c1 l1 W (hr.below hb) (by omega) (.inr hne))
 have B0:=aj (show gB (w.alloc (.cells #[.int .i64 2,.int .u64 (tr:Nat),.int .u64 (bn:Nat),.int .u64 (bd:Nat),.int .u64 (sn:Nat),.int .u64 (sd:Nat),.int .i64 v,.bool ok,.slice a1 l1.length c1,.slice a2 l2.length c2,.slice a3 l3.length c3] 41)) w.heap.size ⟨2,tr,bn,bd,sn,sd,v,ok,l1,l2,l3⟩ ⟨a1,c1,a2,c2,a3,c3⟩ from aP w _ _)
 have Ha:=aj (show Below w.heap.size w (w.alloc (.cells #[.int .i64 2,.int .u64 (tr:Nat),.int .u64 (bn:Nat),.int .u64 (bd:Nat),.int .u64 (sn:Nat),.int .u64 (sd:Nat),.int .i64 v,.bool ok,.slice a1 l1.length c1,.slice a2 l2.length c2,.slice a3 l3.length c3] 41)) from (Below.refl _ _).alloc (Nat.le_refl _) _)
 have hlt0:=B0.out.lt
 have hIn:=jc B0.out
 clear B0 hr hm hne
 go_enter Tryz.func63,Tryz.ntmps63
 go_wp2_with fail
 generalize w.alloc (.cells #[.int .i64 2,.int .u64 (tr:Nat),.int .u64 (bn:Nat),.int .u64 (bd:Nat),.int .u64 (sn:Nat),.int .u64 (sd:Nat),.int .i64 v,.bool ok,.slice a1 l1.length c1,.slice a2 l2.length c2,.slice a3 l3.length c3] 41)=wb at *
 go_region_held3 (PIn wb w.heap.size ⟨2,tr,bn,bd,sn,sd,v,ok,l1,l2,l3⟩ ⟨a1,c1,a2,c2,a3,c3⟩) (first | assumption | (refine aI hlt0 (by assumption) (by assumption)) | (refine aI hlt0 (by assumption) (Below.drew (Below.refl _ _))) | (refine aI hlt0 (by assumption) (Below.alloc (Below.refl _ _) (Nat.le_refl _) _)))
  (first
   | (go_at_call 95;(with_reducible refine Calls.mono (Hc.out _ ?_) ?_);(exact Ha.out.trans (Below.mono (And.left (by assumption)) Ha.out.size));rintro e w1 ⟨A,c,rfl,⟨hr1,-⟩,hb1⟩;have Hr1:=aj hr1;simp only [id];clear hr1)
   | fail)
 have hS:PIn wb w.heap.size ⟨2,tr,bn,bd,sn,sd,v,ok,l1,l2,l3⟩ ⟨a1,c1,a2,c2,a3,c3⟩ w1:=by assumption
 have h9:=aj (Below.trans Ha.out (Below.mono hS.1 Ha.out.size))
 clear hS hIn
 go_wp2_with fail
 go_ret
 exact kJ rfl Hr1.out h9.out
set_option maxRecDepth 100000 in
set_option maxHeartbeats 4000000 in
theorem alF (tr bn bd sn sd:Nat) (v:Int) (ok:Bool) (l1:List ay) (l2:List aJ) (l3:List Nat) (a1:Option Addr) (c1:Nat) (a2:Option Addr) (c2:Nat) (a3:Option Addr) (c3:Nat) (w:World) (hr:eO w a2 l2.length c2 l2) (hm:l2.length≤1000) (hne:l2≠[]) :
  Calls Tryz.prog 63 #[.agg #[.int .i64 3,.int .u64 (tr:Nat),.int .u64 (bn:Nat),.int .u64 (bd:Nat),.int .u64 (sn:Nat),.int .u64 (sd:Nat),.int .i64 v,.bool ok,.slice a1 l1.length c1,.slice a2 l2.length c2,.slice a3 l3.length c3]] w (gT (fun w2 A c=>eO w2 A l2.length c l2) l2.length (fun x => .iface 171 (.agg #[x])) w):=by
 have Hc:=aj (fun (W:World) (hb:Below w.heap.size w W)=>afg a2 _ c2 l2 W (hr.below hb) (by omega) (.inr hne))
 have B0:=aj (show gB (w.alloc (.cells #[.int .i64 3,.int .u64 (tr:Nat),.int .u64 (bn:Nat),.int .u64 (bd:Nat),.int .u64 (sn:Nat),.int .u64 (sd:Nat),.int .i64 v,.bool ok,.slice a1 l1.length c1,.slice a2 l2.length c2,.slice a3 l3.length c3] 41)) w.heap.size ⟨3,tr,bn,bd,sn,sd,v,ok,l1,l2,l3⟩ ⟨a1,c1,a2,c2,a3,c3⟩ from aP w _ _)
 have Ha:=aj (show Below w.heap.size w (w.alloc (.cells #[.int .i64 3,.int .u64 (tr:Nat),.int .u64 (bn:Nat),.int .u64 (bd:Nat),.int .u64 (sn:Nat),.int .u64 (sd:Nat),.int .i64 v,.bool ok,.slice a1 l1.length c1,.slice a2 l2.length c2,.slice a3 l3.length c3] 41)) from (Below.refl _ _).alloc (Nat.le_refl _) _)
 have hlt0:=B0.out.lt
 have hIn:=jc B0.out
 clear B0 hr hm hne
 go_enter Tryz.func63,Tryz.ntmps63
 go_wp2_with fail
 refine Calls.mono (Hc.out _ Ha.out) ?_
 rintro e w1 ⟨A,c,rfl,⟨hr1,-⟩,hb1⟩
 have Hr1:=aj hr1
 have Hb1:=aj (Ha.out.trans (hb1.mono Ha.out.size))
 clear hr1 hb1
 simp only [id]
 go_wp2_with fail
 go_ret
 exact kJ rfl Hr1.out Hb1.out
set_option maxRecDepth 100000 in
set_option maxHeartbeats 4000000 in
theorem alG (tr bn bd sn sd:Nat) (v:Int) (ok:Bool) (l1:List ay) (l2:List aJ) (l3:List Nat) (a1:Option Addr) (c1:Nat) (a2:Option Addr) (c2:Nat) (a3:Option Addr) (c3:Nat) (w:World) :
  Calls Tryz.prog 63 #[.agg #[.int .i64 4,.int .u64 (tr:Nat),.int .u64 (bn:Nat),.int .u64 (bd:Nat),.int .u64 (sn:Nat),.int .u64 (sd:Nat),.int .i64 v,.bool ok,.slice a1 l1.length c1,.slice a2 l2.length c2,.slice a3 l3.length c3]] w fun e w'=>e = .returned (lC tr bn bd v)∧Below w.heap.size w w':=by
 go_enter Tryz.func63,Tryz.ntmps63
 go_wp2_with fail
 go_ret
 exact ⟨rfl,(Below.refl _ _).alloc (Nat.le_refl _) _⟩
set_option maxRecDepth 100000 in
set_option maxHeartbeats 4000000 in
theorem alH (tr bn bd sn sd:Nat) (v:Int) (ok:Bool) (l1:List ay) (l2:List aJ) (l3:List Nat) (a1:Option Addr) (c1:Nat) (a2:Option Addr) (c2:Nat) (a3:Option Addr) (c3:Nat) (w:World) :
  Calls Tryz.prog 63 #[.agg #[.int .i64 5,.int .u64 (tr:Nat),.int .u64 (bn:Nat),.int .u64 (bd:Nat),.int .u64 (sn:Nat),.int .u64 (sd:Nat),.int .i64 v,.bool ok,.slice a1 l1.length c1,.slice a2 l2.length c2,.slice a3 l3.length c3]] w fun e w'=>e = .returned (mF tr bn bd ok sn sd v false)∧Below w.heap.size w w':=by
 go_enter Tryz.func63,Tryz.ntmps63
 go_wp2_with fail
 go_ret
 exact ⟨rfl,(Below.refl _ _).alloc (Nat.le_refl _) _⟩
set_option maxRecDepth 100000 in
set_option maxHeartbeats 4000000 in
theorem alI (tr bn bd sn sd:Nat) (v:Int) (ok:Bool) (l1:List ay) (l2:List aJ) (l3:List Nat) (a1:Option Addr) (c1:Nat) (a2:Option Addr) (c2:Nat) (a3:Option Addr) (c3:Nat) (w:World) :
  Calls Tryz.prog 63 #[.agg #[.int .i64 6,.int .u64 (tr:Nat),.int .u64 (bn:Nat),.int .u64 (bd:Nat),.int .u64 (sn:Nat),.int .u64 (sd:Nat),.int .i64 v,.bool ok,.slice a1 l1.length c1,.slice a2 l2.length c2,.slice a3 l3.length c3]] w fun e w'=>e = .returned (lC tr bn bd v)∧Below w.heap.size w w':=by
 go_enter Tryz.func63,Tryz.ntmps63
 go_wp2_with fail
 go_ret
 exact ⟨rfl,(Below.refl _ _).alloc (Nat.le_refl _) _⟩
set_option maxRecDepth 100000 in
set_option maxHeartbeats 4000000 in
theorem alJ (tr bn bd sn sd:Nat) (v:Int) (ok:Bool) (l1:List ay) (l2:List aJ) (l3:List Nat) (a1:Option Addr) (c1:Nat) (a2:Option Addr) (c2:Nat) (a3:Option Addr) (c3:Nat) (w:World) :
  Calls Tryz.prog 63 #[.agg #[.int .i64 7,.int .u64 (tr:Nat),.int .u64 (bn:Nat),.int .u64 (bd:Nat),.int .u64 (sn:Nat),.int .u64 (sd:Nat),.int .i64 v,.bool ok,.slice a1 l1.length c1,.slice a2 l2.length c2,.slice a3 l3.length c3]] w fun e w'=>e = .returned (mF tr bn bd ok sn sd v true)∧Below w.heap.size w w':=by
 go_enter Tryz.func63,Tryz.ntmps63
 go_wp2_with fail
 go_ret
 exact ⟨rfl,(Below.refl _ _).alloc (Nat.le_refl _) _⟩
set_option maxRecDepth 100000 in
set_option maxHeartbeats 4000000 in
theorem alK (tr bn bd sn sd:Nat) (v:Int) (ok:Bool) (l1:List ay) (l2:List aJ) (l3:List Nat) (a1:Option Addr) (c1:Nat) (a2:Option Addr) (c2:Nat) (a3:Option Addr) (c3:Nat) (w:World) :
  Calls Tryz.prog 63 #[.agg #[.int .i64 8,.int .u64 (tr:Nat),.int .u64 (bn:Nat),.int .u64 (bd:Nat),.int .u64 (sn:Nat),.int .u64 (sd:Nat),.int .i64 v,.bool ok,.slice a1 l1.length c1,.slice a2 l2.length c2,.slice a3 l3.length c3]] w fun e w'=>e = .returned (sQ tr v)∧Below w.heap.size w w':=by
 go_enter Tryz.func63,Tryz.ntmps63
 go_wp2_with fail
 go_ret
 exact ⟨rfl,(Below.refl _ _).alloc (Nat.le_refl _) _⟩
set_option maxRecDepth 100000 in
set_option maxHeartbeats 4000000 in
theorem alL (tr bn bd sn sd:Nat) (v:Int) (ok:Bool) (l1:List ay) (l2:List aJ) (l3:List Nat) (a1:Option Addr) (c1:Nat) (a2:Option Addr) (c2:Nat) (a3:Option Addr) (c3:Nat) (w:World) (hr:bW w a1 l1.length c1 l1) (hm:l1.length≤1000) (hne:l1≠[]) :
  Calls Tryz.prog 63 #[.agg #[.int .i64 9,.int .u64 (tr:Nat),.int .u64 (bn:Nat),.int .u64 (bd:Nat),.int .u64 (sn:Nat),.int .u64 (sd:Nat),.int .i64 v,.bool ok,.slice a1 l1.length c1,.slice a2 l2.length c2,.slice a3 l3.length c3]] w (gT (fun w2 A c=>bW w2 A l1.length c l1) l1.length (fun x => .iface 177 (.agg #[.int .u64 (tr:Nat),.int .u64 (bn:Nat),.int .u64 (bd:Nat),x])) w):=by
 have Hc:=aj (fun (W:World) (hb:Below w.heap.size w W)=>wO a1 _ c1 l1 W (hr.below hb) (by omega) (.inr hne))
 have B0:=aj (show gB (w.alloc (.cells #[.int .i64 9,.int .u64 (tr:Nat),.int .u64 (bn:Nat),.int .u64 (bd:Nat),.int .u64 (sn:Nat),.int .u64 (sd:Nat),.int .i64 v,.bool ok,.slice a1 l1.length c1,.slice a2 l2.length c2,.slice a3 l3.length c3] 41)) w.heap.size ⟨9,tr,bn,bd,sn,sd,v,ok,l1,l2,l3⟩ ⟨a1,c1,a2,c2,a3,c3⟩ from aP w _ _)
 have Ha:=aj (show Below w.heap.size w (w.alloc (.cells #[.int .i64 9,.int .u64 (tr:Nat),.int .u64 (bn:Nat),.int .u64 (bd:Nat),.int .u64 (sn:Nat),.int .u64 (sd:Nat),.int .i64 v,.bool ok,.slice a1 l1.length c1,.slice a2 l2.length c2,.slice a3 l3.length c3] 41)) from (Below.refl _ _).alloc (Nat.le_refl _) _)
 have hlt0:=B0.out.lt
 have hIn:=jc B0.out
 clear B0 hr hm hne
 go_enter Tryz.func63,Tryz.ntmps63
 go_wp2_with fail
 generalize w.alloc (.cells #[.int .i64 9,.int .u64 (tr:Nat),.int .u64 (bn:Nat),.int .u64 (bd:Nat),.int .u64 (sn:Nat),.int .u64 (sd:Nat),.int .i64 v,.bool ok,.slice a1 l1.length c1,.slice a2 l2.length c2,.slice a3 l3.length c3] 41)=wb at *
 go_region_held3 (PIn wb w.heap.size ⟨9,tr,bn,bd,sn,sd,v,ok,l1,l2,l3⟩ ⟨a1,c1,a2,c2,a3,c3⟩) (first | assumption | (refine aI hlt0 (by assumption) (by assumption)) | (refine aI hlt0 (by assumption) (Below.drew (Below.refl _ _))) | (refine aI hlt0 (by assumption) (Below.alloc (Below.refl _ _) (Nat.le_refl _) _)))
  (first
   | (go_at_call 95;(with_reducible refine Calls.mono (Hc.out _ ?_) ?_);(exact Ha.out.trans (Below.mono (And.left (by assumption)) Ha.out.size));rintro e w1 ⟨A,c,rfl,⟨hr1,-⟩,hb1⟩;have Hr1:=aj hr1;simp only [id];clear hr1)
   | fail)
 have hS:PIn wb w.heap.size ⟨9,tr,bn,bd,sn,sd,v,ok,l1,l2,l3⟩ ⟨a1,c1,a2,c2,a3,c3⟩ w1:=by assumption
 have h9:=aj (Below.trans Ha.out (Below.mono hS.1 Ha.out.size))
 clear hS hIn
 go_wp2_with fail
 go_ret
 exact kJ rfl Hr1.out h9.out
set_option maxRecDepth 100000 in
set_option maxHeartbeats 4000000 in
theorem alC (tr bn bd sn sd:Nat) (v:Int) (ok:Bool) (l1:List ay) (l2:List aJ) (l3:List Nat) (a1:Option Addr) (c1:Nat) (a2:Option Addr) (c2:Nat) (a3:Option Addr) (c3:Nat) (w:World) (hr:Row w a3 l3.length c3 (eG l3)) (hm:l3.length≤1000) (hne:l3≠[]) :
  Calls Tryz.prog 63 #[.agg #[.int .i64 10,.int .u64 (tr:Nat),.int .u64 (bn:Nat),.int .u64 (bd:Nat),.int .u64 (sn:Nat),.int .u64 (sd:Nat),.int .i64 v,.bool ok,.slice a1 l1.length c1,.slice a2 l2.length c2,.slice a3 l3.length c3]] w (gT (fun w2 A c=>Row w2 A l3.length c (eG l3)) l3.length (fun x => .iface 180 (.agg #[.int .u64 (tr:Nat),x])) w):=by
 have Hc:=aj (fun (W:World) (hb:Below w.heap.size w W)=>aff a3 _ c3 l3 W (hr.below hb) (by omega) (.inr hne))
 have B0:=aj (show gB (w.alloc (.cells #[.int .i64 10,.int .u64 (tr:Nat),.int .u64 (bn:Nat),.int .u64 (bd:Nat),.int .u64 (sn:Nat),.int .u64 (sd:Nat),.int .i64 v,.bool ok,.slice a1 l1.length c1,.slice a2 l2.length c2,.slice a3 l3.length c3] 41)) w.heap.size ⟨10,tr,bn,bd,sn,sd,v,ok,l1,l2,l3⟩ ⟨a1,c1,a2,c2,a3,c3⟩ from aP w _ _)
 have Ha:=aj (show Below w.heap.size w (w.alloc (.cells #[.int .i64 10,.int .u64 (tr:Nat),.int .u64 (bn:Nat),.int .u64 (bd:Nat),.int .u64 (sn:Nat),.int .u64 (sd:Nat),.int .i64 v,.bool ok,.slice a1 l1.length c1,.slice a2 l2.length c2,.slice a3 l3.length c3] 41)) from (Below.refl _ _).alloc (Nat.le_refl _) _)
 have hlt0:=B0.out.lt
 have hIn:=jc B0.out
 clear B0 hr hm hne
 go_enter Tryz.func63,Tryz.ntmps63
 go_wp2_with fail
 generalize w.alloc (.cells #[.int .i64 10,.int .u64 (tr:Nat),.int .u64 (bn:Nat),.int .u64 (bd:Nat),.int .u64 (sn:Nat),.int .u64 (sd:Nat),.int .i64 v,.bool ok,.slice a1 l1.length c1,.slice a2 l2.length c2,.slice a3 l3.length c3] 41)=wb at *
 go_region_held3 (PIn wb w.heap.size ⟨10,tr,bn,bd,sn,sd,v,ok,l1,l2,l3⟩ ⟨a1,c1,a2,c2,a3,c3⟩) (first | assumption | (refine aI hlt0 (by assumption) (by assumption)) | (refine aI hlt0 (by assumption) (Below.drew (Below.refl _ _))) | (refine aI hlt0 (by assumption) (Below.alloc (Below.refl _ _) (Nat.le_refl _) _)))
  (first
   | (go_at_call 97;(with_reducible refine Calls.mono (Hc.out _ ?_) ?_);(exact Ha.out.trans (Below.mono (And.left (by assumption)) Ha.out.size));rintro e w1 ⟨A,c,rfl,⟨hr1,-⟩,hb1⟩;have Hr1:=aj hr1;simp only [id];clear hr1)
   | fail)
 have hS:PIn wb w.heap.size ⟨10,tr,bn,bd,sn,sd,v,ok,l1,l2,l3⟩ ⟨a1,c1,a2,c2,a3,c3⟩ w1:=by assumption
 have h9:=aj (Below.trans Ha.out (Below.mono hS.1 Ha.out.size))
 clear hS hIn
 go_wp2_with fail
 go_ret
 exact kJ rfl Hr1.out h9.out
end Go.Proofs.YtpcmlopbkehffaaGreat
namespace Go.Proofs.YtpcmlopbkehffaaGreat
open Go.RowKit Ru
def OfP (R:World→Option Addr→Nat→Prop) (n:Nat) (V:Value→Value) (w:World) (e:Ending) (w':World):Prop:=∃ A c,e = .returned (.tuple #[V (.slice A n c),.int .i64 0])∧R w' A c∧Below w.heap.size w w'
theorem mg {R:World→Option Addr→Nat→Prop} {n c:Nat} {A:Option Addr} {V:Value→Value} {v:Value} {w w':World} (hv:v = .tuple #[V (.slice A n c),.int .i64 0]) (h:R w' A c) (hb:Below w.heap.size w w'):OfP R n V w (.returned v) w':=by rw [hv];exact ⟨A,c,rfl,h,hb⟩
theorem rO {V:Value→Value} {w w':World} {e:Ending} (h:e = .returned (V (.slice none 0 0))∧Below w.heap.size w w'):gT (fun _ _ _=>True) 0 V w e w':=⟨none,0,h.1,trivial,h.2⟩
set_option maxRecDepth 100000 in
set_option maxHeartbeats 4000000 in
theorem ahP (tr bn bd sn sd:Nat) (v:Int) (ok:Bool) (l1:List ay) (l2:List aJ) (l3:List Nat) (a1:Option Addr) (c1:Nat) (a2:Option Addr) (c2:Nat) (a3:Option Addr) (c3:Nat) (w:World) (hp:bP w ⟨1,tr,bn,bd,sn,sd,v,ok,l1,l2,l3⟩ ⟨a1,c1,a2,c2,a3,c3⟩) (hw:av.Wf ⟨1,tr,bn,bd,sn,sd,v,ok,l1,l2,l3⟩) (hm:l1.length≤1000∧l2.length≤1000∧l3.length≤1000) (hr:dF ⟨1,tr,bn,bd,sn,sd,v,ok,l1,l2,l3⟩=true) (hne:l1≠[]) :
  Calls Tryz.prog 32 #[.agg #[.int .i64 1,.int .u64 (tr:Nat),.int .u64 (bn:Nat),.int .u64 (bd:Nat),.int .u64 (sn:Nat),.int .u64 (sd:Nat),.int .i64 v,.bool ok,.slice a1 l1.length c1,.slice a2 l2.length c2,.slice a3 l3.length c3]] w (OfP (fun w2 A c=>bW w2 A l1.length c l1) l1.length (fun x => .iface 168 (.agg #[.int .u64 (tr:Nat),.bool false,x])) w):=by
 have Ha:=aj (show Below w.heap.size w (w.alloc (.cells #[.int .i64 1,.int .u64 (tr:Nat),.int .u64 (bn:Nat),.int .u64 (bd:Nat),.int .u64 (sn:Nat),.int .u64 (sd:Nat),.int .i64 v,.bool ok,.slice a1 l1.length c1,.slice a2 l2.length c2,.slice a3 l3.length c3] 41)) from (Below.refl _ _).alloc (Nat.le_refl _) _)
 have B0:=aj (aP w 41 #[.int .i64 1,.int .u64 (tr:Nat),.int .u64 (bn:Nat),.int .u64 (bd:Nat),.int .u64 (sn:Nat),.int .u64 (sd:Nat),.int .i64 v,.bool ok,.slice a1 l1.length c1,.slice a2 l2.length c2,.slice a3 l3.length c3])
 have Hri:=aj (fun (W:World) (hb:Below w.heap.size w W)=>kS ⟨1,tr,bn,bd,sn,sd,v,ok,l1,l2,l3⟩ ⟨a1,c1,a2,c2,a3,c3⟩ W (hp.below hb) hw (by show l1.length≤_;omega))
 have Hth:=aj (fun (W:World) (hb:Below w.heap.size w W)=>show Calls Tryz.prog 63 #[.agg #[.int .i64 1,.int .u64 (tr:Nat),.int .u64 (bn:Nat),.int .u64 (bd:Nat),.int .u64 (sn:Nat),.int .u64 (sd:Nat),.int .i64 v,.bool ok,.slice a1 l1.length c1,.slice a2 l2.length c2,.slice a3 l3.length c3]] W (gT (fun w2 A c=>bW w2 A l1.length c l1) l1.length (fun x => .iface 168 (.agg #[.int .u64 (tr:Nat),.bool false,x])) W) from alD tr bn bd sn sd v ok l1 l2 l3 a1 c1 a2 c2 a3 c3 W (hp.below hb).r1 (by omega) hne)
 rw [hr] at Hri
 have ek:bY true=0:=rfl
 rw [ek] at Hri
 clear hp hw hm hr ek hne
 go_enter Tryz.func32,Tryz.ntmps32
 go_wp2_with fail
 refine Calls.mono (Hri.out _ Ha.out) ?_
 rintro e w1 ⟨rfl,hb1⟩
 have B1:=aj (B0.out.below hb1 B0.out.lt)
 have Hb1:=aj (Ha.out.trans (hb1.mono Ha.out.size))
 clear hb1
 have x0:=B1.out.cell 0 _ rfl
 have x1:=B1.out.cell 1 _ rfl
 have x2:=B1.out.cell 2 _ rfl
 have x3:=B1.out.cell 3 _ rfl
 have x4:=B1.out.cell 4 _ rfl
 have x5:=B1.out.cell 5 _ rfl
 have x6:=B1.out.cell 6 _ rfl
 have x7:=B1.out.cell 7 _ rfl
 have x8:=B1.out.cell 8 _ rfl
 have x9:=B1.out.cell 9 _ rfl
 have x10:=B1.out.cell 10 _ rfl
 go_wp2_with fail
 refine Calls.mono (Hth.out _ Hb1.out) ?_
 rintro e w2 ⟨A,c,rfl,hr2,hb2⟩
 have Hr2:=aj hr2
 have Hb2:=aj (Hb1.out.trans (hb2.mono Hb1.out.size))
 clear hb2 hr2
 simp only []
 go_wp2_with fail
 go_ret2
 exact mg (V:=(fun x => .iface 168 (.agg #[.int .u64 (tr:Nat),.bool false,x]))) (A:=A) (c:=c) rfl Hr2.out Hb2.out
set_option maxRecDepth 100000 in
set_option maxHeartbeats 4000000 in
theorem ahQ (tr bn bd sn sd:Nat) (v:Int) (ok:Bool) (l1:List ay) (l2:List aJ) (l3:List Nat) (a1:Option Addr) (c1:Nat) (a2:Option Addr) (c2:Nat) (a3:Option Addr) (c3:Nat) (w:World) (hp:bP w ⟨2,tr,bn,bd,sn,sd,v,ok,l1,l2,l3⟩ ⟨a1,c1,a2,c2,a3,c3⟩) (hw:av.Wf ⟨2,tr,bn,bd,sn,sd,v,ok,l1,l2,l3⟩) (hm:l1.length≤1000∧l2.length≤1000∧l3.length≤1000) (hr:dF ⟨2,tr,bn,bd,sn,sd,v,ok,l1,l2,l3⟩=true) (hne:l1≠[]) :
  Calls Tryz.prog 32 #[.agg #[.int .i64 2,.int .u64 (tr:Nat),.int .u64 (bn:Nat),.int .u64 (bd:Nat),.int .u64 (sn:Nat),.int .u64 (sd:Nat),.int .i64 v,.bool ok,.slice a1 l1.length c1,.slice a2 l2.length c2,.slice a3 l3.length c3]] w (OfP (fun w2 A c=>bW w2 A l1.length c l1) l1.length (fun x => .iface 168 (.agg #[.int .u64 (tr:Nat),.bool true,x])) w):=by
 have Ha:=aj (show Below w.heap.size w (w.alloc (.cells #[.int .i64 2,.int .u64 (tr:Nat),.int .u64 (bn:Nat),.int .u64 (bd:Nat),.int .u64 (sn:Nat),.int .u64 (sd:Nat),.int .i64 v,.bool ok,.slice a1 l1.length c1,.slice a2 l2.length c2,.slice a3 l3.length c3] 41)) from (Below.refl _ _).alloc (Nat.le_refl _) _)
 have B0:=aj (aP w 41 #[.int .i64 2,.int .u64 (tr:Nat),.int .u64 (bn:Nat),.int .u64 (bd:Nat),.int .u64 (sn:Nat),.int .u64 (sd:Nat),.int .i64 v,.bool ok,.slice a1 l1.length c1,.slice a2 l2.length c2,.slice a3 l3.length c3])
 have Hri:=aj (fun (W:World) (hb:Below w.heap.size w W)=>kS ⟨2,tr,bn,bd,sn,sd,v,ok,l1,l2,l3⟩ ⟨a1,c1,a2,c2,a3,c3⟩ W (hp.below hb) hw (by show l1.length≤_;omega))
 have Hth:=aj (fun (W:World) (hb:Below w.heap.size w W)=>show Calls Tryz.prog 63 #[.agg #[.int .i64 2,.int .u64 (tr:Nat),.int .u64 (bn:Nat),.int .u64 (bd:Nat),.int .u64 (sn:Nat),.int .u64 (sd:Nat),.int .i64 v,.bool ok,.slice a1 l1.length c1,.slice a2 l2.length c2,.slice a3 l3.length c3]] W (gT (fun w2 A c=>bW w2 A l1.length c l1) l1.length (fun x => .iface 168 (.agg #[.int .u64 (tr:Nat),.bool true,x])) W) from alE tr bn bd sn sd v ok l1 l2 l3 a1 c1 a2 c2 a3 c3 W (hp.below hb).r1 (by omega) hne)
 rw [hr] at Hri
 have ek:bY true=0:=rfl
 rw [ek] at Hri
 clear hp hw hm hr ek hne
 go_enter Tryz.func32,Tryz.ntmps32
 go_wp2_with fail
 refine Calls.mono (Hri.out _ Ha.out) ?_
 rintro e w1 ⟨rfl,hb1⟩
 have B1:=aj (B0.out.below hb1 B0.out.lt)
 have Hb1:=aj (Ha.out.trans (hb1.mono Ha.out.size))
 clear hb1
 have x0:=B1.out.cell 0 _ rfl
 have x1:=B1.out.cell 1 _ rfl
 have x2:=B1.out.cell 2 _ rfl
 have x3:=B1.out.cell 3 _ rfl
 have x4:=B1.out.cell 4 _ rfl
 have x5:=B1.out.cell 5 _ rfl
 have x6:=B1.out.cell 6 _ rfl
 have x7:=B1.out.cell 7 _ rfl
 have x8:=B1.out.cell 8 _ rfl
 have x9:=B1.out.cell 9 _ rfl
 have x10:=B1.out.cell 10 _ rfl
 go_wp2_with fail
 refine Calls.mono (Hth.out _ Hb1.out) ?_
 rintro e w2 ⟨A,c,rfl,hr2,hb2⟩
 have Hr2:=aj hr2
 have Hb2:=aj (Hb1.out.trans (hb2.mono Hb1.out.size))
 clear hb2 hr2
 simp only []
 go_wp2_with fail
 go_ret2
 exact mg (V:=(fun x => .iface 168 (.agg #[.int .u64 (tr:Nat),.bool true,x]))) (A:=A) (c:=c) rfl Hr2.out Hb2.out
set_option maxRecDepth 100000 in
set_option maxHeartbeats 4000000 in
theorem ahR (tr bn bd sn sd:Nat) (v:Int) (ok:Bool) (l1:List ay) (l2:List aJ) (l3:List Nat) (a1:Option Addr) (c1:Nat) (a2:Option Addr) (c2:Nat) (a3:Option Addr) (c3:Nat) (w:World) (hp:bP w ⟨3,tr,bn,bd,sn,sd,v,ok,l1,l2,l3⟩ ⟨a1,c1,a2,c2,a3,c3⟩) (hw:av.Wf ⟨3,tr,bn,bd,sn,sd,v,ok,l1,l2,l3⟩) (hm:l1.length≤1000∧l2.length≤1000∧l3.length≤1000) (hr:dF ⟨3,tr,bn,bd,sn,sd,v,ok,l1,l2,l3⟩=true) (hne:l2≠[]) :
  Calls Tryz.prog 32 #[.agg #[.int .i64 3,.int .u64 (tr:Nat),.int .u64 (bn:Nat),.int .u64 (bd:Nat),.int .u64 (sn:Nat),.int .u64 (sd:Nat),.int .i64 v,.bool ok,.slice a1 l1.length c1,.slice a2 l2.length c2,.slice a3 l3.length c3]] w (OfP (fun w2 A c=>eO w2 A l2.length c l2) l2.length (fun x => .iface 171 (.agg #[x])) w):=by
 have Ha:=aj (show Below w.heap.size w (w.alloc (.cells #[.int .i64 3,.int .u64 (tr:Nat),.int .u64 (bn:Nat),.int .u64 (bd:Nat),.int .u64 (sn:Nat),.int .u64 (sd:Nat),.int .i64 v,.bool ok,.slice a1 l1.length c1,.slice a2 l2.length c2,.slice a3 l3.length c3] 41)) from (Below.refl _ _).alloc (Nat.le_refl _) _)
 have B0:=aj (aP w 41 #[.int .i64 3,.int .u64 (tr:Nat),.int .u64 (bn:Nat),.int .u64 (bd:Nat),.int .u64 (sn:Nat),.int .u64 (sd:Nat),.int .i64 v,.bool ok,.slice a1 l1.length c1,.slice a2 l2.length c2,.slice a3 l3.length c3])
 have Hri:=aj (fun (W:World) (hb:Below w.heap.size w W)=>kS ⟨3,tr,bn,bd,sn,sd,v,ok,l1,l2,l3⟩ ⟨a1,c1,a2,c2,a3,c3⟩ W (hp.below hb) hw (by show l1.length≤_;omega))
 have Hth:=aj (fun (W:World) (hb:Below w.heap.size w W)=>show Calls Tryz.prog 63 #[.agg #[.int .i64 3,.int .u64 (tr:Nat),.int .u64 (bn:Nat),.int .u64 (bd:Nat),.int .u64 (sn:Nat),.int .u64 (sd:Nat),.int .i64 v,.bool ok,.slice a1 l1.length c1,.slice a2 l2.length c2,.slice a3 l3.length c3]] W (gT (fun w2 A c=>eO w2 A l2.length c l2) l2.length (fun x => .iface 171 (.agg #[x])) W) from alF tr bn bd sn sd v ok l1 l2 l3 a1 c1 a2 c2 a3 c3 W (hp.below hb).r2 (by omega) hne)
 rw [hr] at Hri
 have ek:bY true=0:=rfl
 rw [ek] at Hri
 clear hp hw hm hr ek hne
 go_enter Tryz.func32,Tryz.ntmps32
 go_wp2_with fail
 refine Calls.mono (Hri.out _ Ha.out) ?_
 rintro e w1 ⟨rfl,hb1⟩
 have B1:=aj (B0.out.below hb1 B0.out.lt)
 have Hb1:=aj (Ha.out.trans (hb1.mono Ha.out.size))
 clear hb1
 have x0:=B1.out.cell 0 _ rfl
 have x1:=B1.out.cell 1 _ rfl
 have x2:=B1.out.cell 2 _ rfl
 have x3:=B1.out.cell 3 _ rfl
 have x4:=B1.out.cell 4 _ rfl
 have x5:=B1.out.cell 5 _ rfl
 have x6:=B1.out.cell 6 _ rfl
 have x7:=B1.out.cell 7 _ rfl
 have x8:=B1.out.cell 8 _ rfl
 have x9:=B1.out.cell 9 _ rfl
 have x10:=B1.out.cell 10 _ rfl
 go_wp2_with fail
 refine Calls.mono (Hth.out _ Hb1.out) ?_
 rintro e w2 ⟨A,c,rfl,hr2,hb2⟩
 have Hr2:=aj hr2
 have Hb2:=aj (Hb1.out.trans (hb2.mono Hb1.out.size))
 clear hb2 hr2
 simp only []
 go_wp2_with fail
 go_ret2
 exact mg (V:=(fun x => .iface 171 (.agg #[x]))) (A:=A) (c:=c) rfl Hr2.out Hb2.out
set_option maxRecDepth 100000 in
set_option maxHeartbeats 4000000 in
theorem ahS (tr bn bd sn sd:Nat) (v:Int) (ok:Bool) (l1:List ay) (l2:List aJ) (l3:List Nat) (a1:Option Addr) (c1:Nat) (a2:Option Addr) (c2:Nat) (a3:Option Addr) (c3:Nat) (w:World) (hp:bP w ⟨4,tr,bn,bd,sn,sd,v,ok,l1,l2,l3⟩ ⟨a1,c1,a2,c2,a3,c3⟩) (hw:av.Wf ⟨4,tr,bn,bd,sn,sd,v,ok,l1,l2,l3⟩) (hm:l1.length≤1000∧l2.length≤1000∧l3.length≤1000) (hr:dF ⟨4,tr,bn,bd,sn,sd,v,ok,l1,l2,l3⟩=true) :
  Calls Tryz.prog 32 #[.agg #[.int .i64 4,.int .u64 (tr:Nat),.int .u64 (bn:Nat),.int .u64 (bd:Nat),.int .u64 (sn:Nat),.int .u64 (sd:Nat),.int .i64 v,.bool ok,.slice a1 l1.length c1,.slice a2 l2.length c2,.slice a3 l3.length c3]] w (OfP (fun _ _ _=>True) 0 (fun _=>lC tr bn bd v) w):=by
 have Ha:=aj (show Below w.heap.size w (w.alloc (.cells #[.int .i64 4,.int .u64 (tr:Nat),.int .u64 (bn:Nat),.int .u64 (bd:Nat),.int .u64 (sn:Nat),.int .u64 (sd:Nat),.int .i64 v,.bool ok,.slice a1 l1.length c1,.slice a2 l2.length c2,.slice a3 l3.length c3] 41)) from (Below.refl _ _).alloc (Nat.le_refl _) _)
 have B0:=aj (aP w 41 #[.int .i64 4,.int .u64 (tr:Nat),.int .u64 (bn:Nat),.int .u64 (bd:Nat),.int .u64 (sn:Nat),.int .u64 (sd:Nat),.int .i64 v,.bool ok,.slice a1 l1.length c1,.slice a2 l2.length c2,.slice a3 l3.length c3])
 have Hri:=aj (fun (W:World) (hb:Below w.heap.size w W)=>kS ⟨4,tr,bn,bd,sn,sd,v,ok,l1,l2,l3⟩ ⟨a1,c1,a2,c2,a3,c3⟩ W (hp.below hb) hw (by show l1.length≤_;omega))
 have Hth:=aj (fun (W:World) (hb:Below w.heap.size w W)=>show Calls Tryz.prog 63 #[.agg #[.int .i64 4,.int .u64 (tr:Nat),.int .u64 (bn:Nat),.int .u64 (bd:Nat),.int .u64 (sn:Nat),.int .u64 (sd:Nat),.int .i64 v,.bool ok,.slice a1 l1.length c1,.slice a2 l2.length c2,.slice a3 l3.length c3]] W (gT (fun _ _ _=>True) 0 (fun _=>lC tr bn bd v) W) from (alG tr bn bd sn sd v ok l1 l2 l3 a1 c1 a2 c2 a3 c3 W).mono fun e w2 h=>rO (V:=(fun _=>lC tr bn bd v)) h)
 rw [hr] at Hri
 have ek:bY true=0:=rfl
 rw [ek] at Hri
 clear hp hw hm hr ek
 go_enter Tryz.func32,Tryz.ntmps32
 go_wp2_with fail
 refine Calls.mono (Hri.out _ Ha.out) ?_
 rintro e w1 ⟨rfl,hb1⟩
 have B1:=aj (B0.out.below hb1 B0.out.lt)
 have Hb1:=aj (Ha.out.trans (hb1.mono Ha.out.size))
 clear hb1
 have x0:=B1.out.cell 0 _ rfl
 have x1:=B1.out.cell 1 _ rfl
 have x2:=B1.out.cell 2 _ rfl
 have x3:=B1.out.cell 3 _ rfl
 have x4:=B1.out.cell 4 _ rfl
 have x5:=B1.out.cell 5 _ rfl
 have x6:=B1.out.cell 6 _ rfl
 have x7:=B1.out.cell 7 _ rfl
 have x8:=B1.out.cell 8 _ rfl
 have x9:=B1.out.cell 9 _ rfl
 have x10:=B1.out.cell 10 _ rfl
 go_wp2_with fail
 refine Calls.mono (Hth.out _ Hb1.out) ?_
 rintro e w2 ⟨A,c,rfl,hr2,hb2⟩
 have Hr2:=aj hr2
 have Hb2:=aj (Hb1.out.trans (hb2.mono Hb1.out.size))
 clear hb2 hr2
 simp only []
 go_wp2_with fail
 go_ret2
 exact mg (V:=(fun _=>lC tr bn bd v)) (A:=A) (c:=c) rfl Hr2.out Hb2.out
set_option maxRecDepth 100000 in
set_option maxHeartbeats 4000000 in
theorem ahT (tr bn bd sn sd:Nat) (v:Int) (ok:Bool) (l1:List ay) (l2:List aJ) (l3:List Nat) (a1:Option Addr) (c1:Nat) (a2:Option Addr) (c2:Nat) (a3:Option Addr) (c3:Nat) (w:World) (hp:bP w ⟨5,tr,bn,bd,sn,sd,v,ok,l1,l2,l3⟩ ⟨a1,c1,a2,c2,a3,c3⟩) (hw:av.Wf ⟨5,tr,bn,bd,sn,sd,v,ok,l1,l2,l3⟩) (hm:l1.length≤1000∧l2.length≤1000∧l3.length≤1000) (hr:dF ⟨5,tr,bn,bd,sn,sd,v,ok,l1,l2,l3⟩=true) :
  Calls Tryz.prog 32 #[.agg #[.int .i64 5,.int .u64 (tr:Nat),.int .u64 (bn:Nat),.int .u64 (bd:Nat),.int .u64 (sn:Nat),.int .u64 (sd:Nat),.int .i64 v,.bool ok,.slice a1 l1.length c1,.slice a2 l2.length c2,.slice a3 l3.length c3]] w (OfP (fun _ _ _=>True) 0 (fun _=>mF tr bn bd ok sn sd v false) w):=by
 have Ha:=aj (show Below w.heap.size w (w.alloc (.cells #[.int .i64 5,.int .u64 (tr:Nat),.int .u64 (bn:Nat),.int .u64 (bd:Nat),.int .u64 (sn:Nat),.int .u64 (sd:Nat),.int .i64 v,.bool ok,.slice a1 l1.length c1,.slice a2 l2.length c2,.slice a3 l3.length c3] 41)) from (Below.refl _ _).alloc (Nat.le_refl _) _)
 have B0:=aj (aP w 41 #[.int .i64 5,.int .u64 (tr:Nat),.int .u64 (bn:Nat),.int .u64 (bd:Nat),.int .u64 (sn:Nat),.int .u64 (sd:Nat),.int .i64 v,.bool ok,.slice a1 l1.length c1,.slice a2 l2.length c2,.slice a3 l3.length c3])
 have Hri:=aj (fun (W:World) (hb:Below w.heap.size w W)=>kS ⟨5,tr,bn,bd,sn,sd,v,ok,l1,l2,l3⟩ ⟨a1,c1,a2,c2,a3,c3⟩ W (hp.below hb) hw (by show l1.length≤_;omega))
 have Hth:=aj (fun (W:World) (hb:Below w.heap.size w W)=>show Calls Tryz.prog 63 #[.agg #[.int .i64 5,.int .u64 (tr:Nat),.int .u64 (bn:Nat),.int .u64 (bd:Nat),.int .u64 (sn:Nat),.int .u64 (sd:Nat),.int .i64 v,.bool ok,.slice a1 l1.length c1,.slice a2 l2.length c2,.slice a3 l3.length c3]] W (gT (fun _ _ _=>True) 0 (fun _=>mF tr bn bd ok sn sd v false) W) from (alH tr bn bd sn sd v ok l1 l2 l3 a1 c1 a2 c2 a3 c3 W).mono fun e w2 h=>rO (V:=(fun _=>mF tr bn bd ok sn sd v false)) h)
 rw [hr] at Hri
 have ek:bY true=0:=rfl
 rw [ek] at Hri
 clear hp hw hm hr ek
 go_enter Tryz.func32,Tryz.ntmps32
 go_wp2_with fail
 refine Calls.mono (Hri.out _ Ha.out) ?_
 rintro e w1 ⟨rfl,hb1⟩
 have B1:=aj (B0.out.below hb1 B0.out.lt)
 have Hb1:=aj (Ha.out.trans (hb1.mono Ha.out.size))
 clear hb1
 have x0:=B1.out.cell 0 _ rfl
 have x1:=B1.out.cell 1 _ rfl
 have x2:=B1.out.cell 2 _ rfl
 have x3:=B1.out.cell 3 _ rfl
 have x4:=B1.out.cell 4 _ rfl
 have x5:=B1.out.cell 5 _ rfl
 have x6:=B1.out.cell 6 _ rfl
 have x7:=B1.out.cell 7 _ rfl
 have x8:=B1.out.cell 8 _ rfl
 have x9:=B1.out.cell 9 _ rfl
 have x10:=B1.out.cell 10 _ rfl
 go_wp2_with fail
 refine Calls.mono (Hth.out _ Hb1.out) ?_
 rintro e w2 ⟨A,c,rfl,hr2,hb2⟩
 have Hr2:=aj hr2
 have Hb2:=aj (Hb1.out.trans (hb2.mono Hb1.out.size))
 clear hb2 hr2
 simp only []
 go_wp2_with fail
 go_ret2
 exact mg (V:=(fun _=>mF tr bn bd ok sn sd v false)) (A:=A) (c:=c) rfl Hr2.out Hb2.out
set_option maxRecDepth 100000 in
set_option maxHeartbeats 4000000 in
theorem ahU (tr bn bd sn sd:Nat) (v:Int) (ok:Bool) (l1:List ay) (l2:List aJ) (l3:List Nat) (a1:Option Addr) (c1:Nat) (a2:Option Addr) (c2:Nat) (a3:Option Addr) (c3:Nat) (w:World) (hp:bP w ⟨6,tr,bn,bd,sn,sd,v,ok,l1,l2,l3⟩ ⟨a1,c1,a2,c2,a3,c3⟩) (hw:av.Wf ⟨6,tr,bn,bd,sn,sd,v,ok,l1,l2,l3⟩) (hm:l1.length≤1000∧l2.length≤1000∧l3.length≤1000) (hr:dF ⟨6,tr,bn,bd,sn,sd,v,ok,l1,l2,l3⟩=true) :
  Calls Tryz.prog 32 #[.agg #[.int .i64 6,.int .u64 (tr:Nat),.int .u64 (bn:Nat),.int .u64 (bd:Nat),.int .u64 (sn:Nat),.int .u64 (sd:Nat),.int .i64 v,.bool ok,.slice a1 l1.length c1,.slice a2 l2.length c2,.slice a3 l3.length c3]] w (OfP (fun _ _ _=>True) 0 (fun _=>lC tr bn bd v) w):=by
 have Ha:=aj (show Below w.heap.size w (w.alloc (.cells #[.int .i64 6,.int .u64 (tr:Nat),.int .u64 (bn:Nat),.int .u64 (bd:Nat),.int .u64 (sn:Nat),.int .u64 (sd:Nat),.int .i64 v,.bool ok,.slice a1 l1.length c1,.slice a2 l2.length c2,.slice a3 l3.length c3] 41)) from (Below.refl _ _).alloc (Nat.le_refl _) _)
 have B0:=aj (aP w 41 #[.int .i64 6,.int .u64 (tr:Nat),.int .u64 (bn:Nat),.int .u64 (bd:Nat),.int .u64 (sn:Nat),.int .u64 (sd:Nat),.int .i64 v,.bool ok,.slice a1 l1.length c1,.slice a2 l2.length c2,.slice a3 l3.length c3])
 have Hri:=aj (fun (W:World) (hb:Below w.heap.size w W)=>kS ⟨6,tr,bn,bd,sn,sd,v,ok,l1,l2,l3⟩ ⟨a1,c1,a2,c2,a3,c3⟩ W (hp.below hb) hw (by show l1.length≤_;omega))
 have Hth:=aj (fun (W:World) (hb:Below w.heap.size w W)=>show Calls Tryz.prog 63 #[.agg #[.int .i64 6,.int .u64 (tr:Nat),.int .u64 (bn:Nat),.int .u64 (bd:Nat),.int .u64 (sn:Nat),.int .u64 (sd:Nat),.int .i64 v,.bool ok,.slice a1 l1.length c1,.slice a2 l2.length c2,.slice a3 l3.length c3]] W (gT (fun _ _ _=>True) 0 (fun _=>lC tr bn bd v) W) from (alI tr bn bd sn sd v ok l1 l2 l3 a1 c1 a2 c2 a3 c3 W).mono fun e w2 h=>rO (V:=(fun _=>lC tr bn bd v)) h)
 rw [hr] at Hri
 have ek:bY true=0:=rfl
 rw [ek] at Hri
 clear hp hw hm hr ek
 go_enter Tryz.func32,Tryz.ntmps32
 go_wp2_with fail
 refine Calls.mono (Hri.out _ Ha.out) ?_
 rintro e w1 ⟨rfl,hb1⟩
 have B1:=aj (B0.out.below hb1 B0.out.lt)
 have Hb1:=aj (Ha.out.trans (hb1.mono Ha.out.size))
 clear hb1
 have x0:=B1.out.cell 0 _ rfl
 have x1:=B1.out.cell 1 _ rfl
 have x2:=B1.out.cell 2 _ rfl
 have x3:=B1.out.cell 3 _ rfl
 have x4:=B1.out.cell 4 _ rfl
 have x5:=B1.out.cell 5 _ rfl
 have x6:=B1.out.cell 6 _ rfl
 have x7:=B1.out.cell 7 _ rfl
 have x8:=B1.out.cell 8 _ rfl
 have x9:=B1.out.cell 9 _ rfl
 have x10:=B1.out.cell 10 _ rfl
 go_wp2_with fail
 refine Calls.mono (Hth.out _ Hb1.out) ?_
 rintro e w2 ⟨A,c,rfl,hr2,hb2⟩
 have Hr2:=aj hr2
 have Hb2:=aj (Hb1.out.trans (hb2.mono Hb1.out.size))
 clear hb2 hr2
 simp only []
 go_wp2_with fail
 go_ret2
 exact mg (V:=(fun _=>lC tr bn bd v)) (A:=A) (c:=c) rfl Hr2.out Hb2.out
set_option maxRecDepth 100000 in
set_option maxHeartbeats 4000000 in
theorem ahV (tr bn bd sn sd:Nat) (v:Int) (ok:Bool) (l1:List ay) (l2:List aJ) (l3:List Nat) (a1:Option Addr) (c1:Nat) (a2:Option Addr) (c2:Nat) (a3:Option Addr) (c3:Nat) (w:World) (hp:bP w ⟨7,tr,bn,bd,sn,sd,v,ok,l1,l2,l3⟩ ⟨a1,c1,a2,c2,a3,c3⟩) (hw:av.Wf ⟨7,tr,bn,bd,sn,sd,v,ok,l1,l2,l3⟩) (hm:l1.length≤1000∧l2.length≤1000∧l3.length≤1000) (hr:dF ⟨7,tr,bn,bd,sn,sd,v,ok,l1,l2,l3⟩=true) :
  Calls Tryz.prog 32 #[.agg #[.int .i64 7,.int .u64 (tr:Nat),.int .u64 (bn:Nat),.int .u64 (bd:Nat),.int .u64 (sn:Nat),.int .u64 (sd:Nat),.int .i64 v,.bool ok,.slice a1 l1.length c1,.slice a2 l2.length c2,.slice a3 l3.length c3]] w (OfP (fun _ _ _=>True) 0 (fun _=>mF tr bn bd ok sn sd v true) w):=by
 have Ha:=aj (show Below w.heap.size w (w.alloc (.cells #[.int .i64 7,.int .u64 (tr:Nat),.int .u64 (bn:Nat),.int .u64 (bd:Nat),.int .u64 (sn:Nat),.int .u64 (sd:Nat),.int .i64 v,.bool ok,.slice a1 l1.length c1,.slice a2 l2.length c2,.slice a3 l3.length c3] 41)) from (Below.refl _ _).alloc (Nat.le_refl _) _)
 have B0:=aj (aP w 41 #[.int .i64 7,.int .u64 (tr:Nat),.int .u64 (bn:Nat),.int .u64 (bd:Nat),.int .u64 (sn:Nat),.int .u64 (sd:Nat),.int .i64 v,.bool ok,.slice a1 l1.length c1,.slice a2 l2.length c2,.slice a3 l3.length c3])
 have Hri:=aj (fun (W:World) (hb:Below w.heap.size w W)=>kS ⟨7,tr,bn,bd,sn,sd,v,ok,l1,l2,l3⟩ ⟨a1,c1,a2,c2,a3,c3⟩ W (hp.below hb) hw (by show l1.length≤_;omega))
 have Hth:=aj (fun (W:World) (hb:Below w.heap.size w W)=>show Calls Tryz.prog 63 #[.agg #[.int .i64 7,.int .u64 (tr:Nat),.int .u64 (bn:Nat),.int .u64 (bd:Nat),.int .u64 (sn:Nat),.int .u64 (sd:Nat),.int .i64 v,.bool ok,.slice a1 l1.length c1,.slice a2 l2.length c2,.slice a3 l3.length c3]] W (gT (fun _ _ _=>True) 0 (fun _=>mF tr bn bd ok sn sd v true) W) from (alJ tr bn bd sn sd v ok l1 l2 l3 a1 c1 a2 c2 a3 c3 W).mono fun e w2 h=>rO (V:=(fun _=>mF tr bn bd ok sn sd v true)) h)
 rw [hr] at Hri
 have ek:bY true=0:=rfl
 rw [ek] at Hri
 clear hp hw hm hr ek
 go_enter Tryz.func32,Tryz.ntmps32
 go_wp2_with fail
 refine Calls.mono (Hri.out _ Ha.out) ?_
 rintro e w1 ⟨rfl,hb1⟩
 have B1:=aj (B0.out.below hb1 B0.out.lt)
 have Hb1:=aj (Ha.out.trans (hb1.mono Ha.out.size))
 clear hb1
 have x0:=B1.out.cell 0 _ rfl
 have x1:=B1.out.cell 1 _ rfl
 have x2:=B1.out.cell 2 _ rfl
 have x3:=B1.out.cell 3 _ rfl
 have x4:=B1.out.cell 4 _ rfl
 have x5:=B1.out.cell 5 _ rfl
 have x6:=B1.out.cell 6 _ rfl
 have x7:=B1.out.cell 7 _ rfl
 have x8:=B1.out.cell 8 _ rfl
 have x9:=B1.out.cell 9 _ rfl
 have x10:=B1.out.cell 10 _ rfl
 go_wp2_with fail
 refine Calls.mono (Hth.out _ Hb1.out) ?_
 rintro e w2 ⟨A,c,rfl,hr2,hb2⟩
 have Hr2:=aj hr2
 have Hb2:=aj (Hb1.out.trans (hb2.mono Hb1.out.size))
 clear hb2 hr2
 simp only []
 go_wp2_with fail
 go_ret2
 exact mg (V:=(fun _=>mF tr bn bd ok sn sd v true)) (A:=A) (c:=c) rfl Hr2.out Hb2.out
set_option maxRecDepth 100000 in
set_option maxHeartbeats 4000000 in
theorem ahW (tr bn bd sn sd:Nat) (v:Int) (ok:Bool) (l1:List ay) (l2:List aJ) (l3:List Nat) (a1:Option Addr) (c1:Nat) (a2:Option Addr) (c2:Nat) (a3:Option Addr) (c3:Nat) (w:World) (hp:bP w ⟨8,tr,bn,bd,sn,sd,v,ok,l1,l2,l3⟩ ⟨a1,c1,a2,c2,a3,c3⟩) (hw:av.Wf ⟨8,tr,bn,bd,sn,sd,v,ok,l1,l2,l3⟩) (hm:l1.length≤1000∧l2.length≤1000∧l3.length≤1000) (hr:dF ⟨8,tr,bn,bd,sn,sd,v,ok,l1,l2,l3⟩=true) :
  Calls Tryz.prog 32 #[.agg #[.int .i64 8,.int .u64 (tr:Nat),.int .u64 (bn:Nat),.int .u64 (bd:Nat),.int .u64 (sn:Nat),.int .u64 (sd:Nat),.int .i64 v,.bool ok,.slice a1 l1.length c1,.slice a2 l2.length c2,.slice a3 l3.length c3]] w (OfP (fun _ _ _=>True) 0 (fun _=>sQ tr v) w):=by
 have Ha:=aj (show Below w.heap.size w (w.alloc (.cells #[.int .i64 8,.int .u64 (tr:Nat),.int .u64 (bn:Nat),.int .u64 (bd:Nat),.int .u64 (sn:Nat),.int .u64 (sd:Nat),.int .i64 v,.bool ok,.slice a1 l1.length c1,.slice a2 l2.length c2,.slice a3 l3.length c3] 41)) from (Below.refl _ _).alloc (Nat.le_refl _) _)
 have B0:=aj (aP w 41 #[.int .i64 8,.int .u64 (tr:Nat),.int .u64 (bn:Nat),.int .u64 (bd:Nat),.int .u64 (sn:Nat),.int .u64 (sd:Nat),.int .i64 v,.bool ok,.slice a1 l1.length c1,.slice a2 l2.length c2,.slice a3 l3.length c3])
 have Hri:=aj (fun (W:World) (hb:Below w.heap.size w W)=>kS ⟨8,tr,bn,bd,sn,sd,v,ok,l1,l2,l3⟩ ⟨a1,c1,a2,c2,a3,c3⟩ W (hp.below hb) hw (by show l1.length≤_;omega))
 have Hth:=aj (fun (W:World) (hb:Below w.heap.size w W)=>show Calls Tryz.prog 63 #[.agg #[.int .i64 8,.int .u64 (tr:Nat),.int .u64 (bn:Nat),.int .u64 (bd:Nat),.int .u64 (sn:Nat),.int .u64 (sd:Nat),.int .i64 v,.bool ok,.slice a1 l1.length c1,.slice a2 l2.length c2,.slice a3 l3.length c3]] W (gT (fun _ _ _=>True) 0 (fun _=>sQ tr v) W) from (alK tr bn bd sn sd v ok l1 l2 l3 a1 c1 a2 c2 a3 c3 W).mono fun e w2 h=>rO (V:=(fun _=>sQ tr v)) h)
 rw [hr] at Hri
 have ek:bY true=0:=rfl
 rw [ek] at Hri
 clear hp hw hm hr ek
 go_enter Tryz.func32,Tryz.ntmps32
 go_wp2_with fail
 refine Calls.mono (Hri.out _ Ha.out) ?_
 rintro e w1 ⟨rfl,hb1⟩
 have B1:=aj (B0.out.below hb1 B0.out.lt)
 have Hb1:=aj (Ha.out.trans (hb1.mono Ha.out.size))
 clear hb1
 have x0:=B1.out.cell 0 _ rfl
 have x1:=B1.out.cell 1 _ rfl
 have x2:=B1.out.cell 2 _ rfl
 have x3:=B1.out.cell 3 _ rfl
 have x4:=B1.out.cell 4 _ rfl
 have x5:=B1.out.cell 5 _ rfl
 have x6:=B1.out.cell 6 _ rfl
 have x7:=B1.out.cell 7 _ rfl
 have x8:=B1.out.cell 8 _ rfl
 have x9:=B1.out.cell 9 _ rfl
 have x10:=B1.out.cell 10 _ rfl
 go_wp2_with fail
 refine Calls.mono (Hth.out _ Hb1.out) ?_
 rintro e w2 ⟨A,c,rfl,hr2,hb2⟩
 have Hr2:=aj hr2
 have Hb2:=aj (Hb1.out.trans (hb2.mono Hb1.out.size))
 clear hb2 hr2
 simp only []
 go_wp2_with fail
 go_ret2
 exact mg (V:=(fun _=>sQ tr v)) (A:=A) (c:=c) rfl Hr2.out Hb2.out
set_option maxRecDepth 100000 in
set_option maxHeartbeats 4000000 in
theorem ahX (tr bn bd sn sd:Nat) (v:Int) (ok:Bool) (l1:List ay) (l2:List aJ) (l3:List Nat) (a1:Option Addr) (c1:Nat) (a2:Option Addr) (c2:Nat) (a3:Option Addr) (c3:Nat) (w:World) (hp:bP w ⟨9,tr,bn,bd,sn,sd,v,ok,l1,l2,l3⟩ ⟨a1,c1,a2,c2,a3,c3⟩) (hw:av.Wf ⟨9,tr,bn,bd,sn,sd,v,ok,l1,l2,l3⟩) (hm:l1.length≤1000∧l2.length≤1000∧l3.length≤1000) (hr:dF ⟨9,tr,bn,bd,sn,sd,v,ok,l1,l2,l3⟩=true) (hne:l1≠[]) :
  Calls Tryz.prog 32 #[.agg #[.int .i64 9,.int .u64 (tr:Nat),.int .u64 (bn:Nat),.int .u64 (bd:Nat),.int .u64 (sn:Nat),.int .u64 (sd:Nat),.int .i64 v,.bool ok,.slice a1 l1.length c1,.slice a2 l2.length c2,.slice a3 l3.length c3]] w (OfP (fun w2 A c=>bW w2 A l1.length c l1) l1.length (fun x => .iface 177 (.agg #[.int .u64 (tr:Nat),.int .u64 (bn:Nat),.int .u64 (bd:Nat),x])) w):=by
 have Ha:=aj (show Below w.heap.size w (w.alloc (.cells #[.int .i64 9,.int .u64 (tr:Nat),.int .u64 (bn:Nat),.int .u64 (bd:Nat),.int .u64 (sn:Nat),.int .u64 (sd:Nat),.int .i64 v,.bool ok,.slice a1 l1.length c1,.slice a2 l2.length c2,.slice a3 l3.length c3] 41)) from (Below.refl _ _).alloc (Nat.le_refl _) _)
 have B0:=aj (aP w 41 #[.int .i64 9,.int .u64 (tr:Nat),.int .u64 (bn:Nat),.int .u64 (bd:Nat),.int .u64 (sn:Nat),.int .u64 (sd:Nat),.int .i64 v,.bool ok,.slice a1 l1.length c1,.slice a2 l2.length c2,.slice a3 l3.length c3])
 have Hri:=aj (fun (W:World) (hb:Below w.heap.size w W)=>kS ⟨9,tr,bn,bd,sn,sd,v,ok,l1,l2,l3⟩ ⟨a1,c1,a2,c2,a3,c3⟩ W (hp.below hb) hw (by show l1.length≤_;omega))
 have Hth:=aj (fun (W:World) (hb:Below w.heap.size w W)=>show Calls Tryz.prog 63 #[.agg #[.int .i64 9,.int .u64 (tr:Nat),.int .u64 (bn:Nat),.int .u64 (bd:Nat),.int .u64 (sn:Nat),.int .u64 (sd:Nat),.int .i64 v,.bool ok,.slice a1 l1.length c1,.slice a2 l2.length c2,.slice a3 l3.length c3]] W (gT (fun w2 A c=>bW w2 A l1.length c l1) l1.length (fun x => .iface 177 (.agg #[.int .u64 (tr:Nat),.int .u64 (bn:Nat),.int .u64 (bd:Nat),x])) W) from alL tr bn bd sn sd v ok l1 l2 l3 a1 c1 a2 c2 a3 c3 W (hp.below hb).r1 (by omega) hne)
 rw [hr] at Hri
 have ek:bY true=0:=rfl
 rw [ek] at Hri
 clear hp hw hm hr ek hne
 go_enter Tryz.func32,Tryz.ntmps32
 go_wp2_with fail
 refine Calls.mono (Hri.out _ Ha.out) ?_
 rintro e w1 ⟨rfl,hb1⟩
 have B1:=aj (B0.out.below hb1 B0.out.lt)
 have Hb1:=aj (Ha.out.trans (hb1.mono Ha.out.size))
 clear hb1
 have x0:=B1.out.cell 0 _ rfl
 have x1:=B1.out.cell 1 _ rfl
 have x2:=B1.out.cell 2 _ rfl
 have x3:=B1.out.cell 3 _ rfl
 have x4:=B1.out.cell 4 _ rfl
 have x5:=B1.out.cell 5 _ rfl
 have x6:=B1.out.cell 6 _ rfl
 have x7:=B1.out.cell 7 _ rfl
 have x8:=B1.out.cell 8 _ rfl
 have x9:=B1.out.cell 9 _ rfl
 have x10:=B1.out.cell 10 _ rfl
 go_wp2_with fail
 refine Calls.mono (Hth.out _ Hb1.out) ?_
 rintro e w2 ⟨A,c,rfl,hr2,hb2⟩
 have Hr2:=aj hr2
 have Hb2:=aj (Hb1.out.trans (hb2.mono Hb1.out.size))
 clear hb2 hr2
 simp only []
 go_wp2_with fail
 go_ret2
 exact mg (V:=(fun x => .iface 177 (.agg #[.int .u64 (tr:Nat),.int .u64 (bn:Nat),.int .u64 (bd:Nat),x]))) (A:=A) (c:=c) rfl Hr2.out Hb2.out
set_option maxRecDepth 100000 in
set_option maxHeartbeats 4000000 in
theorem ahO (tr bn bd sn sd:Nat) (v:Int) (ok:Bool) (l1:List ay) (l2:List aJ) (l3:List Nat) (a1:Option Addr) (c1:Nat) (a2:Option Addr) (c2:Nat) (a3:Option Addr) (c3:Nat) (w:World) (hp:bP w ⟨10,tr,bn,bd,sn,sd,v,ok,l1,l2,l3⟩ ⟨a1,c1,a2,c2,a3,c3⟩) (hw:av.Wf ⟨10,tr,bn,bd,sn,sd,v,ok,l1,l2,l3⟩) (hm:l1.length≤1000∧l2.length≤1000∧l3.length≤1000) (hr:dF ⟨10,tr,bn,bd,sn,sd,v,ok,l1,l2,l3⟩=true) (hne:l3≠[]) :
  Calls Tryz.prog 32 #[.agg #[.int .i64 10,.int .u64 (tr:Nat),.int .u64 (bn:Nat),.int .u64 (bd:Nat),.int .u64 (sn:Nat),.int .u64 (sd:Nat),.int .i64 v,.bool ok,.slice a1 l1.length c1,.slice a2 l2.length c2,.slice a3 l3.length c3]] w (OfP (fun w2 A c=>Row w2 A l3.length c (eG l3)) l3.length (fun x => .iface 180 (.agg #[.int .u64 (tr:Nat),x])) w):=by
 have Ha:=aj (show Below w.heap.size w (w.alloc (.cells #[.int .i64 10,.int .u64 (tr:Nat),.int .u64 (bn:Nat),.int .u64 (bd:Nat),.int .u64 (sn:Nat),.int .u64 (sd:Nat),.int .i64 v,.bool ok,.slice a1 l1.length c1,.slice a2 l2.length c2,.slice a3 l3.length c3] 41)) from (Below.refl _ _).alloc (Nat.le_refl _) _)
 have B0:=aj (aP w 41 #[.int .i64 10,.int .u64 (tr:Nat),.int .u64 (bn:Nat),.int .u64 (bd:Nat),.int .u64 (sn:Nat),.int .u64 (sd:Nat),.int .i64 v,.bool ok,.slice a1 l1.length c1,.slice a2 l2.length c2,.slice a3 l3.length c3])
 have Hri:=aj (fun (W:World) (hb:Below w.heap.size w W)=>kS ⟨10,tr,bn,bd,sn,sd,v,ok,l1,l2,l3⟩ ⟨a1,c1,a2,c2,a3,c3⟩ W (hp.below hb) hw (by show l1.length≤_;omega))
 have Hth:=aj (fun (W:World) (hb:Below w.heap.size w W)=>show Calls Tryz.prog 63 #[.agg #[.int .i64 10,.int .u64 (tr:Nat),.int .u64 (bn:Nat),.int .u64 (bd:Nat),.int .u64 (sn:Nat),.int .u64 (sd:Nat),.int .i64 v,.bool ok,.slice a1 l1.length c1,.slice a2 l2.length c2,.slice a3 l3.length c3]] W (gT (fun w2 A c=>Row w2 A l3.length c (eG l3)) l3.length (fun x => .iface 180 (.agg #[.int .u64 (tr:Nat),x])) W) from alC tr bn bd sn sd v ok l1 l2 l3 a1 c1 a2 c2 a3 c3 W (hp.below hb).r3 (by omega) hne)
 rw [hr] at Hri
 have ek:bY true=0:=rfl
 rw [ek] at Hri
 clear hp hw hm hr ek hne
 go_enter Tryz.func32,Tryz.ntmps32
 go_wp2_with fail
 refine Calls.mono (Hri.out _ Ha.out) ?_
 rintro e w1 ⟨rfl,hb1⟩
 have B1:=aj (B0.out.below hb1 B0.out.lt)
 have Hb1:=aj (Ha.out.trans (hb1.mono Ha.out.size))
 clear hb1
 have x0:=B1.out.cell 0 _ rfl
 have x1:=B1.out.cell 1 _ rfl
 have x2:=B1.out.cell 2 _ rfl
 have x3:=B1.out.cell 3 _ rfl
 have x4:=B1.out.cell 4 _ rfl
 have x5:=B1.out.cell 5 _ rfl
 have x6:=B1.out.cell 6 _ rfl
 have x7:=B1.out.cell 7 _ rfl
 have x8:=B1.out.cell 8 _ rfl
 have x9:=B1.out.cell 9 _ rfl
 have x10:=B1.out.cell 10 _ rfl
 go_wp2_with fail
 refine Calls.mono (Hth.out _ Hb1.out) ?_
 rintro e w2 ⟨A,c,rfl,hr2,hb2⟩
 have Hr2:=aj hr2
 have Hb2:=aj (Hb1.out.trans (hb2.mono Hb1.out.size))
 clear hb2 hr2
 simp only []
 go_wp2_with fail
 go_ret2
 exact mg (V:=(fun x => .iface 180 (.agg #[.int .u64 (tr:Nat),x]))) (A:=A) (c:=c) rfl Hr2.out Hb2.out
end Go.Proofs.YtpcmlopbkehffaaGreat
