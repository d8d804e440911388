/-
  Registers of traces in a rising list, and records of them: plain mathematics.
-/
import Derived.Test.YtpcmlopbkehffaaGreatOGAC
import Derived.Test.YtpcmlopbkehffaaGreatOGAD
import Derived.Test.YtpcmlopbkehffaaGreatOGAG
import Derived.Test.YtpcmlopbkehffaaGreatOGAN
import Derived.StillTailTactics
import Derived.Deep.CutRange
set_option linter.unusedSimpArgs false
set_option linter.unusedVariables false
namespace Go.Proofs.YtpcmlopbkehffaaGreat
open Go.RowKit Rg Bl Re Wl
namespace Rp
structure au where
 trace:Nat
 r : aF
instance:Inhabited au:=⟨⟨0,bK⟩⟩
def aA:List au→Nat→aF
 | [],_=>bK
 | o::l,t=>if o.trace=t then o.r else aA l t
def bJ:List au→Nat→aF→List au
 | [],t,r=>[⟨t,r⟩]
 | o::l,t,r=>if o.trace<t then o::bJ l t r else if o.trace=t then ⟨t,r⟩::l else ⟨t,r⟩::o::l
def dS (R:List au):Prop:=R.Pairwise (fun a b=>a.trace<b.trace)
theorem uq {R:List au} {t:Nat} (h:∀ o∈R,t<o.trace):aA R t=bK:=by
 induction R with
 | nil=>rfl
 | cons o l ih =>
   have:=h o (by simp)
   unfold aA
   rw [if_neg (by omega)]
   exact ih (fun x hx=>h x (by simp [hx]))
theorem xZ {R:List au} {t:Nat} {r:aF} {o:au} (h:o∈bJ R t r):o=⟨t,r⟩∨o∈R:=by
 induction R with
 | nil=>simpa [bJ] using h
 | cons x l ih =>
   unfold bJ at h
   split at h
   ·rcases List.mem_cons.1 h with h1 | h1
    ·exact .inr (by simp [h1])
    ·rcases ih h1 with h2 | h2
     ·exact .inl h2
     ·exact .inr (by simp [h2])
   ·split at h
    ·rcases List.mem_cons.1 h with h1 | h1
     ·exact .inl h1
     ·exact .inr (by simp [h1])
    ·rcases List.mem_cons.1 h with h1 | h1
     ·exact .inl h1
     ·exact .inr h1
theorem dS.put {R:List au} (h:dS R) (t:Nat) (r:aF):dS (bJ R t r):=by
 induction R with
 | nil=>exact List.pairwise_singleton _ _
 | cons o l ih =>
   obtain ⟨h1,h2⟩:=List.pairwise_cons.1 h
   unfold bJ
   split
   ·refine List.pairwise_cons.2 ⟨fun x hx=>?_,ih h2⟩
    rcases xZ hx with rfl | hx
    ·assumption
    ·exact h1 x hx
   ·split
    ·exact List.pairwise_cons.2 ⟨fun x hx=>by have:=h1 x hx;show t<x.trace;omega,h2⟩
    ·refine List.pairwise_cons.2 ⟨fun x hx=>?_,h⟩
     show t<x.trace
     rcases List.mem_cons.1 hx with rfl | hx
     ·omega
     ·have:=h1 x hx;omega
theorem get_put {R:List au} (h:dS R) (t:Nat) (r:aF) (u:Nat):aA (bJ R t r) u=if t=u then r else aA R u:=by
 induction R with
 | nil=>rfl
 | cons o l ih =>
   obtain ⟨h1,h2⟩:=List.pairwise_cons.1 h
   unfold bJ
   split
   ·unfold aA
    rw [ih h2]
    by_cases e:o.trace=u
    ·rw [if_pos e,if_neg (by omega),if_pos e]
    ·rw [if_neg e,if_neg e]
   ·split
    ·rename_i e
     by_cases e2:t=u
     ·rw [aA,if_pos e2,if_pos e2]
     ·rw [aA,if_neg e2,if_neg e2,aA,if_neg (by omega)]
    ·rw [aA]
theorem acf (R:List au) (t:Nat) (r:aF):(bJ R t r).length≤R.length+1:=by
 induction R with
 | nil=>exact Nat.le_refl _
 | cons o l ih =>
   unfold bJ
   split
   ·rw [List.length_cons,List.length_cons];omega
   ·split
    ·rw [List.length_cons,List.length_cons];omega
    ·rw [List.length_cons];exact Nat.le_refl _
def fA (R:List au):Prop:=∀ o∈R,o.r≠bK
theorem get_mem {R:List au} (h:dS R) {o:au} (ho:o∈R):aA R o.trace=o.r:=by
 induction R with
 | nil=>cases ho
 | cons x l ih =>
   obtain ⟨h1,h2⟩:=List.pairwise_cons.1 h
   rcases List.mem_cons.1 ho with rfl | ho
   ·rw [aA,if_pos rfl]
   ·have:=h1 o ho
    rw [aA,if_neg (by omega)]
    exact ih h2 ho
theorem uX:∀ {R S:List au},dS R→dS S→fA R→fA S→(∀ t,aA R t=aA S t)→R=S
 | [],[],_,_,_,_,_=>rfl
 | [],s::S,_,hs,_,zs,h=>by
   have h1:=h s.trace
   rw [get_mem hs (by simp)] at h1
   exact absurd h1.symm (zs s (by simp))
 | r :: R,[],hr,_,zr,_,h=>by
   have h1:=h r.trace
   rw [get_mem hr (by simp)] at h1
   exact absurd h1 (zr r (by simp))
 | r :: R,s::S,hr,hs,zr,zs,h=>by
   obtain ⟨r1,r2⟩:=List.pairwise_cons.1 hr
   obtain ⟨s1,s2⟩:=List.pairwise_cons.1 hs
   have e:r.trace=s.trace:=by
    rcases Nat.lt_trichotomy r.trace s.trace with hlt | he | hlt
    ·have h1:=h r.trace
     rw [get_mem hr (by simp),uq (fun o ho=>by rcases List.mem_cons.1 ho with rfl | ho;exact hlt;have:=s1 o ho;omega)] at h1
     exact absurd h1 (zr r (by simp))
    ·exact he
    ·have h1:=h s.trace
     rw [get_mem hs (by simp),uq (fun o ho=>by rcases List.mem_cons.1 ho with rfl | ho;exact hlt;have:=r1 o ho;omega)] at h1
     exact absurd h1.symm (zs s (by simp))
   have hreg:r.r=s.r:=by
    have h1:=h r.trace
    rw [get_mem hr (by simp),e,get_mem hs (by simp)] at h1
    exact h1
   have ht:R=S:=uX r2 s2 (fun o ho=>zr o (by simp [ho])) (fun o ho=>zs o (by simp [ho])) (fun t=>by
    have h1:=h t
    by_cases e2:r.trace=t
    ·rw [uq (fun o ho=>by have:=r1 o ho;omega),uq (fun o ho=>by have:=s1 o ho;omega)]
    ·rw [aA,if_neg e2,aA,if_neg (by omega)] at h1
     exact h1)
   obtain ⟨a,b⟩:=r
   obtain ⟨c,d⟩:=s
   simp only at e hreg
   subst e hreg ht
   rfl
theorem fA.put {R:List au} (h:fA R) (t:Nat) {r:aF} (hr:r≠bK):fA (bJ R t r):=fun o ho=>by
 rcases xZ ho with rfl | ho
 ·exact hr
 ·exact h o ho
def jq (t:Nat) (r:aF):List Nat:=[t,r.p.pos,r.p.id,r.t.pos,r.t.id]
def jd (t:Nat) (r:aF):List UInt8:=aG t++(aG r.p.pos++(aG r.p.id++(aG r.t.pos++(aG r.t.id++[UInt8.ofNat r.v.toNat]))))
theorem yZ (t:Nat) (r:aF):(jd t r).length=41:=by
 unfold jd
 simp only [List.length_append,jR,List.length_singleton]
def iP (t:Nat) (r:aF) (i:Nat):List UInt8:=((jq t r).take i).flatMap aG
theorem ajo (t:Nat) (r:aF):iP t r 5++[UInt8.ofNat r.v.toNat]=jd t r:=by
 unfold iP jd jq
 simp
structure au.Ok (o:au):Prop where
 t0:0<o.trace
 t1:o.trace<18446744073709551616
 p1:o.r.p.pos<18446744073709551616
 p2:o.r.p.id<18446744073709551616
 q1:o.r.t.pos<18446744073709551616
 q2:o.r.t.id<18446744073709551616
 right:kg o.r=true
 nz:o.r≠bK
theorem adt {r:aF} (h:kg r=true):0≤r.v∧r.v≤3:=by
 obtain ⟨-,h1,h2⟩:=(uV r).1 h
 by_cases e:r.t=⟨0,0⟩
 ·have:=h1 e;omega
 ·have:=h2 e;omega
def nT (b:List UInt8) (i:Nat):Nat:=numOf ((b.drop (8*i)).take 8)
theorem ahD {o:au} (h:o.Ok):nT (jd o.trace o.r) 0=o.trace∧nT (jd o.trace o.r) 1=o.r.p.pos∧nT (jd o.trace o.r) 2=o.r.p.id∧nT (jd o.trace o.r) 3=o.r.t.pos∧nT (jd o.trace o.r) 4=o.r.t.id∧(jd o.trace o.r)[40]? = some (UInt8.ofNat o.r.v.toNat):=by
 have hl:=jR
 have e:∀ (n:Nat) (t:List UInt8),(aG n++t).take 8=aG n:=fun n t=>List.take_left' (hl n)
 have d:∀ (n:Nat) (t:List UInt8) (k:Nat),(aG n++t).drop (8+k)=t.drop k:=fun n t k=>by
  rw [← List.drop_drop,List.drop_left' (hl n)]
 have g:∀ (n:Nat) (t:List UInt8) (k:Nat),(aG n++t)[8+k]? = t[k]? := fun n t k=>by
  rw [List.getElem?_append_right (by rw [hl];omega),hl,Nat.add_sub_cancel_left]
 unfold nT jd
 refine ⟨?_,?_,?_,?_,?_,?_⟩
 ·rw [show 8*0=0 by omega,List.drop_zero,e,mW h.t1]
 ·rw [show 8*1=8+0 by omega,d,List.drop_zero,e,mW h.p1]
 ·rw [show 8*2=8+(8+0) by omega,d,d,List.drop_zero,e,mW h.p2]
 ·rw [show 8*3=8+(8+(8+0)) by omega,d,d,d,List.drop_zero,e,mW h.q1]
 ·rw [show 8*4=8+(8+(8+(8+0))) by omega,d,d,d,d,List.drop_zero,e,mW h.q2]
 ·rw [show (40:Nat)=8+(8+(8+(8+(8+0)))) by omega,g,g,g,g,g]
  rfl
def aU (o:au):List UInt8:=jd o.trace o.r
def bN (R:List au) (os:List au):List au:=os.foldl (fun R o=>bJ R o.trace o.r) R
theorem zS (R os:List au) (o:au):bN R (os++[o])=bJ (bN R os) o.trace o.r:=by unfold bN;rw [List.foldl_append];rfl
theorem zR (R a b:List au):bN R (a++b)=bN (bN R a) b:=by unfold bN;rw [List.foldl_append]
theorem dS.told {R:List au} (h:dS R):∀ os,dS (bN R os)
 | []=>h
 | o::os=>dS.told (h.put o.trace o.r) os
theorem fA.told {R:List au} (h:fA R):∀ os,(∀ o∈os,o.r≠bK)→fA (bN R os)
 | [],_=>h
 | o::os,k=>fA.told (h.put o.trace (k o (by simp))) os (fun x hx=>k x (by simp [hx]))
theorem ad4 (R:List au):∀ os,(bN R os).length≤R.length+os.length
 | []=>Nat.le_refl _
 | o :: os=>by
   have h1:=ad4 (bJ R o.trace o.r) os
   have h2:=acf R o.trace o.r
   show (bN (bJ R o.trace o.r) os).length≤_
   rw [List.length_cons]
   omega
theorem acu {R:List au} {o:au} : ∀ os,o∈bN R os→o∈os∨o∈R
 | [],h => .inr h
 | x :: os,h=>by
   rcases acu os (show o∈bN (bJ R x.trace x.r) os from h) with h1 | h1
   ·exact .inl (by simp [h1])
   ·rcases xZ h1 with rfl | h1
    ·left;cases x;simp
    ·exact .inr h1
theorem abW {R:List au} (h:dS R) (t:Nat):∀ l:List au,aA (bN R l.reverse) t=match l.find? (fun o=>o.trace=t) with | some o=>o.r | none=>aA R t
 | []=>rfl
 | o :: l=>by
   rw [List.reverse_cons,zS,get_put (h.told _)]
   by_cases e:o.trace=t
   ·rw [if_pos e,List.find?_cons_of_pos (by simpa using e)]
   ·rw [if_neg e,List.find?_cons_of_neg (by simpa using e)]
    exact abW h t l
theorem uw {R:List au} (h:dS R) (t:Nat) (os:List au):aA (bN R os) t=match os.reverse.find? (fun o=>o.trace=t) with | some o=>o.r | none=>aA R t:=by
 have:=abW h t os.reverse
 rwa [List.reverse_reverse] at this
end Rp
end Go.Proofs.YtpcmlopbkehffaaGreat
namespace Go.Proofs.YtpcmlopbkehffaaGreat
open Go.RowKit Dsk Wl
namespace Rp
def ou (F G:Files) (l:List Nat):Prop:=∀ j,G j=if j∈l then some ⟨(fileAt F j).all,0⟩ else none
theorem alS {F G:Files} {l:List Nat} (h:ou F G l) (j:Nat):bV G j≤bV F j:=by
 unfold bV
 rw [h j]
 split
 ·rename_i f hf
  split at hf
  ·injection hf with hf
   subst hf
   simp only
   unfold fileAt
   cases F j <;> simp
  ·cases hf
 ·exact Nat.zero_le _
theorem al1 {F G:Files} (h:∀ j,bV G j≤bV F j):bR G≤bR F:=by
 have:∀ n,dV (fun _=>true) G n≤dV (fun _=>true) F n:=by
  intro n
  induction n with
  | zero=>exact Nat.le_refl _
  | succ n ih=>rw [dV,dV];have:=h n;simp only [if_true];omega
 exact this 64
theorem ou.lay {F G:Files} {l:List Nat} (h:ou F G l) {j:Nat} (hj:j ∉ l):ou F (cO G j (fileAt F j).all) (l++[j]):=by
 intro i
 have hG:fileAt G j=⟨[],0⟩:=by unfold fileAt;rw [h j,if_neg hj]
 unfold cO
 rw [hG,List.nil_append]
 by_cases e:i=j
 ·subst e
  rw [eX,if_pos (by simp)]
 ·rw [cZ _ _ e,h i]
  by_cases e2:i∈l
  ·rw [if_pos e2,if_pos (by simp [e2])]
  ·rw [if_neg e2,if_neg (by simp [e2,e])]
structure aep (w:World) (d:ak) (e:Ending) (w':World):Prop where
 out:∃ g Q d2,e = .returned (.pointer (some ⟨g,0,none⟩))∧Dk w' g Q d2∧(∀ q,Q q→w.heap.size≤q)∧d2.down=false∧∀ j,d2.F j=(d.F j).map (fun f=>⟨f.all,0⟩)
 below:Below w.heap.size w w'
theorem xX {F:Files} {j:Nat} : j∈dW F ↔ j<64∧(F j).isSome=true:=xY
theorem alR {d:ak} {G:Files} (hd:DOk d) (h:ou d.F G (dW d.F)) (j:Nat):G j=(d.F j).map (fun f=>⟨f.all,0⟩):=by
 rw [h j]
 rcases hf:d.F j with _ | f
 ·rw [if_neg (fun hm=>by have:=(xX.1 hm).2;rw [hf] at this;cases this)]
  rfl
 ·have hj:j<64:=by
   rcases Nat.lt_or_ge j 64 with h1 | h1
   ·exact h1
   ·rw [hd.high j h1] at hf;cases hf
  rw [if_pos (xX.2 ⟨hj,by rw [hf];rfl⟩),gG hf]
  rfl
theorem kH {B n c:Nat} {w:World} {A:Option Addr} {l:List Nat} (h:eY 3 B w A n c (jW l)):(∀ k,aB A=some k→B≤k)∧∀ i (hi:i<l.length),∃ b,A=some ⟨b,0,none⟩∧w.cell? ⟨b,i,none⟩=some (.int .i64 (l[i]:Nat)):=by
 have hr:=h.row
 have hf:=h.from_
 refine ⟨fun k hk=>(hf k (by rw [fT];exact hk)).1,fun i hi=>?_⟩
 obtain ⟨hx,⟨e',h0⟩ | ⟨g,cap,cur,e',-⟩⟩:=h
 ·have:=hr.len
  simp [jW] at this
  omega
 ·injection e' with e1
  obtain ⟨b,off,e2,hc⟩:=hr.at_ (k:=i) (by simpa [jW] using hi)
  refine ⟨g,e1,?_⟩
  rw [e1] at e2
  injection e2 with e2
  injection e2 with e3 e4
  subst e3 e4
  rw [Nat.zero_add] at hc
  rw [hc]
  simp [jW]
set_option maxRecDepth 20000 in
set_option maxHeartbeats 8000000 in
theorem alQ (gd:Nat) (Qd:Nat→Prop) (d:ak) (w:World) (hd:Dk w gd Qd d) (hup:d.down=false):Calls Tryz.prog 27 #[.pointer (some ⟨gd,0,none⟩)] w (aep w d):=by
 have HDn:=aj (oG gd Qd d w hd)
 rw [hup] at HDn
 have HD:=aj hd
 have HOk:=aj hd.ok
 have HNw:=aj (yj 1048576 (by decide) (by decide) w)
 rw [show ((1048576:Nat):Int)=1048576 from rfl] at HNw
 have HU:=aj hup
 clear hd hup
 go_enter Tryz.func27,Tryz.ntmps27
 go_wp2_with fail
 (with_reducible refine Calls.mono HDn.out ?_)
 rintro e w1 ⟨rfl,rfl⟩
 go_wp2_with fail
 (with_reducible refine Calls.mono HNw.out ?_)
 rintro e w2 ⟨rfl,hk,hb⟩
 have HB2:=aj hb
 have HK2:=aj hk
 have HFi:=aj (qW gd Qd d w2 (HD.out.below hb))
 unfold mI at HFi
 have hlen:=xu d.F
 clear hk hb
 go_wp2_with fail
 (with_reducible refine Calls.mono HFi.out ?_)
 rintro e w3 ⟨A,c,rfl,ho,hb⟩
 have HB3:=aj (HB2.out.trans (hb.mono HB2.out.size))
 have HK3:=aj (HK2.out.below hb)
 have HO:=aj ho
 have hcap:=ho.row.cap
 have hmx:=ho.row.max
 obtain ⟨g2,hg2⟩:∃ g2,g2=w.heap.size:=⟨_,rfl⟩
 have HG2:=aj hg2
 rw [← hg2] at HK3 ⊢
 obtain ⟨l,hl⟩:∃ l,l=dW d.F:=⟨_,rfl⟩
 have HL:=aj hl
 have HNd:=aj (show l.Nodup by rw [hl];exact (yQ d.F 64).imp (fun h=>Nat.ne_of_lt h))
 rw [← hl] at HO hlen hcap ⊢
 have HLn:=aj hlen
 have HOl:=aj (show eY 3 w2.heap.size w3 A l.length c (jW l) from HO.out)
 clear ho hb hg2 hl HO
 go_wp2_with fail
 go_loopw [23] (fun vi wr=>∃ (i:Nat) (G:Files) (Q:Nat→Prop),i≤l.length∧vi = .int .i64 (i:Nat)∧Hid (Dk wr g2 Q ⟨1048576,G,false,0,false⟩∧(∀ q,Q q→w.heap.size≤q)∧∀ k,aB A=some k→¬ Q k)∧Hid (ou d.F G (l.take i))∧Hid (Below w.heap.size w wr)∧Hid (Tn (fun q=>aB A≠some q∧w.heap.size≤q) w3 wr)) (fun vi _=>l.length-(intOf vi).toNat)
 case atStart=>exact ⟨0,noF,_,Nat.zero_le _,rfl,aj ⟨HK3.out,fun q hq=>by rw [hq,HG2.out];exact Nat.le_refl _,fun k hk hq=>by have:=(kH HOl.out).1 k hk;have:=HB2.out.size;have:=HK2.out.qlt _ rfl;have:=HG2.out;omega⟩,aj (fun j=>by rw [List.take_zero,if_neg (by simp)];rfl),HB3,aj (Tn.refl _ _)⟩
 case round =>
  obtain ⟨i,G,Q,hi,rfl,HS,HT,HB,HTn⟩:=hrel
  have x5:(l.length:Int)≤64:=by have:=HLn.out;omega
  by_cases hlt:i<l.length
  ·obtain ⟨b,hA,hc⟩:=(kH HOl.out).2 i hlt
   subst hA
   have hcell:=oz hc HTn.out (fun hq=>hq.1 rfl)
   have hmem:l[i]∈dW d.F:=by rw [← HL.out];exact List.getElem_mem hlt
   obtain ⟨hj,hsome⟩:=xX.1 hmem
   obtain ⟨ff,hff⟩:=Option.isSome_iff_exists.1 hsome
   have hask:=nK HU.out hff
   have hnot:l[i] ∉ l.take i:=by
    intro hm
    obtain ⟨k,hk,e⟩:=List.mem_iff_getElem.1 hm
    rw [List.length_take] at hk
    rw [List.getElem_take] at e
    exact List.pairwise_iff_getElem.1 HNd.out k i (by omega) hlt (by omega) e
   have HLay:=aj (HT.out.lay hnot)
   rw [← List.take_succ_eq_append_getElem hlt] at HLay
   have HRd:=aj (yY (l[i]:Nat) (by omega) (by omega) gd Qd d wr (HD.out.below HB.out))
   have hrb:kV d (l[i]:Nat)=(fileAt d.F l[i]).all:=by
    unfold kV
    rw [if_pos hask,show ((l[i]:Nat):Int).toNat=l[i] by omega]
   rw [hask,hrb] at HRd
   have hsz:(fileAt d.F l[i]).all.length≤1048576:=by
    rw [gG hff]
    have h8:=qo d.F hj
    have h7:bV d.F l[i]=ff.all.length:=by unfold bV;rw [hff]
    have:=HOk.out.used
    have:=HOk.out.fM
    omega
   have huse:bR G+(fileAt d.F l[i]).all.length≤1048576:=by
    have h1:=sO G (fileAt d.F l[i]).all hj
    have h2:=al1 (alS HLay.out)
    have:=HOk.out.used
    have:=HOk.out.fM
    omega
   have HAp:=aj (fun (W:World) (A':Option Addr) (n c':Nat) (hb:Below wr.heap.size wr W) (ho:Own wr.heap.size W A' n c' (fileAt d.F l[i]).all)=>qK (l[i]:Nat) A' n c' (fileAt d.F l[i]).all g2 Q ⟨1048576,G,false,0,false⟩ W (HS.out.1.below hb) ho.sl (fun a ea hne hq=>by
    have:=HS.out.1.qlt _ hq
    subst ea
    have:=(jY ho a.block (by rw [fT];rfl))
    omega) (by rw [← ho.sl.len];omega))
   have hap:=wE (d:=⟨1048576,G,false,0,false⟩) rfl rfl hj (fileAt d.F l[i]).all
   have hap2:bU ⟨1048576,G,false,0,false⟩ (l[i]:Nat) (fileAt d.F l[i]).all.length=0∧bX ⟨1048576,G,false,0,false⟩ (l[i]:Nat) (fileAt d.F l[i]).all=⟨1048576,cO G l[i] (fileAt d.F l[i]).all,false,0,false⟩:=by
    rcases hap with ⟨-,h2,-⟩ | ⟨h1,-,h3⟩
    ·simp only at h2;omega
    ·exact ⟨h1,h3⟩
   rw [hap2.1,hap2.2] at HAp
   have x1:(i:Int)<(l.length:Int):=by omega
   have x2:(0:Int)≤(i:Int):=by omega
   have HK:=aj hlt
   have HSl:=aj hsz
   have HBk:=aj (show b<w3.heap.size from lt_of_cell hc)
   clear hap hap2 huse hsz hrb hask hff hsome hmem hnot hc
   generalize (fileAt d.F l[i]).all=bs at *
   generalize l[i]=j at *
   clear hlt hi
   go_wp2_with fail
   (with_reducible refine Calls.mono HRd.out ?_)
   rintro e w4 ⟨A4,c4,rfl,ho4,hb4⟩
   have HB4:=aj (HB.out.trans (hb4.mono HB.out.size))
   have HT4:=aj (HTn.out.iQ hb4)
   have HA4:=aj (HAp.out w4 A4 _ c4 hb4 ho4)
   have hs4:=hb4.size
   clear ho4 hb4 hcell
   go_wp2_with fail
   (with_reducible refine Calls.mono HA4.out ?_)
   rintro e w5 ⟨rfl,Q',hk5,ht5,hq5⟩
   have HS5:=aj (show Dk w5 g2 Q' ⟨1048576,cO G j bs,false,0,false⟩∧(∀ q,Q' q→w.heap.size≤q)∧∀ k,aB (some ⟨b,0,none⟩:Option Addr)=some k→¬ Q' k from ⟨hk5,fun q hq=>by
    rcases hq5 q hq with h1 | h1
    ·exact HS.out.2.1 q h1
    ·have:=HB4.out.size;omega,fun k hk hq=>by
    rcases hq5 k hq with h1 | h1
    ·exact HS.out.2.2 k hk h1
    ·have e9:b=k:=Option.some.inj hk
     have:=HBk.out;have:=HT4.out.size;omega⟩)
   have HB5:=aj (ht5.below HB4.out (fun q hq=>HS.out.2.1 q hq) HB4.out.size)
   have HT5:=aj (show Tn (fun q=>aB (some ⟨b,0,none⟩:Option Addr)≠some q∧w.heap.size≤q) w3 w5 from HT4.out.trans ht5 (fun q hq => .inl ⟨fun e=>HS.out.2.2 q e hq,HS.out.2.1 q hq⟩))
   clear hk5 ht5 hq5
   go_wp2_with fail
   go_roundw
   case rel=>exact ⟨i+1,_,Q',by have:=HK.out;omega,by go_num,HS5,HLay,HB5,HT5⟩
   case measure=>have:=HK.out;simp [intOf];omega
  ·obtain rfl:i=l.length:=by omega
   have x1:¬ (l.length:Int)<(l.length:Int):=by omega
   have HT2:=aj (show ou d.F G (dW d.F) by have:=HT.out;rwa [List.take_of_length_le (Nat.le_refl _),HL.out] at this)
   clear hlt hi
   go_wp2_with fail
   go_ret
   exact ⟨⟨g2,Q,_,rfl,HS.out.1,HS.out.2.1,rfl,fun j=>alR HOk.out HT2.out j⟩,HB.out⟩
end Rp
end Go.Proofs.YtpcmlopbkehffaaGreat
namespace Go.Proofs.YtpcmlopbkehffaaGreat
open Go.RowKit Rg Bl Re Wl Dsk Fm
namespace Rp
def o8 (os:List au) (s:Nat) (R:List au):Prop:=∀ t,s≤t→t≤os.length→bN [] (os.take t)=R
def RUp (d:ak) (most:Int) (L:List FS) (R:List au) (N:Nat):Prop :=
 ∃ (base c:Nat) (os:List au) (s:Nat),Lay d most base L c s N∧jN L c∧(L=[]→base=0)∧aC L=os.map aU∧(∀ o∈os,o.Ok)∧s≤os.length∧o8 os s R∧d.down=false
def nH (d:ak) (most:Int) (R S:List au) (N:Nat):Prop :=
 d.down=true∧∃ (base:Nat) (M:List FS) (c:Nat) (os:List au) (s:Nat),Lay d most base M c s N∧(M=[]→base=0)∧aC M=os.map aU∧(∀ o∈os,o.Ok)∧∀ t,s≤t→t≤os.length→bN [] (os.take t)=R∨bN [] (os.take t)=S
theorem RUp.gY {d:ak} {most:Int} {L:List FS} {R:List au} {N:Nat} (h:RUp d most L R N):∃ base,aH d most base L N 1048576∧(L=[]→base=0):=by
 obtain ⟨base,c,os,s,h1,h2,h3,h4,h5,h6,h7,h8⟩:=h
 exact ⟨base,h1.gY h8 h2,h3⟩
theorem RUp.up {d:ak} {most:Int} {L:List FS} {R:List au} {N:Nat} (h:RUp d most L R N):d.down=false:=by
 obtain ⟨base,c,os,s,h1,h2,h3,h4,h5,h6,h7,h8⟩:=h
 exact h8
theorem RUp.facts {d:ak} {most:Int} {L:List FS} {R:List au} {N:Nat} (h:RUp d most L R N):dS R∧fA R∧∀ o∈R,o.Ok:=by
 obtain ⟨base,c,os,s,h1,h2,h3,h4,h5,h6,h7,h8⟩:=h
 have e:=h7 os.length h6 (Nat.le_refl _)
 rw [List.take_length] at e
 rw [← e]
 have hn:dS ([]:List au):=List.Pairwise.nil
 refine ⟨hn.told os,fA.told (fun o ho=>by cases ho) os (fun o ho=>(h5 o ho).nz),fun o ho=>?_⟩
 rcases acu os ho with h | h
 ·exact h5 o h
 ·cases h
inductive tH (d:ak) (most:Int) (R:List au) (N:Nat) (o:au):Int→ak→List FS→Prop
 | full {d':ak} {L':List FS} : RUp d' most L' R N→d'.room=d.room→tH d most R N o 9 d' L'
 | came {d':ak} {L':List FS} {base c:Nat} {os:List au} {s:Nat} : Lay d' most base L' c s (N+1)→jN L' c→(L'=[]→base=0)→aC L'=(os++[o]).map aU→(∀ x∈os++[o],x.Ok)→s≤os.length→o8 os s R→d'.down=false→d'.room=d.room→tH d most R N o 0 d' L'
 | fell {d':ak} {L':List FS} : nH d' most R (bJ R o.trace o.r) (N+1)→LOk L'→d'.room=d.room→tH d most R N o 10 d' L'
theorem alz {os:List au} {s:Nat} {R:List au} {o:au} (h:o8 os s R) (hs:s≤os.length) {t:Nat} (h1:s≤t) (h2:t≤(os++[o]).length):bN [] ((os++[o]).take t)=R∨(t=os.length+1∧bN [] ((os++[o]).take t)=bJ R o.trace o.r):=by
 rw [List.length_append,List.length_singleton] at h2
 by_cases e:t≤os.length
 ·left
  rw [List.take_append_of_le_length e]
  exact h t h1 e
 ·right
  obtain rfl:t=os.length+1:=by omega
  refine ⟨rfl,?_⟩
  rw [List.take_of_length_le (by simp),zS]
  have:=h os.length hs (Nat.le_refl _)
  rw [List.take_length] at this
  rw [this]
theorem p9 (o:au):(aU o).length=41:=yZ _ _
theorem RUp.append {d:ak} {most:Int} {L:List FS} {R:List au} {N:Nat} (h:RUp d most L R N) (o:au) (ho:o.Ok) (hN:N<1000000):tH d most R N o (aL d most L (aU o)).1 (aL d most L (aU o)).2.1 (aL d most L (aU o)).2.2:=by
 have hlok:LOk L:=by
  obtain ⟨base,hl,-⟩:=h.gY
  exact hl.lok
 obtain ⟨base,c,os,s,h1,h2,h3,h4,h5,h6,h7,h8⟩:=h
 have ha:=h1.append h8 h2 h3 (aU o) (by rw [p9];omega) hN
 have hall:∀ x∈os++[o],x.Ok:=fun x hx=>by
  rcases List.mem_append.1 hx with hx | hx
  ·exact h5 x hx
  ·rw [List.mem_singleton.1 hx];exact ho
 generalize aL d most L (aU o)=A at *
 obtain ⟨k,d',L'⟩:=A
 simp only at ha ⊢
 cases ha with
 | full u1 u2 u3 u4=>exact .full ⟨base,_,os,s,u4,u3,h3,h4,h5,h6,h7,u1⟩ u2
 | came u1 u2 u3 u4 u5 u6=>exact .came u4 u3 (fun e=>absurd e u6) (by rw [u5,h4,List.map_append];rfl) hall h6 h7 u1 u2
 | fell u1 u2 u3 u4 u5 u6 =>
   refine .fell ⟨u1,base,_,_,os++[o],s,u3,fun e=>?_,by rw [u4,h4,List.map_append];rfl,hall,fun t t1 t2=>?_⟩ hlok u2
   ·rw [e] at u4
    have:=congrArg List.length u4
    simp [aC] at this
   ·rcases alz h7 h6 t1 t2 with h9 | ⟨-,h9⟩
    ·exact .inl h9
    ·exact .inr h9
theorem RUp.yD {d:ak} {most:Int} {base N U:Nat} {L:List FS} {os:List au} (h:aH d most base L N U) (h0:L=[]→base=0) (k:iR d base L) (hr:aC L=os.map aU) (hok:∀ o∈os,o.Ok):RUp d most L (bN [] os) N:=by
 obtain ⟨c,h1,h2⟩:=Lay.rV h k
 have hlen:(aC L).length=os.length:=by rw [hr,List.length_map]
 rw [hlen] at h2
 refine ⟨base,c,os,os.length,h2,h1,h0,hr,hok,Nat.le_refl _,fun t t1 t2=>?_,h.up⟩
 obtain rfl:t=os.length:=by omega
 rw [List.take_length]
theorem map_take {os:List au} (t:Nat):(os.map aU).take t=(os.take t).map aU:=(List.map_take).symm
theorem afq {d:ak} {most:Int} {base:Nat} {M:List FS} {c s N:Nat} {os:List au} {R S:List au} (h1:Lay d most base M c s N) (h0:M=[]→base=0) (hr:aC M=os.map aU) (hok:∀ o∈os,o.Ok) (ht:∀ t,s≤t→t≤os.length→bN [] (os.take t)=R∨bN [] (os.take t)=S) (keep:List Int) (h64:64≤most) :
  ∃ (base n:Nat) (C:Nat→List UInt8) (os':List au) (base':Nat),lI (iL d keep) base n C∧aH (gZ (iL d keep) base n C) most base' (jX base n C) N 1048576∧(jX base n C=[]→base'=0)∧iR (gZ (iL d keep) base n C) base' (jX base n C)∧aC (jX base n C)=os'.map aU∧(∀ o∈os',o.Ok)∧(bN [] os'=R∨bN [] os'=S)∧(gZ (iL d keep) base n C).room=d.room:=by
 obtain ⟨c',l1,l2⟩:=h1.crash keep
 obtain ⟨o1,o2⟩:=l1.open_ rfl l2 h64 h0
 obtain ⟨b',k1,k2,k3⟩:=o2.out
 obtain ⟨t,t1,t2,t3⟩:=o2.recs
 rw [hr,List.length_map] at t3
 refine ⟨base,M.length,dP M c',os.take t,b',o1,k1,k2,k3,by rw [t1,hr,map_take],fun o ho=>hok o (List.mem_of_mem_take ho),ht t t2 t3,o2.room⟩
structure gD (d d2:ak):Prop where
 ok:DOk d2
 up:d2.down=false
 up1:d.down=false
 f : ∀ j,(d2.F j).map fV.all=(d.F j).map fV.all
theorem gD.some {d d2:ak} (h:gD d d2) {j:Nat} {c:List UInt8} {ff:Nat} (e:d.F j=some ⟨c,ff⟩):∃ ff',d2.F j=some ⟨c,ff'⟩:=by
 have h1:=h.f j
 rw [e] at h1
 rcases h2:d2.F j with _ | ⟨c',ff'⟩
 ·rw [h2] at h1;cases h1
 ·rw [h2] at h1
  simp at h1
  exact ⟨ff',by rw [h1]⟩
theorem gD.none {d d2:ak} (h:gD d d2) {j:Nat} (e:d.F j=none):d2.F j=none:=by
 have h1:=h.f j
 rw [e] at h1
 rcases h2:d2.F j with _ | f
 ·rfl
 ·rw [h2] at h1;cases h1
theorem gD.isSome {d d2:ak} (h:gD d d2) (j:Nat):(d2.F j).isSome=(d.F j).isSome:=by
 rcases e:d.F j with _ | ⟨c,ff⟩
 ·rw [h.none e]
 ·obtain ⟨ff',e2⟩:=h.some e
  rw [e2]
  rfl
theorem gD.files {d d2:ak} (h:gD d d2):dW d2.F=dW d.F:=by
 unfold dW fZ
 exact List.filter_congr (fun j _=>h.isSome j)
theorem gD.disk {d d2:ak} {base n:Nat} {C:Nat→List UInt8} (h:gD d d2) (k:lI d base n C):lI d2 base n C :=
 ⟨by rw [h.files];exact k.files,h.up,fun i hi=>by
  obtain ⟨ff,e⟩:=k.has i hi
  exact h.some e,k.len,k.head,k.ahead,k.follows,k.next,k.n63,k.b64⟩
theorem gD.log {d d2:ak} {most:Int} {base N U:Nat} {L:List FS} (h:gD d d2) (k:aH d most base L N U):aH d2 most base L N 1048576 :=
 ⟨h.ok,h.up,fun j hj=>h.none (k.rest j hj),fun i hi=>by
  obtain ⟨ff,e⟩:=k.has i hi
  exact h.some e,k.num,k.dL,k.all,k.small,k.ahead,k.next,k.bnd,k.n63,k.b64,by have:=h.ok.used;have:=h.ok.fM;omega,k.big⟩
theorem gD.ask {d d2:ak} (h:gD d d2) (x:Int):bE d2 x=bE d x:=by
 unfold bE
 rw [h.up,h.up1,h.isSome]
theorem abA {d d2:ak} (h:gD d d2) (j:Nat):(fileAt d2.F j).all=(fileAt d.F j).all:=by
 rcases e:d.F j with _ | ⟨c,ff⟩
 ·unfold fileAt;rw [h.none e,e]
 ·obtain ⟨ff',e2⟩:=h.some e
  rw [gG e,gG e2]
theorem gD.open_ {d d2:ak} {base n:Nat} {C:Nat→List UInt8} (h:gD d d2) (hd:DOk d):gD (gZ d base n C) (gZ d2 base n C):=by
 rcases n with _ | m
 ·exact h
 ·show gD (gH d (bF (rg base m) (C m))) (gH d2 (bF (rg base m) (C m)))
  generalize bF (rg base m) (C m)=f
  unfold gH
  split
  ·refine ⟨uT h.ok _,?_,?_,fun j=>?_⟩
   ·unfold fG;split <;> exact h.up
   ·unfold fG;split <;> exact h.up1
   ·unfold fG
    rw [h.ask]
    split
    ·show (aW d2.F _ Option.none j).map _=(aW d.F _ Option.none j).map _
     by_cases e:j=((f.num:Nat):Int).toNat
     ·rw [e,eX,eX]
     ·rw [cZ _ _ e,cZ _ _ e];exact h.f j
    ·exact h.f j
  ·split
   ·exact h
   ·have hcK:iA d2 (f.num:Nat) (f.all.length:Nat)=iA d (f.num:Nat) (f.all.length:Nat):=by
     unfold iA
     rw [h.ask,abA h]
    refine ⟨wS h.ok _ _,?_,?_,fun j=>?_⟩
    ·unfold gV;split <;> exact h.up
    ·unfold gV;split <;> exact h.up1
    ·unfold gV
     rw [h.ask,hcK]
     split
     ·show (aW d2.F _ (Option.some ⟨(fileAt d2.F _).all.take _,_⟩) j).map _=(aW d.F _ (Option.some ⟨(fileAt d.F _).all.take _,_⟩) j).map _
      by_cases e:j=((f.num:Nat):Int).toNat
      ·rw [e,eX,eX]
       simp [abA h]
      ·rw [cZ _ _ e,cZ _ _ e];exact h.f j
     ·exact h.f j
theorem gD.twin {d d2:ak} (h2:DOk d2) (u2:d2.down=false) (u1:d.down=false) (h:∀ j,d2.F j=(d.F j).map (fun f=>⟨f.all,0⟩)):gD d d2 :=
 ⟨h2,u2,u1,fun j=>by
  rw [h j]
  cases d.F j <;> rfl⟩
end Rp
end Go.Proofs.YtpcmlopbkehffaaGreat
namespace Go.Proofs.YtpcmlopbkehffaaGreat
open Go.RowKit Rg Bl Re Wl Fm
namespace Rp
theorem r9 (t:Nat) (r:aF) {i:Nat} (hi:i<5):iP t r (i+1)=iP t r i++aG ((jq t r)[i]'(by simpa [jq] using hi)):=by
 unfold iP
 rw [List.take_succ_eq_append_getElem (by simpa [jq] using hi),List.flatMap_append]
 simp
theorem rE (n:Nat) {k:Nat} (hk:k<8):(aG n).take (k+1)=(aG n).take k++[UInt8.ofNat (n / 256 ^ (7-k))]:=by
 have key:∀ m k n,k<m→(iD m n).take (k+1)=(iD m n).take k++[UInt8.ofNat (n / 256 ^ (m-1-k))]:=by
  intro m
  induction m with
  | zero=>intro k n h;omega
  | succ m ih =>
    intro k n h
    rw [xP]
    rcases k with _ | k
    ·simp
    ·rw [List.take_succ_cons,List.take_succ_cons,ih k n (by omega),List.cons_append,show m+1-1-(k+1)=m-1-k by omega]
 exact key 8 k n hk
theorem ajp (t:Nat) (r:aF) (w W:World) (hb:Below (w.heap.size+1+1) ((w.alloc (.cells (aQ r) 54)).alloc (.cells #[.int .u64 (t:Nat),.int .u64 (r.p.pos:Nat),.int .u64 (r.p.id:Nat),.int .u64 (r.t.pos:Nat),.int .u64 (r.t.id:Nat)] 143)) W) :
  Below w.heap.size w W∧Whole W w.heap.size 54 (aQ r)∧W.cell? ⟨w.heap.size+1,0,none⟩=some (.int .u64 (t:Nat))∧W.cell? ⟨w.heap.size+1,1,none⟩=some (.int .u64 (r.p.pos:Nat))∧W.cell? ⟨w.heap.size+1,2,none⟩=some (.int .u64 (r.p.id:Nat))∧W.cell? ⟨w.heap.size+1,3,none⟩=some (.int .u64 (r.t.pos:Nat))∧W.cell? ⟨w.heap.size+1,4,none⟩=some (.int .u64 (r.t.id:Nat)):=by
 have hz:(w.alloc (.cells (aQ r) 54)).heap.size=w.heap.size+1:=by simp
 have hz2:((w.alloc (.cells (aQ r) 54)).alloc (.cells #[.int .u64 (t:Nat),.int .u64 (r.p.pos:Nat),.int .u64 (r.p.id:Nat),.int .u64 (r.t.pos:Nat),.int .u64 (r.t.id:Nat)] 143)).heap.size=w.heap.size+1+1:=by simp
 have hb2:=hb
 rw [← hz2] at hb2
 have W0:=((aP w 54 (aQ r)).alloc (.cells #[.int .u64 (t:Nat),.int .u64 (r.p.pos:Nat),.int .u64 (r.p.id:Nat),.int .u64 (r.t.pos:Nat),.int .u64 (r.t.id:Nat)] 143)).below hb2 (by rw [hz2];omega)
 have W1:=(aP (w.alloc (.cells (aQ r) 54)) 143 #[.int .u64 (t:Nat),.int .u64 (r.p.pos:Nat),.int .u64 (r.p.id:Nat),.int .u64 (r.t.pos:Nat),.int .u64 (r.t.id:Nat)]).below hb2 (by rw [hz,hz2];omega)
 rw [hz] at W1
 exact ⟨(((Below.refl w.heap.size w).alloc (Nat.le_refl _) _).alloc (by rw [hz];omega) _).trans (hb.mono (by omega)),W0,W1.cell 0 _ rfl,W1.cell 1 _ rfl,W1.cell 2 _ rfl,W1.cell 3 _ rfl,W1.cell 4 _ rfl⟩
theorem idx0 (a b c d e:Int) (w:World):(Instr.index 143 (.agg #[.int .u64 a,.int .u64 b,.int .u64 c,.int .u64 d,.int .u64 e]) (.int .i64 0)).run Tryz.prog w = .ok (.int .u64 a) w:=by
 first | kernel_rfl | rfl | simp [go_sem]
theorem idx1 (a b c d e:Int) (w:World):(Instr.index 143 (.agg #[.int .u64 a,.int .u64 b,.int .u64 c,.int .u64 d,.int .u64 e]) (.int .i64 1)).run Tryz.prog w = .ok (.int .u64 b) w:=by
 first | kernel_rfl | rfl | simp [go_sem]
theorem idx2 (a b c d e:Int) (w:World):(Instr.index 143 (.agg #[.int .u64 a,.int .u64 b,.int .u64 c,.int .u64 d,.int .u64 e]) (.int .i64 2)).run Tryz.prog w = .ok (.int .u64 c) w:=by
 first | kernel_rfl | rfl | simp [go_sem]
theorem idx3 (a b c d e:Int) (w:World):(Instr.index 143 (.agg #[.int .u64 a,.int .u64 b,.int .u64 c,.int .u64 d,.int .u64 e]) (.int .i64 3)).run Tryz.prog w = .ok (.int .u64 d) w:=by
 first | kernel_rfl | rfl | simp [go_sem]
theorem idx4 (a b c d e:Int) (w:World):(Instr.index 143 (.agg #[.int .u64 a,.int .u64 b,.int .u64 c,.int .u64 d,.int .u64 e]) (.int .i64 4)).run Tryz.prog w = .ok (.int .u64 e) w:=by
 first | kernel_rfl | rfl | simp [go_sem]
theorem sJ (n k:Nat) (hk:k<8):((n:Int) / 2 ^ (56-8*k)) % 256=((UInt8.ofNat (n / 256 ^ (7-k))).toNat:Int):=by
 have e:(256:Nat) ^ (7-k)=2 ^ (56-8*k):=by
  rw [show (256:Nat)=2 ^ 8 from rfl,← Nat.pow_mul]
  congr 1
  omega
 rw [e]
 have h1:((n:Int) / 2 ^ (56-8*k))=((n / 2 ^ (56-8*k):Nat):Int):=by
  rw [Int.natCast_ediv,Int.natCast_pow]
  rfl
 rw [h1]
 simp
abbrev numsV (t:Nat) (r:aF):Value := .agg #[.int .u64 (t:Nat),.int .u64 (r.p.pos:Nat),.int .u64 (r.p.id:Nat),.int .u64 (r.t.pos:Nat),.int .u64 (r.t.id:Nat)]
set_option maxRecDepth 100000 in
set_option maxHeartbeats 8000000 in
theorem adg (t:Nat) (r:aF) (w:World) (ok:au.Ok ⟨t,r⟩):Calls Tryz.prog 45 #[.int .u64 (t:Nat),aK r] w (fun e w'=>∃ A c,e = .returned (.slice A 41 c)∧Own w.heap.size w' A 41 c (jd t r)∧Below w.heap.size w w'):=by
 have HOk:=aj ok
 obtain ⟨hv0,hv3⟩:=adt ok.right
 clear ok
 go_enter Tryz.func45,Tryz.ntmps45
 have hsz9:((w.alloc (.cells (aQ r) 54)).alloc (.cells #[.int .u64 (t:Nat),.int .u64 (r.p.pos:Nat),.int .u64 (r.p.id:Nat),.int .u64 (r.t.pos:Nat),.int .u64 (r.t.id:Nat)] 143)).heap.size=w.heap.size+1+1:=(by simp)
 have HPre:=aj (fun (W:World) (hb:Below (w.heap.size+1+1) ((w.alloc (.cells (aQ r) 54)).alloc (.cells #[.int .u64 (t:Nat),.int .u64 (r.p.pos:Nat),.int .u64 (r.p.id:Nat),.int .u64 (r.t.pos:Nat),.int .u64 (r.t.id:Nat)] 143)) W)=>ajp t r w W hb)
 go_wp2_with (first | (at_make;(with_reducible refine ad9 rfl _ _ rfl _ 41 rfl rfl (by omega) (by omega) ?_);intro A1 c1 w1 ho' hb';rw [hsz9] at ho' hb';have HO1:=aj ho';have HBm:=aj hb';obtain ⟨-,-,d0,d1,d2,d3,d4⟩:=HPre.out w1 hb';clear ho' hb') | fail)
 have HO0:=aj (show Own (w.heap.size+1+1) w1 A1 0 c1 (iP t r 0) from HO1.out)
 have hw91:w.heap.size+1+1≤w1.heap.size:=Nat.le_trans (Nat.le_of_eq hsz9.symm) HBm.out.size
 have HW1:=aj hw91
 have HZ:=aj hsz9
 obtain ⟨w2,hw2⟩:∃ w2:World,w2=((w.alloc (.cells (aQ r) 54)).alloc (.cells #[.int .u64 (t:Nat),.int .u64 (r.p.pos:Nat),.int .u64 (r.p.id:Nat),.int .u64 (r.t.pos:Nat),.int .u64 (r.t.id:Nat)] 143)):=⟨_,rfl⟩
 rw [← hw2] at HPre HBm HZ
 clear d0 d1 d2 d3 d4 HO1 hw2 hsz9 hw91
 go_loopw [6,26] (fun vb vi wr=>∃ (i m:Nat) (A:Option Addr) (c:Nat),i≤5∧vi = .int .i64 (i:Nat)∧vb = .slice A m c∧m=8*i∧Hid (Own (w.heap.size+1+1) wr A m c (iP t r i))∧Hid (Below (w.heap.size+1+1) w2 wr)) (fun _ vi _=>5-(intOf vi).toNat)
 case atStart=>exact ⟨0,0,A1,c1,by omega,rfl,rfl,rfl,HO0,HBm⟩
 case round =>
  obtain ⟨i,m,A,c,hi,rfl,rfl,hm,HO,HB⟩:=hrel
  subst hm
  have h6:i=0∨i=1∨i=2∨i=3∨i=4∨i=5:=by omega
  clear hi
  rcases h6 with rfl | rfl | rfl | rfl | rfl | rfl
  ·have HSu:=aj (r9 t r (i:=0) (by omega))
   rw [show (jq t r)[0]'(by simp [jq])=t from rfl] at HSu
   have HN:=aj (show t<18446744073709551616 from HOk.out.t1)
   have ki:=fun (a b c d e:Int) (w:World)=>idx0 a b c d e w
   go_wp2_with fail
   go_loopw [6,9] (fun vb vs wr=>∃ (k m:Nat) (A:Option Addr) (c:Nat),k≤8∧vs = .int .i64 ((56:Int)-8*(k:Nat))∧vb = .slice A m c∧m=0+k∧Hid (Own (w.heap.size+1+1) wr A m c (iP t r 0++(aG (t)).take k))∧Hid (Below (w.heap.size+1+1) w2 wr)) (fun _ vs _=>(intOf vs+8).toNat)
   case atStart=>exact ⟨0,0,A,c,by omega,rfl,rfl,by omega,by simpa using HO,HB⟩
   case round =>
    obtain ⟨k,m,A',c',hk,rfl,rfl,hm,HOk2,HB2⟩:=hrel
    by_cases hlt:k<8
    ·have HSt:=aj (rE (t) hlt)
     have x1:(0:Int)≤56-8*(k:Int):=by omega
     have x2:decide ((0:Int)≤56-8*(k:Int))=true:=decide_eq_true x1
     have x3:decide (56-8*(k:Int) ≥ 0)=true:=decide_eq_true x1
     have x4:¬ (56-8*(k:Int)<0):=by omega
     have hsh:=sJ (t) k hlt
     obtain ⟨q,hq⟩:∃ q,q=UInt8.ofNat (t / 256 ^ (7-k)):=⟨_,rfl⟩
     rw [← hq] at HSt hsh
     clear hq
     have Hl:=aj (fun W:World=>mZ W [q] #[.int .u8 (((t:Nat):Int) / 2 ^ (56-8*k) % 256)] (by rw [hsh];rfl) 1 rfl (by omega) (w.heap.size+1+1))
     have hbw:=HB2.out.size
     rw [HZ.out] at hbw
     have Hr:=aj (show m+1≤140737488355328 by omega)
     have HM:=aj hm
     have HK:=aj hlt
     clear hlt hm hsh
     skip
     go_wp2_with (first
      | (at_builtin;refine lH rfl (.tmp 33) (.tmp 38) rfl (w.heap.size+1+1) A' m c' _ rfl (HOk2.out.alloc _) (some ⟨wr.heap.size,0,none⟩) 1 1 [q] rfl (Hl.out wr (by omega)).sl (m+1) _ rfl rfl Hr.out (by simp;omega) ?_;intro A2 c2 w2 ho2 hb2;have HO2:=aj ho2;have HB3:=aj (HB2.out.trans (((Below.refl _ _).alloc (by omega) _).trans hb2));clear ho2 hb2)
      | fail)
     rw [List.append_assoc,← HSt.out] at HO2
     go_roundw
     case rel=>first | exact ⟨k+1,by have:=HK.out;omega,by omega,m+1,A2,c2,⟨rfl,rfl,rfl⟩,by have:=HM.out;omega,HO2,HB3⟩ | exact ⟨k+1,by have:=HK.out;omega,by omega,m+1,A2,c2,⟨rfl,rfl,rfl⟩,by have:=HM.out;omega,HO2⟩
     case measure=>simp [intOf];omega
    ·obtain rfl:k=8:=by omega
     have HO2:Hid (Own (w.heap.size+1+1) wr A' m c' (iP t r 1)):=aj (by rw [HSu.out,← List.take_of_length_le (l:=aG (t)) (i:=8) (by rw [jR];exact Nat.le_refl _)];exact HOk2.out)
     have HM:=aj hm
     subst hm
     go_wp2_with fail
     go_roundw
     case rel=>exact ⟨1,8,A',c',by omega,rfl,rfl,by omega,HO2,HB2⟩
     case measure=>simp [intOf]
  ·have HSu:=aj (r9 t r (i:=1) (by omega))
   rw [show (jq t r)[1]'(by simp [jq])=r.p.pos from rfl] at HSu
   have HN:=aj (show r.p.pos<18446744073709551616 from HOk.out.p1)
   have ki:=fun (a b c d e:Int) (w:World)=>idx1 a b c d e w
   go_wp2_with fail
   go_loopw [6,9] (fun vb vs wr=>∃ (k m:Nat) (A:Option Addr) (c:Nat),k≤8∧vs = .int .i64 ((56:Int)-8*(k:Nat))∧vb = .slice A m c∧m=8+k∧Hid (Own (w.heap.size+1+1) wr A m c (iP t r 1++(aG (r.p.pos)).take k))∧Hid (Below (w.heap.size+1+1) w2 wr)) (fun _ vs _=>(intOf vs+8).toNat)
   case atStart=>exact ⟨0,8,A,c,by omega,rfl,rfl,by omega,by simpa using HO,HB⟩
   case round =>
    obtain ⟨k,m,A',c',hk,rfl,rfl,hm,HOk2,HB2⟩:=hrel
    by_cases hlt:k<8
    ·have HSt:=aj (rE (r.p.pos) hlt)
     have x1:(0:Int)≤56-8*(k:Int):=by omega
     have x2:decide ((0:Int)≤56-8*(k:Int))=true:=decide_eq_true x1
     have x3:decide (56-8*(k:Int) ≥ 0)=true:=decide_eq_true x1
     have x4:¬ (56-8*(k:Int)<0):=by omega
     have hsh:=sJ (r.p.pos) k hlt
     obtain ⟨q,hq⟩:∃ q,q=UInt8.ofNat (r.p.pos / 256 ^ (7-k)):=⟨_,rfl⟩
     rw [← hq] at HSt hsh
     clear hq
     have Hl:=aj (fun W:World=>mZ W [q] #[.int .u8 (((r.p.pos:Nat):Int) / 2 ^ (56-8*k) % 256)] (by rw [hsh];rfl) 1 rfl (by omega) (w.heap.size+1+1))
     have hbw:=HB2.out.size
     rw [HZ.out] at hbw
     have Hr:=aj (show m+1≤140737488355328 by omega)
     have HM:=aj hm
     have HK:=aj hlt
     clear hlt hm hsh
     skip
     go_wp2_with (first
      | (at_builtin;refine lH rfl (.tmp 33) (.tmp 38) rfl (w.heap.size+1+1) A' m c' _ rfl (HOk2.out.alloc _) (some ⟨wr.heap.size,0,none⟩) 1 1 [q] rfl (Hl.out wr (by omega)).sl (m+1) _ rfl rfl Hr.out (by simp;omega) ?_;intro A2 c2 w2 ho2 hb2;have HO2:=aj ho2;have HB3:=aj (HB2.out.trans (((Below.refl _ _).alloc (by omega) _).trans hb2));clear ho2 hb2)
      | fail)
     rw [List.append_assoc,← HSt.out] at HO2
     go_roundw
     case rel=>first | exact ⟨k+1,by have:=HK.out;omega,by omega,m+1,A2,c2,⟨rfl,rfl,rfl⟩,by have:=HM.out;omega,HO2,HB3⟩ | exact ⟨k+1,by have:=HK.out;omega,by omega,m+1,A2,c2,⟨rfl,rfl,rfl⟩,by have:=HM.out;omega,HO2⟩
     case measure=>simp [intOf];omega
    ·obtain rfl:k=8:=by omega
     have HO2:Hid (Own (w.heap.size+1+1) wr A' m c' (iP t r 2)):=aj (by rw [HSu.out,← List.take_of_length_le (l:=aG (r.p.pos)) (i:=8) (by rw [jR];exact Nat.le_refl _)];exact HOk2.out)
     have HM:=aj hm
     subst hm
     go_wp2_with fail
     go_roundw
     case rel=>exact ⟨2,16,A',c',by omega,rfl,rfl,by omega,HO2,HB2⟩
     case measure=>simp [intOf]
  ·have HSu:=aj (r9 t r (i:=2) (by omega))
   rw [show (jq t r)[2]'(by simp [jq])=r.p.id from rfl] at HSu
   have HN:=aj (show r.p.id<18446744073709551616 from HOk.out.p2)
   have ki:=fun (a b c d e:Int) (w:World)=>idx2 a b c d e w
   go_wp2_with fail
   go_loopw [6,9] (fun vb vs wr=>∃ (k m:Nat) (A:Option Addr) (c:Nat),k≤8∧vs = .int .i64 ((56:Int)-8*(k:Nat))∧vb = .slice A m c∧m=16+k∧Hid (Own (w.heap.size+1+1) wr A m c (iP t r 2++(aG (r.p.id)).take k))∧Hid (Below (w.heap.size+1+1) w2 wr)) (fun _ vs _=>(intOf vs+8).toNat)
   case atStart=>exact ⟨0,16,A,c,by omega,rfl,rfl,by omega,by simpa using HO,HB⟩
   case round =>
    obtain ⟨k,m,A',c',hk,rfl,rfl,hm,HOk2,HB2⟩:=hrel
    by_cases hlt:k<8
    ·have HSt:=aj (rE (r.p.id) hlt)
     have x1:(0:Int)≤56-8*(k:Int):=by omega
     have x2:decide ((0:Int)≤56-8*(k:Int))=true:=decide_eq_true x1
     have x3:decide (56-8*(k:Int) ≥ 0)=true:=decide_eq_true x1
     have x4:¬ (56-8*(k:Int)<0):=by omega
     have hsh:=sJ (r.p.id) k hlt
     obtain ⟨q,hq⟩:∃ q,q=UInt8.ofNat (r.p.id / 256 ^ (7-k)):=⟨_,rfl⟩
     rw [← hq] at HSt hsh
     clear hq
     have Hl:=aj (fun W:World=>mZ W [q] #[.int .u8 (((r.p.id:Nat):Int) / 2 ^ (56-8*k) % 256)] (by rw [hsh];rfl) 1 rfl (by omega) (w.heap.size+1+1))
     have hbw:=HB2.out.size
     rw [HZ.out] at hbw
     have Hr:=aj (show m+1≤140737488355328 by omega)
     have HM:=aj hm
     have HK:=aj hlt
     clear hlt hm hsh
     skip
     go_wp2_with (first
      | (at_builtin;refine lH rfl (.tmp 33) (.tmp 38) rfl (w.heap.size+1+1) A' m c' _ rfl (HOk2.out.alloc _) (some ⟨wr.heap.size,0,none⟩) 1 1 [q] rfl (Hl.out wr (by omega)).sl (m+1) _ rfl rfl Hr.out (by simp;omega) ?_;intro A2 c2 w2 ho2 hb2;have HO2:=aj ho2;have HB3:=aj (HB2.out.trans (((Below.refl _ _).alloc (by omega) _).trans hb2));clear ho2 hb2)
      | fail)
     rw [List.append_assoc,← HSt.out] at HO2
     go_roundw
     case rel=>first | exact ⟨k+1,by have:=HK.out;omega,by omega,m+1,A2,c2,⟨rfl,rfl,rfl⟩,by have:=HM.out;omega,HO2,HB3⟩ | exact ⟨k+1,by have:=HK.out;omega,by omega,m+1,A2,c2,⟨rfl,rfl,rfl⟩,by have:=HM.out;omega,HO2⟩
     case measure=>simp [intOf];omega
    ·obtain rfl:k=8:=by omega
     have HO2:Hid (Own (w.heap.size+1+1) wr A' m c' (iP t r 3)):=aj (by rw [HSu.out,← List.take_of_length_le (l:=aG (r.p.id)) (i:=8) (by rw [jR];exact Nat.le_refl _)];exact HOk2.out)
     have HM:=aj hm
     subst hm
     go_wp2_with fail
     go_roundw
     case rel=>exact ⟨3,24,A',c',by omega,rfl,rfl,by omega,HO2,HB2⟩
     case measure=>simp [intOf]
  ·have HSu:=aj (r9 t r (i:=3) (by omega))
   rw [show (jq t r)[3]'(by simp [jq])=r.t.pos from rfl] at HSu
   have HN:=aj (show r.t.pos<18446744073709551616 from HOk.out.q1)
   have ki:=fun (a b c d e:Int) (w:World)=>idx3 a b c d e w
   go_wp2_with fail
   go_loopw [6,9] (fun vb vs wr=>∃ (k m:Nat) (A:Option Addr) (c:Nat),k≤8∧vs = .int .i64 ((56:Int)-8*(k:Nat))∧vb = .slice A m c∧m=24+k∧Hid (Own (w.heap.size+1+1) wr A m c (iP t r 3++(aG (r.t.pos)).take k))∧Hid (Below (w.heap.size+1+1) w2 wr)) (fun _ vs _=>(intOf vs+8).toNat)
   case atStart=>exact ⟨0,24,A,c,by omega,rfl,rfl,by omega,by simpa using HO,HB⟩
   case round =>
    obtain ⟨k,m,A',c',hk,rfl,rfl,hm,HOk2,HB2⟩:=hrel
    by_cases hlt:k<8
    ·have HSt:=aj (rE (r.t.pos) hlt)
     have x1:(0:Int)≤56-8*(k:Int):=by omega
     have x2:decide ((0:Int)≤56-8*(k:Int))=true:=decide_eq_true x1
     have x3:decide (56-8*(k:Int) ≥ 0)=true:=decide_eq_true x1
     have x4:¬ (56-8*(k:Int)<0):=by omega
     have hsh:=sJ (r.t.pos) k hlt
     obtain ⟨q,hq⟩:∃ q,q=UInt8.ofNat (r.t.pos / 256 ^ (7-k)):=⟨_,rfl⟩
     rw [← hq] at HSt hsh
     clear hq
     have Hl:=aj (fun W:World=>mZ W [q] #[.int .u8 (((r.t.pos:Nat):Int) / 2 ^ (56-8*k) % 256)] (by rw [hsh];rfl) 1 rfl (by omega) (w.heap.size+1+1))
     have hbw:=HB2.out.size
     rw [HZ.out] at hbw
     have Hr:=aj (show m+1≤140737488355328 by omega)
     have HM:=aj hm
     have HK:=aj hlt
     clear hlt hm hsh
     skip
     go_wp2_with (first
      | (at_builtin;refine lH rfl (.tmp 33) (.tmp 38) rfl (w.heap.size+1+1) A' m c' _ rfl (HOk2.out.alloc _) (some ⟨wr.heap.size,0,none⟩) 1 1 [q] rfl (Hl.out wr (by omega)).sl (m+1) _ rfl rfl Hr.out (by simp;omega) ?_;intro A2 c2 w2 ho2 hb2;have HO2:=aj ho2;have HB3:=aj (HB2.out.trans (((Below.refl _ _).alloc (by omega) _).trans hb2));clear ho2 hb2)
      | fail)
     rw [List.append_assoc,← HSt.out] at HO2
     go_roundw
     case rel=>first | exact ⟨k+1,by have:=HK.out;omega,by omega,m+1,A2,c2,⟨rfl,rfl,rfl⟩,by have:=HM.out;omega,HO2,HB3⟩ | exact ⟨k+1,by have:=HK.out;omega,by omega,m+1,A2,c2,⟨rfl,rfl,rfl⟩,by have:=HM.out;omega,HO2⟩
     case measure=>simp [intOf];omega
    ·obtain rfl:k=8:=by omega
     have HO2:Hid (Own (w.heap.size+1+1) wr A' m c' (iP t r 4)):=aj (by rw [HSu.out,← List.take_of_length_le (l:=aG (r.t.pos)) (i:=8) (by rw [jR];exact Nat.le_refl _)];exact HOk2.out)
     have HM:=aj hm
     subst hm
     go_wp2_with fail
     go_roundw
     case rel=>exact ⟨4,32,A',c',by omega,rfl,rfl,by omega,HO2,HB2⟩
     case measure=>simp [intOf]
  ·have HSu:=aj (r9 t r (i:=4) (by omega))
   rw [show (jq t r)[4]'(by simp [jq])=r.t.id from rfl] at HSu
   have HN:=aj (show r.t.id<18446744073709551616 from HOk.out.q2)
   have ki:=fun (a b c d e:Int) (w:World)=>idx4 a b c d e w
   go_wp2_with fail
   go_loopw [6,9] (fun vb vs wr=>∃ (k m:Nat) (A:Option Addr) (c:Nat),k≤8∧vs = .int .i64 ((56:Int)-8*(k:Nat))∧vb = .slice A m c∧m=32+k∧Hid (Own (w.heap.size+1+1) wr A m c (iP t r 4++(aG (r.t.id)).take k))∧Hid (Below (w.heap.size+1+1) w2 wr)) (fun _ vs _=>(intOf vs+8).toNat)
   case atStart=>exact ⟨0,32,A,c,by omega,rfl,rfl,by omega,by simpa using HO,HB⟩
   case round =>
    obtain ⟨k,m,A',c',hk,rfl,rfl,hm,HOk2,HB2⟩:=hrel
    by_cases hlt:k<8
    ·have HSt:=aj (rE (r.t.id) hlt)
     have x1:(0:Int)≤56-8*(k:Int):=by omega
     have x2:decide ((0:Int)≤56-8*(k:Int))=true:=decide_eq_true x1
     have x3:decide (56-8*(k:Int) ≥ 0)=true:=decide_eq_true x1
     have x4:¬ (56-8*(k:Int)<0):=by omega
     have hsh:=sJ (r.t.id) k hlt
     obtain ⟨q,hq⟩:∃ q,q=UInt8.ofNat (r.t.id / 256 ^ (7-k)):=⟨_,rfl⟩
     rw [← hq] at HSt hsh
     clear hq
     have Hl:=aj (fun W:World=>mZ W [q] #[.int .u8 (((r.t.id:Nat):Int) / 2 ^ (56-8*k) % 256)] (by rw [hsh];rfl) 1 rfl (by omega) (w.heap.size+1+1))
     have hbw:=HB2.out.size
     rw [HZ.out] at hbw
     have Hr:=aj (show m+1≤140737488355328 by omega)
     have HM:=aj hm
     have HK:=aj hlt
     clear hlt hm hsh
     skip
     go_wp2_with (first
      | (at_builtin;refine lH rfl (.tmp 33) (.tmp 38) rfl (w.heap.size+1+1) A' m c' _ rfl (HOk2.out.alloc _) (some ⟨wr.heap.size,0,none⟩) 1 1 [q] rfl (Hl.out wr (by omega)).sl (m+1) _ rfl rfl Hr.out (by simp;omega) ?_;intro A2 c2 w2 ho2 hb2;have HO2:=aj ho2;have HB3:=aj (HB2.out.trans (((Below.refl _ _).alloc (by omega) _).trans hb2));clear ho2 hb2)
      | fail)
     rw [List.append_assoc,← HSt.out] at HO2
     go_roundw
     case rel=>first | exact ⟨k+1,by have:=HK.out;omega,by omega,m+1,A2,c2,⟨rfl,rfl,rfl⟩,by have:=HM.out;omega,HO2,HB3⟩ | exact ⟨k+1,by have:=HK.out;omega,by omega,m+1,A2,c2,⟨rfl,rfl,rfl⟩,by have:=HM.out;omega,HO2⟩
     case measure=>simp [intOf];omega
    ·obtain rfl:k=8:=by omega
     have HO2:Hid (Own (w.heap.size+1+1) wr A' m c' (iP t r 5)):=aj (by rw [HSu.out,← List.take_of_length_le (l:=aG (r.t.id)) (i:=8) (by rw [jR];exact Nat.le_refl _)];exact HOk2.out)
     have HM:=aj hm
     subst hm
     go_wp2_with fail
     go_roundw
     case rel=>exact ⟨5,40,A',c',by omega,rfl,rfl,by omega,HO2,HB2⟩
     case measure=>simp [intOf]
  ·have d4:=(HPre.out wr HB.out).2.1.cell 4 _ rfl
   have hbv:r.v=((UInt8.ofNat r.v.toNat).toNat:Int):=by
    simp
    omega
   have Hl:=aj (fun W:World=>mZ W [UInt8.ofNat r.v.toNat] #[.int .u8 r.v] (by show [Value.int .u8 r.v]=[Value.int .u8 ((UInt8.ofNat r.v.toNat).toNat:Int)];rw [← hbv]) 1 rfl (by omega) (w.heap.size+1+1))
   have hbw:=HB.out.size
   rw [HZ.out] at hbw
   have H5:=aj (ajo t r)
   clear hbv
   go_wp2_with (first
    | (at_builtin;refine lH rfl (.tmp 41) (.tmp 45) rfl (w.heap.size+1+1) A 40 c _ rfl (HO.out.alloc _) (some ⟨wr.heap.size,0,none⟩) 1 1 [UInt8.ofNat r.v.toNat] rfl (Hl.out wr (by omega)).sl 41 _ rfl rfl (by omega) (by simp;omega) ?_;intro A2 c2 w2 ho2 hb2;have HO2:=aj ho2;have HB3:=aj (HB.out.trans (((Below.refl _ _).alloc (by omega) _).trans hb2));clear ho2 hb2)
    | fail)
   rw [H5.out] at HO2
   go_ret
   exact ⟨A2,c2,rfl,HO2.out.mono (by omega),(HPre.out _ HB3.out).1⟩
end Rp
end Go.Proofs.YtpcmlopbkehffaaGreat
namespace Go.Proofs.YtpcmlopbkehffaaGreat
open Go.RowKit Rg Bl Re Wl Fm
namespace Rp
def pv (b:List UInt8) (i k:Nat):Nat:=numOf ((b.drop (8*k)).take (min 8 (i-8*k)))
theorem ajd (b:List UInt8) (k:Nat):pv b 0 k=0:=by unfold pv;simp [numOf]
theorem rY (b:List UInt8) {k:Nat} (hk:k<5):pv b 40 k=nT b k:=by unfold pv nT;rw [show min 8 (40-8*k)=8 by omega]
theorem ajb (b:List UInt8) {i k:Nat} (h:k≠i / 8):pv b (i+1) k=pv b i k:=by
 unfold pv
 rw [show min 8 (i+1-8*k)=min 8 (i-8*k) by omega]
theorem ajc (b:List UInt8) {i k:Nat} (h:k=i / 8) (hi:i<b.length):pv b (i+1) k=pv b i k*256+b[i].toNat:=by
 unfold pv
 have h1:min 8 (i+1-8*k)=(i-8*k)+1:=by omega
 have h2:min 8 (i-8*k)=i-8*k:=by omega
 have h3:i-8*k<(b.drop (8*k)).length:=by rw [List.length_drop];omega
 rw [h1,h2,yA _ h3,List.getElem_drop]
 congr 3
 omega
theorem aja (b:List UInt8) {i k:Nat} (h:k=i / 8) (hi:i<b.length):pv b i k<256 ^ 7:=by
 unfold pv
 have h2:min 8 (i-8*k)=i-8*k:=by omega
 rw [h2]
 refine Nat.lt_of_lt_of_le (yx _ _ (by rw [List.length_drop];omega)) (Nat.pow_le_pow_right (by decide) (by omega))
theorem sS {w:World} {g h:Nat} {T:TypeId} {cs:Array Value} (k:Whole w g T cs) (hne:g≠h) (i:Nat) (v:Value):Whole (w.setCell ⟨h,i,none⟩ v) g T cs:=by
 have:=Below.heap_setCell w ⟨h,i,none⟩ v g (by rintro rfl;exact hne rfl)
 exact this.trans k
theorem qN {w:World} {g h o:Nat} {v:Value} (k:w.cell? ⟨g,o,none⟩=some v) (hne:g≠h) (i:Nat) (u:Value):(w.setCell ⟨h,i,none⟩ u).cell? ⟨g,o,none⟩=some v:=by
 have:=Below.heap_setCell w ⟨h,i,none⟩ u g (by rintro rfl;exact hne rfl)
 simp only [World.cell?] at *
 rw [this]
 exact k
theorem qM {B:Nat} {w W:World} {g:Nat} (h:Below B w W) (hg:B≤g) (i:Nat) (v:Value):Below B w (W.setCell ⟨g,i,none⟩ v):=h.setCell (p:=⟨g,i,none⟩) hg v
set_option maxRecDepth 100000 in
set_option maxHeartbeats 8000000 in
theorem pY (A:Option Addr) (c:Nat) (t:Nat) (r:aF) (w:World) (ok:au.Ok ⟨t,r⟩) (hs:Sl w A 41 c (jd t r)):Calls Tryz.prog 57 #[.slice A 41 c] w (fun e w'=>e = .returned (.tuple #[.int .u64 (t:Nat),aK r,.int .i64 0])∧Below w.heap.size w w'):=by
 obtain ⟨hn0,hn1,hn2,hn3,hn4,hn5⟩:=ahD ok
 simp only at hn0 hn1 hn2 hn3 hn4 hn5
 obtain ⟨hv0,hv3⟩:=adt ok.right
 have HOk:=aj ok
 have hl:=yZ t r
 have hcap:=hs.cap
 have hmax:=hs.max
 have HV:=aj (And.intro hv0 hv3)
 generalize jd t r=b at *
 have HN:=aj (And.intro hn0 (And.intro hn1 (And.intro hn2 (And.intro hn3 (And.intro hn4 hn5)))))
 have HL:=aj hl
 have HS:=aj hs
 have HRi:=aj (fun W=>zw r W)
 rw [show kg r=true from ok.right] at HRi
 obtain ⟨bb,off,hA,hcb⟩:∃ bb off,A=some ⟨bb,off,none⟩∧∀ k (hk:k<b.length),w.cell? ⟨bb,off+k,none⟩=some (.int .u8 (b[k].toNat:Int)):=by
  obtain ⟨bb,off,e,-⟩:=hs.holds.at_ (k:=0) (by omega)
  refine ⟨bb,off,e,fun k hk=>?_⟩
  obtain ⟨b2,o2,e2,h2⟩:=hs.holds.at_ hk
  rw [e] at e2
  injection e2 with e2
  injection e2 with e3 e4
  subst e3 e4
  exact h2
 subst hA
 have HC:=aj hcb
 clear ok hs hn0 hn1 hn2 hn3 hn4 hn5 hv0 hv3 hl hcb
 have hz1:(w.alloc (.cells (aQ bK) 54)).heap.size=w.heap.size+1:=by simp
 have hz2:((w.alloc (.cells (aQ bK) 54)).alloc (.cells #[.int .u64 0,.int .u64 0,.int .u64 0,.int .u64 0,.int .u64 0] 143)).heap.size=w.heap.size+1+1:=by simp
 have HW1:=aj (aP (w.alloc (.cells (aQ bK) 54)) 143 #[.int .u64 0,.int .u64 0,.int .u64 0,.int .u64 0,.int .u64 0])
 have HW0:=aj ((aP w 54 (aQ bK)).alloc (.cells #[.int .u64 0,.int .u64 0,.int .u64 0,.int .u64 0,.int .u64 0] 143))
 have HB0:=aj (((Below.refl w.heap.size w).alloc (Nat.le_refl _) (.cells (aQ bK) 54)).alloc (by rw [hz1];omega) (.cells #[.int .u64 0,.int .u64 0,.int .u64 0,.int .u64 0,.int .u64 0] 143))
 rw [hz1] at HW1
 obtain ⟨g5,hg5⟩:∃ g5,g5=w.heap.size+1:=⟨_,rfl⟩
 have HG:=aj hg5
 clear hz1 hz2
 go_enter Tryz.func57,Tryz.ntmps57
 go_wp2_with fail
 have HA0:=aj (show Whole ((w.alloc (.cells (aQ bK) 54)).alloc (.cells #[.int .u64 0,.int .u64 0,.int .u64 0,.int .u64 0,.int .u64 0] 143)) g5 143 #[.int .u64 (pv b 0 0:Nat),.int .u64 (pv b 0 1:Nat),.int .u64 (pv b 0 2:Nat),.int .u64 (pv b 0 3:Nat),.int .u64 (pv b 0 4:Nat)] by simp only [ajd];rw [hg5];exact HW1.out)
 rw [← hg5]
 clear hg5 HW1
 go_loopw [15] (fun vi wr=>∃ i:Nat,i≤40∧vi = .int .i64 (i:Nat)∧Hid (Whole wr g5 143 #[.int .u64 (pv b i 0:Nat),.int .u64 (pv b i 1:Nat),.int .u64 (pv b i 2:Nat),.int .u64 (pv b i 3:Nat),.int .u64 (pv b i 4:Nat)])∧Hid (Whole wr w.heap.size 54 (aQ bK))∧Hid (Below w.heap.size w wr)) (fun vi _=>40-(intOf vi).toNat)
 case atStart=>exact ⟨0,by omega,rfl,HA0,HW0,HB0⟩
 case round =>
  obtain ⟨i,hi,rfl,HA,HR,HB⟩:=hrel
  by_cases hlt:i<40
  ·have hib:i<b.length:=by rw [HL.out];omega
   have cb:=(HB.out.cell (p:=⟨bb,off+i,none⟩) (lt_of_cell (HC.out i hib))).trans (HC.out i hib)
   have x1:(i:Int)<40:=by omega
   have x2:(0:Int)≤(i:Int):=by omega
   have HI:=aj hlt
   have hsame:=fun k (h:k=i / 8)=>And.intro (ajc b h hib) (aja b h hib)
   have hoth:=fun k (h:k≠i / 8)=>ajb b (i:=i) h
   generalize b[i]=x at *
   have hc5:i / 8=0∨i / 8=1∨i / 8=2∨i / 8=3∨i / 8=4:=by omega
   clear hib hlt hi
   rcases hc5 with hj | hj | hj | hj | hj
   ·have hq:Int.tdiv (i:Int) 8=0:=by rw [Int.tdiv_eq_ediv_of_nonneg (by omega)];omega
    obtain ⟨hs1,hs2⟩:=hsame 0 hj.symm
    have hor:=qm x hs2
    rw [← hs1] at hor
    have c0:=HA.out.cell 0 _ rfl
    have HSt:=aj (fun v=>HA.out.store 0 v)
    have HO:=aj (And.intro (hoth 1 (by omega)) (And.intro (hoth 2 (by omega)) (And.intro (hoth 3 (by omega)) (hoth 4 (by omega)))))
    obtain ⟨m,hm⟩:∃ m,m=pv b i 0:=⟨_,rfl⟩
    obtain ⟨m',hm'⟩:∃ m',m'=pv b (i+1) 0:=⟨_,rfl⟩
    rw [← hm,← hm'] at hor
    rw [← hm] at c0
    have HM:=aj hm'
    have hfz:=HA.out.free 0
    have HNe:=aj (show g5≠w.heap.size by rw [HG.out];omega)
    clear hj hsame hoth hs1 hs2 hm hm'
    go_wp2_with fail
    have HA2:=aj (HSt.out (.int .u64 (m':Nat)))
    simp only [Array.setIfInBounds,List.size_toArray,List.length_cons,List.length_nil] at HA2
    have HR2:=aj (sS HR.out HNe.out.symm 0 (.int .u64 (m':Nat)))
    have HB2:=aj (qM HB.out (show w.heap.size≤g5 by rw [HG.out];omega) 0 (.int .u64 (m':Nat)))
    rw [HM.out] at HA2 HR2 HB2 ⊢
    rw [← HO.out.1,← HO.out.2.1,← HO.out.2.2.1,← HO.out.2.2.2] at HA2
    go_roundw
    case rel=>exact ⟨i+1,by have:=HI.out;omega,by go_num,HA2,HR2,HB2⟩
    case measure=>have:=HI.out;simp [intOf];omega
   ·have hq:Int.tdiv (i:Int) 8=1:=by rw [Int.tdiv_eq_ediv_of_nonneg (by omega)];omega
    obtain ⟨hs1,hs2⟩:=hsame 1 hj.symm
    have hor:=qm x hs2
    rw [← hs1] at hor
    have c0:=HA.out.cell 1 _ rfl
    have HSt:=aj (fun v=>HA.out.store 1 v)
    have HO:=aj (And.intro (hoth 0 (by omega)) (And.intro (hoth 2 (by omega)) (And.intro (hoth 3 (by omega)) (hoth 4 (by omega)))))
    obtain ⟨m,hm⟩:∃ m,m=pv b i 1:=⟨_,rfl⟩
    obtain ⟨m',hm'⟩:∃ m',m'=pv b (i+1) 1:=⟨_,rfl⟩
    rw [← hm,← hm'] at hor
    rw [← hm] at c0
    have HM:=aj hm'
    have hfz:=HA.out.free 1
    have HNe:=aj (show g5≠w.heap.size by rw [HG.out];omega)
    clear hj hsame hoth hs1 hs2 hm hm'
    go_wp2_with fail
    have HA2:=aj (HSt.out (.int .u64 (m':Nat)))
    simp only [Array.setIfInBounds,List.size_toArray,List.length_cons,List.length_nil] at HA2
    have HR2:=aj (sS HR.out HNe.out.symm 1 (.int .u64 (m':Nat)))
    have HB2:=aj (qM HB.out (show w.heap.size≤g5 by rw [HG.out];omega) 1 (.int .u64 (m':Nat)))
    rw [HM.out] at HA2 HR2 HB2 ⊢
    rw [← HO.out.1,← HO.out.2.1,← HO.out.2.2.1,← HO.out.2.2.2] at HA2
    go_roundw
    case rel=>exact ⟨i+1,by have:=HI.out;omega,by go_num,HA2,HR2,HB2⟩
    case measure=>have:=HI.out;simp [intOf];omega
   ·have hq:Int.tdiv (i:Int) 8=2:=by rw [Int.tdiv_eq_ediv_of_nonneg (by omega)];omega
    obtain ⟨hs1,hs2⟩:=hsame 2 hj.symm
    have hor:=qm x hs2
    rw [← hs1] at hor
    have c0:=HA.out.cell 2 _ rfl
    have HSt:=aj (fun v=>HA.out.store 2 v)
    have HO:=aj (And.intro (hoth 0 (by omega)) (And.intro (hoth 1 (by omega)) (And.intro (hoth 3 (by omega)) (hoth 4 (by omega)))))
    obtain ⟨m,hm⟩:∃ m,m=pv b i 2:=⟨_,rfl⟩
    obtain ⟨m',hm'⟩:∃ m',m'=pv b (i+1) 2:=⟨_,rfl⟩
    rw [← hm,← hm'] at hor
    rw [← hm] at c0
    have HM:=aj hm'
    have hfz:=HA.out.free 2
    have HNe:=aj (show g5≠w.heap.size by rw [HG.out];omega)
    clear hj hsame hoth hs1 hs2 hm hm'
    go_wp2_with fail
    have HA2:=aj (HSt.out (.int .u64 (m':Nat)))
    simp only [Array.setIfInBounds,List.size_toArray,List.length_cons,List.length_nil] at HA2
    have HR2:=aj (sS HR.out HNe.out.symm 2 (.int .u64 (m':Nat)))
    have HB2:=aj (qM HB.out (show w.heap.size≤g5 by rw [HG.out];omega) 2 (.int .u64 (m':Nat)))
    rw [HM.out] at HA2 HR2 HB2 ⊢
    rw [← HO.out.1,← HO.out.2.1,← HO.out.2.2.1,← HO.out.2.2.2] at HA2
    go_roundw
    case rel=>exact ⟨i+1,by have:=HI.out;omega,by go_num,HA2,HR2,HB2⟩
    case measure=>have:=HI.out;simp [intOf];omega
   ·have hq:Int.tdiv (i:Int) 8=3:=by rw [Int.tdiv_eq_ediv_of_nonneg (by omega)];omega
    obtain ⟨hs1,hs2⟩:=hsame 3 hj.symm
    have hor:=qm x hs2
    rw [← hs1] at hor
    have c0:=HA.out.cell 3 _ rfl
    have HSt:=aj (fun v=>HA.out.store 3 v)
    have HO:=aj (And.intro (hoth 0 (by omega)) (And.intro (hoth 1 (by omega)) (And.intro (hoth 2 (by omega)) (hoth 4 (by omega)))))
    obtain ⟨m,hm⟩:∃ m,m=pv b i 3:=⟨_,rfl⟩
    obtain ⟨m',hm'⟩:∃ m',m'=pv b (i+1) 3:=⟨_,rfl⟩
    rw [← hm,← hm'] at hor
    rw [← hm] at c0
    have HM:=aj hm'
    have hfz:=HA.out.free 3
    have HNe:=aj (show g5≠w.heap.size by rw [HG.out];omega)
    clear hj hsame hoth hs1 hs2 hm hm'
    go_wp2_with fail
    have HA2:=aj (HSt.out (.int .u64 (m':Nat)))
    simp only [Array.setIfInBounds,List.size_toArray,List.length_cons,List.length_nil] at HA2
    have HR2:=aj (sS HR.out HNe.out.symm 3 (.int .u64 (m':Nat)))
    have HB2:=aj (qM HB.out (show w.heap.size≤g5 by rw [HG.out];omega) 3 (.int .u64 (m':Nat)))
    rw [HM.out] at HA2 HR2 HB2 ⊢
    rw [← HO.out.1,← HO.out.2.1,← HO.out.2.2.1,← HO.out.2.2.2] at HA2
    go_roundw
    case rel=>exact ⟨i+1,by have:=HI.out;omega,by go_num,HA2,HR2,HB2⟩
    case measure=>have:=HI.out;simp [intOf];omega
   ·have hq:Int.tdiv (i:Int) 8=4:=by rw [Int.tdiv_eq_ediv_of_nonneg (by omega)];omega
    obtain ⟨hs1,hs2⟩:=hsame 4 hj.symm
    have hor:=qm x hs2
    rw [← hs1] at hor
    have c0:=HA.out.cell 4 _ rfl
    have HSt:=aj (fun v=>HA.out.store 4 v)
    have HO:=aj (And.intro (hoth 0 (by omega)) (And.intro (hoth 1 (by omega)) (And.intro (hoth 2 (by omega)) (hoth 3 (by omega)))))
    obtain ⟨m,hm⟩:∃ m,m=pv b i 4:=⟨_,rfl⟩
    obtain ⟨m',hm'⟩:∃ m',m'=pv b (i+1) 4:=⟨_,rfl⟩
    rw [← hm,← hm'] at hor
    rw [← hm] at c0
    have HM:=aj hm'
    have hfz:=HA.out.free 4
    have HNe:=aj (show g5≠w.heap.size by rw [HG.out];omega)
    clear hj hsame hoth hs1 hs2 hm hm'
    go_wp2_with fail
    have HA2:=aj (HSt.out (.int .u64 (m':Nat)))
    simp only [Array.setIfInBounds,List.size_toArray,List.length_cons,List.length_nil] at HA2
    have HR2:=aj (sS HR.out HNe.out.symm 4 (.int .u64 (m':Nat)))
    have HB2:=aj (qM HB.out (show w.heap.size≤g5 by rw [HG.out];omega) 4 (.int .u64 (m':Nat)))
    rw [HM.out] at HA2 HR2 HB2 ⊢
    rw [← HO.out.1,← HO.out.2.1,← HO.out.2.2.1,← HO.out.2.2.2] at HA2
    go_roundw
    case rel=>exact ⟨i+1,by have:=HI.out;omega,by go_num,HA2,HR2,HB2⟩
    case measure=>have:=HI.out;simp [intOf];omega
  ·obtain rfl:i=40:=by omega
   obtain ⟨hn0,hn1,hn2,hn3,hn4,hn5⟩:=HN.out
   have HAe:=HA.out
   rw [rY b (show 0<5 by omega),rY b (show 1<5 by omega),rY b (show 2<5 by omega),rY b (show 3<5 by omega),rY b (show 4<5 by omega),hn0,hn1,hn2,hn3,hn4] at HAe
   have d0:=HAe.cell 0 _ rfl
   have d1:=HAe.cell 1 _ rfl
   have d2:=HAe.cell 2 _ rfl
   have d3:=HAe.cell 3 _ rfl
   have d4:=HAe.cell 4 _ rfl
   have hb40:40<b.length:=by rw [HL.out];omega
   have e40:b[40]=UInt8.ofNat r.v.toNat:=by
    rw [List.getElem?_eq_getElem hb40] at hn5
    exact Option.some.inj hn5
   have cb:=(HB.out.cell (p:=⟨bb,off+40,none⟩) (lt_of_cell (HC.out 40 hb40))).trans (HC.out 40 hb40)
   rw [e40,show ((UInt8.ofNat r.v.toNat).toNat:Int)=r.v by have:=HV.out;simp;omega] at cb
   obtain ⟨q0,q1⟩:=HV.out
   have HWf:=aj HR.out
   clear hn0 hn1 hn2 hn3 hn4 hn5 hb40 e40 HAe hi hlt HA
   go_wp2_with fail
   go_still_tail 15,(by kernel_rfl)
   change wpList _ _ _ _ _ wr.drew
   have HBd:=aj (Below.drew HB.out)
   have HWd:=aj (Whole.drew HWf.out)
   have HAd0:=aj (show wr.drew.cell? ⟨g5,0,none⟩=some (.int .u64 (t:Nat)) from d0)
   have HNe:=aj (show g5≠w.heap.size by rw [HG.out];omega)
   clear d0 d1 d2 d3 d4 cb HWf HB HR
   generalize wr.drew=wd at *
   obtain ⟨s0,s1,s2,s3,s4⟩:wd.frozen? ⟨w.heap.size,0,none⟩=false∧wd.frozen? ⟨w.heap.size,1,none⟩=false∧wd.frozen? ⟨w.heap.size,2,none⟩=false∧wd.frozen? ⟨w.heap.size,3,none⟩=false∧wd.frozen? ⟨w.heap.size,4,none⟩=false:=⟨HWd.out.free 0,HWd.out.free 1,HWd.out.free 2,HWd.out.free 3,HWd.out.free 4⟩
   have k0:=HWd.out.cell 0 _ rfl
   have k1:=HWd.out.cell 1 _ rfl
   have k2:=HWd.out.cell 2 _ rfl
   have k3:=HWd.out.cell 3 _ rfl
   have k4:=HWd.out.cell 4 _ rfl
   have kv:IntKind.i64.wrap r.v=r.v:=IntWalk.i64_in _ (by omega)
   go_upto_region 10 with fail
   have HWe:=aj (kD HWd.out (.int .u64 (r.p.pos:Nat)) (.int .u64 (r.p.id:Nat)) (.int .u64 (r.t.pos:Nat)) (.int .u64 (r.t.id:Nat)) (.int .i64 r.v))
   have HBe:=aj (eT HBd.out (Nat.le_refl _) (.int .u64 (r.p.pos:Nat)) (.int .u64 (r.p.id:Nat)) (.int .u64 (r.t.pos:Nat)) (.int .u64 (r.t.id:Nat)) (.int .i64 r.v))
   have HAe:=aj (fun (W:World) (hW:W=(((((wd.setCell ⟨w.heap.size,0,none⟩ (.int .u64 (r.p.pos:Nat))).setCell ⟨w.heap.size,1,none⟩ (.int .u64 (r.p.id:Nat))).setCell ⟨w.heap.size,2,none⟩ (.int .u64 (r.t.pos:Nat))).setCell ⟨w.heap.size,3,none⟩ (.int .u64 (r.t.id:Nat))).setCell ⟨w.heap.size,4,none⟩ (.int .i64 r.v)))=>show W.cell? ⟨g5,0,none⟩=some (.int .u64 (t:Nat)) from by
    have h1:=qN (qN (qN (qN (qN HAd0.out HNe.out 0 (.int .u64 (r.p.pos:Nat))) HNe.out 1 (.int .u64 (r.p.id:Nat))) HNe.out 2 (.int .u64 (r.t.pos:Nat))) HNe.out 3 (.int .u64 (r.t.id:Nat))) HNe.out 4 (.int .i64 r.v)
    rw [hW]
    exact h1)
   obtain ⟨we,hwe⟩:∃ we:World,we=(((((wd.setCell ⟨w.heap.size,0,none⟩ (.int .u64 (r.p.pos:Nat))).setCell ⟨w.heap.size,1,none⟩ (.int .u64 (r.p.id:Nat))).setCell ⟨w.heap.size,2,none⟩ (.int .u64 (r.t.pos:Nat))).setCell ⟨w.heap.size,3,none⟩ (.int .u64 (r.t.id:Nat))).setCell ⟨w.heap.size,4,none⟩ (.int .i64 r.v)):=⟨_,rfl⟩
   have a0:=HAe.out we hwe
   rw [← hwe] at HWe HBe ⊢
   clear hwe HAe HWd HBd HAd0 s0 s1 s2 s3 s4 k0 k1 k2 k3 k4
   have k0:=HWe.out.cell 0 _ rfl
   have k1:=HWe.out.cell 1 _ rfl
   have k2:=HWe.out.cell 2 _ rfl
   have k3:=HWe.out.cell 3 _ rfl
   have k4:=HWe.out.cell 4 _ rfl
   have ht0:((t:Int)==0)=false:=by have:=HOk.out.t0;rw [beq_eq_false_iff_ne];simp only at this;omega
   go_wp2_with fail
   (with_reducible refine Calls.mono (HRi.out _) ?_)
   rintro e wf ⟨rfl,hb⟩
   have HWf:=aj (HWe.out.below hb HWe.out.lt)
   have HBf:=aj (HBe.out.trans (hb.mono HBe.out.size))
   have HAf:=aj ((hb.cell (p:=⟨g5,0,none⟩) (lt_of_cell a0)).trans a0)
   clear hb a0 k0 k1 k2 k3 k4
   have a0:=HAf.out
   have k0:=HWf.out.cell 0 _ rfl
   have k1:=HWf.out.cell 1 _ rfl
   have k2:=HWf.out.cell 2 _ rfl
   have k3:=HWf.out.cell 3 _ rfl
   have k4:=HWf.out.cell 4 _ rfl
   go_wp2_with fail
   obtain ⟨s0,s1,s2,s3,s4⟩:wf.frozen? ⟨w.heap.size,0,none⟩=false∧wf.frozen? ⟨w.heap.size,1,none⟩=false∧wf.frozen? ⟨w.heap.size,2,none⟩=false∧wf.frozen? ⟨w.heap.size,3,none⟩=false∧wf.frozen? ⟨w.heap.size,4,none⟩=false:=⟨HWf.out.free 0,HWf.out.free 1,HWf.out.free 2,HWf.out.free 3,HWf.out.free 4⟩
   have hne:=HNe.out
   go_region
   have HWh:=aj (kD HWf.out (.int .u64 (r.p.pos:Nat)) (.int .u64 (r.p.id:Nat)) (.int .u64 (r.t.pos:Nat)) (.int .u64 (r.t.id:Nat)) (.int .i64 r.v))
   have HBh:=aj (eT HBf.out (Nat.le_refl _) (.int .u64 (r.p.pos:Nat)) (.int .u64 (r.p.id:Nat)) (.int .u64 (r.t.pos:Nat)) (.int .u64 (r.t.id:Nat)) (.int .i64 r.v))
   generalize (((((wf.setCell ⟨w.heap.size,0,none⟩ (.int .u64 (r.p.pos:Nat))).setCell ⟨w.heap.size,1,none⟩ (.int .u64 (r.p.id:Nat))).setCell ⟨w.heap.size,2,none⟩ (.int .u64 (r.t.pos:Nat))).setCell ⟨w.heap.size,3,none⟩ (.int .u64 (r.t.id:Nat))).setCell ⟨w.heap.size,4,none⟩ (.int .i64 r.v))=wg at *
   have HWi:=aj (Whole.drew HWh.out)
   have HBi:=aj (Below.drew HBh.out)
   clear HWh HBh HWf HBf a0 k0 k1 k2 k3 k4 s0 s1 s2 s3 s4
   generalize wg.drew=wh at *
   have k0:=HWi.out.cell 0 (.int .u64 (r.p.pos:Nat)) rfl
   have k1:=HWi.out.cell 1 (.int .u64 (r.p.id:Nat)) rfl
   have k2:=HWi.out.cell 2 (.int .u64 (r.t.pos:Nat)) rfl
   have k3:=HWi.out.cell 3 (.int .u64 (r.t.id:Nat)) rfl
   have k4:=HWi.out.cell 4 (.int .i64 r.v) rfl
   go_wp2_with fail
   exact bodyPost_ret (v := .tuple #[.int .u64 (t:Nat),aK r,.int .i64 0]) (by simp [results,Tryz.results57,go_sem,k0,k1,k2,k3,k4]) rfl ⟨rfl,HBi.out⟩
end Rp
end Go.Proofs.YtpcmlopbkehffaaGreat
