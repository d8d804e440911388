/-
  The files of the log that lies on a disk.
-/
import Derived.Test.YtpcmlopbkehffaaGreatOGAF
import Derived.Test.YtpcmlopbkehffaaGreatOGAG
import Derived.Test.YtpcmlopbkehffaaGreatOGAK
set_option linter.unusedSimpArgs false
set_option linter.unusedVariables false
namespace Go.Proofs.YtpcmlopbkehffaaGreat
open Go.RowKit Fm Dsk
namespace Wl
def mO (num:Nat):FS:=⟨num,0,[],[],0⟩
structure ji (B:Nat) (w:World) (gd:Nat) (Qd X:Nat→Prop) (P:Nat→Nat→Prop) (g:Nat→Nat) (Af:Option Addr) (cf:Nat) (d:ak) (i:Nat) (L:List FS) (G:Nat→Prop):Prop where
 dk:Dk w gd Qd d
 dx:∀ q,Qd q→X q
 xlt:∀ q,X q→q<w.heap.size
 zX:∀ q,X q→Qd q∨G q∨B≤q
 gx:∀ q,G q→X q
 ax:∀ q,aB Af=some q→X q
 row:bC 132 w Af L.length cf (ptrs g L.length)
 fs:∀ j (h:j<L.length),dO w X (P j) (g j) L[j]
 blank:∀ j (h:j<L.length),i≤j→Whole w (g j) 134 #[.int .i64 (L[j].num:Nat),.int .u64 0,.slice none 0 0,.slice none 0 0,.int .i64 0]
 lo:∀ j,j<L.length→∀ q,P j q→B≤q
 af:∀ k,aB Af=some k→B≤k
 pa:∀ j,j<L.length→∀ k,aB Af=some k→¬ P j k
 pd:∀ j,j<L.length→∀ q,P j q→¬ Qd q
 pp:∀ a b,a<L.length→b<L.length→a≠b→∀ q,P a q→¬ P b q
theorem ji.below {B:Nat} {w w':World} {gd:Nat} {Qd X:Nat→Prop} {P:Nat→Nat→Prop} {g:Nat→Nat} {Af:Option Addr} {cf:Nat} {d:ak} {i:Nat} {L:List FS} {G:Nat→Prop} (h:ji B w gd Qd X P g Af cf d i L G) (k:Below w.heap.size w w'):ji B w' gd Qd X P g Af cf d i L G :=
 ⟨h.dk.below k,h.dx,fun q hq=>Nat.lt_of_lt_of_le (h.xlt q hq) k.size,h.zX,h.gx,h.ax,h.row.below k,fun j hj=>(h.fs j hj).below k,fun j hj hij=>(h.blank j hj hij).below k (h.blank j hj hij).lt,h.lo,h.af,h.pa,h.pd,h.pp⟩
theorem ji.ah1 {B:Nat} {w:World} {gd base n:Nat} {Qd:Nat→Prop} {g:Nat→Nat} {Af:Option Addr} {cf:Nat} {d:ak} (h:jI B w base n g Af cf) (hd:Dk w gd Qd d) (hq:∀ q,Qd q→q<B) (hqw:B≤w.heap.size) {G:Nat→Prop} (hG:∀ q,G q→q<w.heap.size) :
  ji B w gd Qd (fun q=>Qd q∨G q∨aB Af=some q∨∃ j,j<n∧q=g j) (fun j q=>q=g j) g Af cf d 0 ((List.range n).map (fun j=>mO (rg base j))) G:=by
 have hl:((List.range n).map (fun j=>mO (rg base j))).length=n:=by simp
 have hg:∀ j (h:j<((List.range n).map (fun j=>mO (rg base j))).length),((List.range n).map (fun j=>mO (rg base j)))[j]=mO (rg base j):=fun j hj=>by simp
 refine ⟨hd,fun q hq => .inl hq,?_,?_,fun q hq => .inr (.inl hq),fun q hq => .inr (.inr (.inl hq)),by rw [hl];exact h.row,fun j hj=>?_,fun j hj _=>?_,fun j hj q hq2=>?_,h.af,fun j hj k hk e=>?_,fun j hj q hq2 hq3=>?_,fun a b ha hb hab q h1 h2=>?_⟩
 ·rintro q (hq2 | hq2 | hq2 | ⟨j,hj,rfl⟩)
  ·have:=hq q hq2;omega
  ·exact hG q hq2
  ·exact h.row.dB q hq2
  ·exact (h.blank j hj).lt
 ·rintro q (hq2 | hq2 | hq2 | ⟨j,hj,rfl⟩)
  ·exact .inl hq2
  ·exact .inr (.inl hq2)
  ·exact .inr (.inr (h.af q hq2))
  ·exact .inr (.inr (h.lo j hj))
 ·rw [hg j hj]
  exact yt (h.blank j (by rwa [hl] at hj)) (.inr (.inr (.inr ⟨j,by rwa [hl] at hj,rfl⟩)))
 ·rw [hg j hj]
  exact h.blank j (by rwa [hl] at hj)
 ·rw [hq2];exact h.lo j (by rwa [hl] at hj)
 ·rw [hl] at hj
  obtain ⟨cur,hc⟩:=jG h.row hk
  rw [e] at hc
  exact absurd (kE hc (h.blank j hj)) (by decide)
 ·rw [hl] at hj
  have:=h.lo j hj
  have:=hq q hq3
  omega
 ·rw [hl] at ha hb
  exact h.inj a b ha hb hab (by rw [← h1,← h2])
theorem ji.load {B:Nat} {w w':World} {gd:Nat} {Qd X X' P':Nat→Prop} {P:Nat→Nat→Prop} {g:Nat→Nat} {Af:Option Addr} {cf:Nat} {d:ak} {i:Nat} {L:List FS} {G:Nat→Prop} {f':FS} (h:ji B w gd Qd X P g Af cf d i L G) (hi:i<L.length) (hl:Ld w w' (g i) X (P i) f' X' P') (hB:B≤w.heap.size) :
  ji B w' gd Qd X' (lu P i P') g Af cf d (i+1) (L.set i f') G:=by
 have hpi:∀ q,P' q→P i q∨w.heap.size≤q:=hl.p
 have hlen:(L.set i f').length=L.length:=List.length_set
 refine ⟨h.dk.tn hl.tn (fun q hq hq2=>h.pd i hi q hq2 hq),fun q hq=>hl.xx q (h.dx q hq),hl.xlt,fun q hq=>?_,fun q hq=>hl.xx q (h.gx q hq),fun q hq=>hl.xx q (h.ax q hq),?_,fun j hj=>?_,fun j hj hij=>?_,fun j hj q hq=>?_,h.af,fun j hj k hk hq=>?_,fun j hj q hq hq2=>?_,fun a b ha hb hab q h1 h2=>?_⟩
 ·rcases hl.x q hq with h3 | h3
  ·exact h.zX q h3
  ·right;right;omega
 ·rw [hlen]
  exact h.row.stands (fun b hb=>hl.tn.block b (h.row.dB b hb) (h.pa i hi b hb))
 ·by_cases e:j=i
  ·subst e
   rw [iK,List.getElem_set_self]
   exact hl.fs
  ·rw [gP _ _ e,List.getElem_set_ne (Ne.symm e)]
   have hj2:j<L.length:=by rwa [hlen] at hj
   exact ((h.fs j hj2).more hl.x (fun q hq=>hl.xx q ((h.fs j hj2).px q hq))).tn hl.tn (fun q hq hq2=>h.pp j i hj2 hi e q hq hq2) (fun q hq => .inl (hl.xx q ((h.fs i hi).px q hq)))
 ·have hj2:j<L.length:=by rwa [hlen] at hj
  have e:i≠j:=by omega
  have hb:=h.blank j hj2 (by omega)
  simp only [List.getElem_set_ne e]
  exact hb.tn hl.tn (fun hq=>h.pp i j hi hj2 e _ hq (h.fs j hj2).pg)
 ·rw [hlen] at hj
  by_cases e:j=i
  ·subst e
   rw [iK] at hq
   rcases hpi q hq with h3 | h3
   ·exact h.lo j hj q h3
   ·omega
  ·rw [gP _ _ e] at hq
   exact h.lo j hj q hq
 ·rw [hlen] at hj
  by_cases e:j=i
  ·subst e
   rw [iK] at hq
   rcases hpi k hq with h3 | h3
   ·exact h.pa j hj k hk h3
   ·have:=h.row.dB k hk;omega
  ·rw [gP _ _ e] at hq
   exact h.pa j hj k hk hq
 ·rw [hlen] at hj
  by_cases e:j=i
  ·subst e
   rw [iK] at hq
   rcases hpi q hq with h3 | h3
   ·exact h.pd j hj q h3 hq2
   ·have:=h.xlt q (h.dx q hq2);omega
  ·rw [gP _ _ e] at hq
   exact h.pd j hj q hq hq2
 ·rw [hlen] at ha hb
  by_cases e:a=i
  ·subst e
   rw [iK] at h1
   rw [gP _ _ (Ne.symm hab)] at h2
   rcases hpi q h1 with h3 | h3
   ·exact h.pp a b ha hb hab q h3 h2
   ·have:=(h.fs b hb).plt q h2;omega
  ·rw [gP _ _ e] at h1
   by_cases e2:b=i
   ·subst e2
    rw [iK] at h2
    rcases hpi q h2 with h3 | h3
    ·exact h.pp a b ha hb hab q h1 h3
    ·have:=(h.fs a ha).plt q h1;omega
   ·rw [gP _ _ e2] at h2
    exact h.pp a b ha hb hab q h1 h2
structure lI (d:ak) (base n:Nat) (C:Nat→List UInt8):Prop where
 files:dW d.F=kZ base n
 up:d.down=false
 has:∀ i,i<n→∃ ff,d.F (rg base i)=some ⟨C i,ff⟩
 len:∀ i,i<n→(C i).length≤1048576
 head:∀ i,i<n→oh (C i)
 ahead:∀ i,i+1<n→(bF (rg base i) (C i)).dL=0∧64≤(bF (rg base i) (C i)).all.length
 follows:∀ i,i+1<n→(bF (rg base (i+1)) (C (i+1))).all=[]∨(bF (rg base (i+1)) (C (i+1))).first=aO (bF (rg base i) (C i))
 next:∀ i,i<n→aO (bF (rg base i) (C i))<18446744073709551616∧(bF (rg base i) (C i)).recs.length≤9223372036854775807
 n63:n≤63
 b64:base<64
def dZ (base n:Nat) (C:Nat→List UInt8) (i:Nat):List FS:=(List.range n).map (fun j=>if j<i then bF (rg base j) (C j) else mO (rg base j))
theorem jo (base n:Nat) (C:Nat→List UInt8) (i:Nat):(dZ base n C i).length=n:=by simp [dZ]
theorem nS (base n:Nat) (C:Nat→List UInt8) (i j:Nat) (h:j<(dZ base n C i).length):(dZ base n C i)[j]=if j<i then bF (rg base j) (C j) else mO (rg base j):=by simp [dZ]
theorem ag1 (base n:Nat) (C:Nat→List UInt8):dZ base n C 0=(List.range n).map (fun j=>mO (rg base j)):=by simp [dZ]
theorem ag0 (base n:Nat) (C:Nat→List UInt8) (i:Nat):(dZ base n C i).set i (bF (rg base i) (C i))=dZ base n C (i+1):=by
 refine List.ext_getElem (by simp [dZ]) (fun j h1 h2=>?_)
 rw [nS]
 by_cases e:i=j
 ·subst e
  rw [List.getElem_set_self,if_pos (Nat.lt_succ_self _)]
 ·rw [List.getElem_set_ne e,nS]
  by_cases h3:j<i
  ·rw [if_pos h3,if_pos (by omega)]
  ·rw [if_neg h3,if_neg (by omega)]
def ael (w:World) (gd:Nat) (Qd:Nat→Prop) (d:ak) (base n:Nat) (C:Nat→List UInt8) (G:Nat→Prop) (e:Ending) (w':World):Prop:=∃ Af cf g X P,e = .returned (.tuple #[.slice Af n cf,.int .i64 0])∧ji w.heap.size w' gd Qd X P g Af cf d n (dZ base n C n) G∧Below w.heap.size w w'
set_option maxRecDepth 20000 in
set_option maxHeartbeats 8000000 in
theorem pY (gd:Nat) (Qd:Nat→Prop) (d:ak) (base n:Nat) (C:Nat→List UInt8) (w:World) (hd:Dk w gd Qd d) (h:lI d base n C) (G:Nat→Prop) (hG:∀ q,G q→q<w.heap.size):Calls Tryz.prog 81 #[.pointer (some ⟨gd,0,none⟩)] w (ael w gd Qd d base n C G):=by
 have HFi:=aj (qW gd Qd d w hd)
 unfold mI at HFi
 rw [h.files,qc] at HFi
 have HD:=aj hd
 have HG:=aj hG
 have H:=aj h
 have hn63:=h.n63
 clear h hd hG
 go_enter Tryz.func81,Tryz.ntmps81
 go_wp2_with fail
 (with_reducible refine Calls.mono HFi.out ?_)
 rintro e w1 ⟨A,c,rfl,ho,hb⟩
 have HR:=aj (akq A base n c w.heap.size w1 ho H.out.n63 H.out.b64)
 have HB1:=aj hb
 clear ho hb
 go_wp2_with fail
 (with_reducible refine Calls.mono HR.out ?_)
 rintro e w2 ⟨Af,cf,g,rfl,hr,hb⟩
 have hr2:jI w.heap.size w2 base n g Af cf:=⟨hr.row,hr.blank,fun i hi=>Nat.le_trans HB1.out.size (hr.lo i hi),hr.inj,fun k hk=>Nat.le_trans HB1.out.size (hr.af k hk)⟩
 have HB2:=aj (HB1.out.trans (hb.mono HB1.out.size))
 have HQ:=aj HD.out.qlt
 have HP0:=aj (ji.ah1 hr2 (HD.out.below HB2.out) HD.out.qlt HB2.out.size (G:=G) (fun q hq=>Nat.lt_of_lt_of_le (HG.out q hq) HB2.out.size))
 rw [← ag1 base n C] at HP0
 have hcf:=hr.row.2.1
 have hcm:=hr.row.2.2.1
 clear hr hb hr2
 go_wp2_with fail
 have hlL:=jo base n C
 have HBb:=aj HB2.out.size
 go_loopw [21] (fun vi wr=>∃ (i:Nat) (X:Nat→Prop) (P:Nat→Nat→Prop),i≤n∧vi = .int .i64 (i:Nat)∧Hid (ji w.heap.size wr gd Qd X P g Af cf d i (dZ base n C i) G)∧Hid (Below w.heap.size w wr)) (fun vi _=>n-(intOf vi).toNat)
 case atStart=>exact ⟨0,_,_,Nat.zero_le _,rfl,HP0,HB2⟩
 case round =>
  obtain ⟨i,X,P,hi,rfl,HP,HB⟩:=hrel
  by_cases hlt:i<n
  ·obtain ⟨b,off,rfl,hc⟩:∃ b off,Af=some ⟨b,off,none⟩∧∀ j,j<n→wr.cell? ⟨b,off+j,none⟩=some (dG (g j)):=by
    have hr:=HP.out.row
    rw [jo] at hr
    obtain ⟨b,off,e,hc⟩:=hr.holds (by intro e;have:=congrArg List.length e;rw [ni] at this;simp at this;omega)
    exact ⟨b,off,e,fun j hj=>hc j _ (nV g hj)⟩
   have hcell:=hc i hlt
   have x1:(i:Int)<(n:Int):=by omega
   have x2:(0:Int)≤(i:Int):=by omega
   have x5:(n:Int)≤63:=by omega
   have k1:IntKind.i64.wrap ((n:Int)-1)=(n:Int)-1:=IntWalk.i64_in _ (by omega)
   have hiL:i<(dZ base n C i).length:=by rw [hlL];exact hlt
   have hget:(dZ base n C i)[i]=mO (rg base i):=by rw [nS,if_neg (by omega)]
   have hbl:=HP.out.blank i hiL (Nat.le_refl _)
   rw [hget] at hbl
   have hfs:=HP.out.fs i hiL
   rw [hget] at hfs
   obtain ⟨ff,hff⟩:=H.out.has i hlt
   have hnum:rg base i<64:=iF _ _
   have HWs:=aj (Nat.le_trans HBb.out (Nat.le_refl _))
   have HSz:=aj HB.out.size
   have HLd:=aj (fun (X' P':Nat→Prop) (w':World) (hl:Ld wr w' (g i) X (P i) (bF (rg base i) (C i)) X' P')=>show ji w.heap.size w' gd Qd X' (lu P i P') g (some ⟨b,off,none⟩) cf d (i+1) (dZ base n C (i+1)) G∧Below w.heap.size w w' by
    have h1:=HP.out.load hiL hl HSz.out
    rw [ag0] at h1
    exact ⟨h1,Tn.below HB.out hl.tn (fun q hq=>HP.out.lo i hiL q hq) HSz.out⟩)
   have HK:=aj hlt
   by_cases hlast:i+1=n
   ·have HC:=aj (ach X (P i) (g i) gd Qd d (rg base i) (C i) ff wr hfs hbl HP.out.dk H.out.up hff hnum (H.out.len i hlt) (H.out.head i hlt) HP.out.xlt)
    have k3:IntKind.i64.wrap ((n:Int)-1)=(i:Int):=by rw [k1];omega
    clear hbl hfs hff hnum hget hiL hc hlt hi hlast k1
    rcases Nat.eq_zero_or_pos i with hi0 | hi0
    ·subst hi0
     rw [Nat.add_zero] at hcell
     go_wp2_with fail
     (with_reducible refine Calls.mono HC.out ?_)
     rintro e w3 ⟨rfl,X',P',hl⟩
     have h3:=HLd.out X' P' w3 hl
     have HP3:=aj h3.1
     have HB3:=aj h3.2
     clear h3 hl
     go_wp2_with fail
     go_roundw
     case rel =>
      exact ⟨0+1,X',_,by have:=HK.out;omega,by go_num,HP3,HB3⟩
     case measure=>have:=HK.out;simp [intOf];omega
    ·have y1:(0:Int)<(i:Int):=by omega
     have y2:(0:Int)≤(i:Int)-1:=by omega
     have y3:(i:Int)-1<(n:Int):=by omega
     have y4:IntKind.i64.wrap ((i:Int)-1)=(i:Int)-1:=IntWalk.i64_in _ (by omega)
     have y5:((i:Int)-1).toNat=i-1:=by omega
     go_wp2_with fail
     (with_reducible refine Calls.mono HC.out ?_)
     rintro e w3 ⟨rfl,X',P',hl⟩
     have h3:=HLd.out X' P' w3 hl
     have HP3:=aj h3.1
     have HB3:=aj h3.2
     have hcell3:w3.cell? ⟨b,off+(i-1),none⟩=some (dG (g (i-1))):=by
      have hr:=HP3.out.row
      rw [jo] at hr
      obtain ⟨b',off',e,hc⟩:=hr.holds (by intro e;have h9:=congrArg List.length e;rw [ni] at h9;have:=HK.out;simp at h9;omega)
      injection e with e
      injection e with e3 e4
      subst e3 e4
      exact hc (i-1) _ (nV g (by have:=HK.out;omega))
     have HFo:=aj (by
      have h4:=HP3.out.fs i (by rw [hlL];exact HK.out)
      have h5:=HP3.out.fs (i-1) (by rw [hlL];have:=HK.out;omega)
      rw [nS,if_pos (by omega)] at h4 h5
      have h6:=H.out.next (i-1) (by have:=HK.out;omega)
      have h7:=H.out.follows (i-1) (by have:=HK.out;omega)
      rw [show i-1+1=i by omega] at h7
      exact abL _ _ _ _ _ _ _ _ w3 h4 h5 h6.1 h6.2 h7)
     clear h3 hl hi0
     go_wp2_with fail
     (with_reducible refine Calls.mono HFo.out ?_)
     rintro e w4 ⟨rfl,hb4⟩
     have HP4:=aj (HP3.out.below hb4)
     have HB4:=aj (HB3.out.trans (hb4.mono (by exact HB3.out.size)))
     clear hb4
     go_wp2_with fail
     go_roundw
     case rel=>exact ⟨i+1,X',_,by have:=HK.out;omega,by go_num,HP4,HB4⟩
     case measure=>have:=HK.out;simp [intOf];omega
   ·have hal:=H.out.ahead i (by omega)
    have HC:=aj (agY X (P i) (g i) gd Qd d (rg base i) (C i) ff wr hfs hbl HP.out.dk H.out.up hff hnum (H.out.len i hlt) (H.out.head i hlt) HP.out.xlt hal.1 hal.2)
    have e1:((i:Int)==(n:Int)-1)=false:=by rw [beq_eq_false_iff_ne];omega
    have e2:¬ (i:Int)=(n:Int)-1:=by omega
    clear hbl hfs hff hnum hget hiL hc hlt hi hlast hal
    rcases Nat.eq_zero_or_pos i with hi0 | hi0
    ·subst hi0
     rw [Nat.add_zero] at hcell
     go_wp2_with fail
     (with_reducible refine Calls.mono HC.out ?_)
     rintro e w3 ⟨rfl,X',P',hl⟩
     have h3:=HLd.out X' P' w3 hl
     have HP3:=aj h3.1
     have HB3:=aj h3.2
     clear h3 hl
     go_wp2_with fail
     go_roundw
     case rel =>
      exact ⟨0+1,X',_,by have:=HK.out;omega,by go_num,HP3,HB3⟩
     case measure=>have:=HK.out;simp [intOf];omega
    ·have y1:(0:Int)<(i:Int):=by omega
     have y2:(0:Int)≤(i:Int)-1:=by omega
     have y3:(i:Int)-1<(n:Int):=by omega
     have y4:IntKind.i64.wrap ((i:Int)-1)=(i:Int)-1:=IntWalk.i64_in _ (by omega)
     have y5:((i:Int)-1).toNat=i-1:=by omega
     go_wp2_with fail
     (with_reducible refine Calls.mono HC.out ?_)
     rintro e w3 ⟨rfl,X',P',hl⟩
     have h3:=HLd.out X' P' w3 hl
     have HP3:=aj h3.1
     have HB3:=aj h3.2
     have hcell3:w3.cell? ⟨b,off+(i-1),none⟩=some (dG (g (i-1))):=by
      have hr:=HP3.out.row
      rw [jo] at hr
      obtain ⟨b',off',e,hc⟩:=hr.holds (by intro e;have h9:=congrArg List.length e;rw [ni] at h9;have:=HK.out;simp at h9;omega)
      injection e with e
      injection e with e3 e4
      subst e3 e4
      exact hc (i-1) _ (nV g (by have:=HK.out;omega))
     have HFo:=aj (by
      have h4:=HP3.out.fs i (by rw [hlL];exact HK.out)
      have h5:=HP3.out.fs (i-1) (by rw [hlL];have:=HK.out;omega)
      rw [nS,if_pos (by omega)] at h4 h5
      have h6:=H.out.next (i-1) (by have:=HK.out;omega)
      have h7:=H.out.follows (i-1) (by have:=HK.out;omega)
      rw [show i-1+1=i by omega] at h7
      exact abL _ _ _ _ _ _ _ _ w3 h4 h5 h6.1 h6.2 h7)
     clear h3 hl hi0
     go_wp2_with fail
     (with_reducible refine Calls.mono HFo.out ?_)
     rintro e w4 ⟨rfl,hb4⟩
     have HP4:=aj (HP3.out.below hb4)
     have HB4:=aj (HB3.out.trans (hb4.mono (by exact HB3.out.size)))
     clear hb4
     go_wp2_with fail
     go_roundw
     case rel=>exact ⟨i+1,X',_,by have:=HK.out;omega,by go_num,HP4,HB4⟩
     case measure=>have:=HK.out;simp [intOf];omega
  ·obtain rfl:i=n:=by omega
   have x1:¬ (i:Int)<(i:Int):=by omega
   clear hlt
   go_wp2_with fail
   go_ret2
   exact ⟨_,_,g,X,P,rfl,HP.out,HB.out⟩
end Wl
end Go.Proofs.YtpcmlopbkehffaaGreat
namespace Go.Proofs.YtpcmlopbkehffaaGreat
open Go.RowKit Fm Dsk
namespace Wl
def gH (d:ak) (f:FS):ak:=if f.all=[] then fG d (f.num:Nat) else if f.dL=0 then d else gV d (f.num:Nat) (f.all.length:Nat)
def iO (f:FS):FS:=⟨f.num,f.first,f.recs,f.all,if f.all=[] then f.dL else 0⟩
structure Md (w w':World) (g gd:Nat) (Qd X P:Nat→Prop) (d':ak) (f':FS) (Qd':Nat→Prop):Prop where
 dk:Dk w' gd Qd' d'
 fs:dO w' (fun q=>X q∨Qd' q) P g f'
 tn:Tn (fun q=>Qd q∨P q) w w'
 qd:∀ q,Qd' q→Qd q∨w.heap.size≤q
def vO (w:World) (g gd:Nat) (Qd X P:Nat→Prop) (d:ak) (f:FS) (e:Ending) (w':World):Prop:=e = .returned (.tuple #[.bool (!f.all.isEmpty),.int .i64 0])∧∃ Qd',Md w w' g gd Qd X P (gH d f) (iO f) Qd'
theorem xU {w w1 w':World} {g gd:Nat} {Qd X P Qd':Nat→Prop} {d' d2:ak} {f1 f2:FS} (h:dO w1 X P g f1) (t1:Tn P w w1) (hd:Dk w' gd Qd' d') (t2:Tn Qd w1 w') (hq:∀ q,Qd' q→Qd q∨w1.heap.size≤q) (hpd:∀ q,P q→¬ Qd q) (hdx:∀ q,Qd q→X q) (ed:d'=d2) (ef:f1=f2):Md w w' g gd Qd X P d2 f2 Qd':=by
 subst ed ef
 have hs:=t1.size
 refine ⟨hd,(h.more (fun q hq2=>?_) (fun q hq2 => .inl (h.px q hq2))).tn t2 hpd (fun q hq2 => .inl (.inl (hdx q hq2))),(t1.sub (fun q hq => .inr hq)).trans t2 (fun q hq => .inl (.inl hq)),fun q hq2=>?_⟩
 ·rcases hq2 with h3 | h3
  ·exact .inl h3
  ·rcases hq q h3 with h4 | h4
   ·exact .inl (hdx q h4)
   ·exact .inr h4
 ·rcases hq q hq2 with h4 | h4
  ·exact .inl h4
  ·right;omega
theorem xS {w w':World} {g gd:Nat} {Qd X P Qd':Nat→Prop} {d:ak} {f:FS} {b:Bool} {k:Int} (hb:b = !f.all.isEmpty) (hk:k=0) (h:Md w w' g gd Qd X P (gH d f) (iO f) Qd'):vO w g gd Qd X P d f (.returned (.tuple #[.bool b,.int .i64 k])) w':=by
 subst hb hk
 exact ⟨rfl,Qd',h⟩
abbrev qD (g:Nat) (v v':Value) (W:World):Prop:=W.cell? ⟨g,0,none⟩=some v∧W.cell? ⟨g,3,none⟩=some v'
theorem abB {g:Nat} {v v':Value} {W W':World} {Q:Nat→Prop} (h:qD g v v' W) (t:Tn Q W W') (hq:¬ Q g):qD g v v' W':=by
 have hk:=t.block g (lt_of_cell h.1) hq
 unfold qD at *
 simp only [World.cell?] at *
 rw [hk]
 exact h
set_option maxRecDepth 20000 in
set_option maxHeartbeats 8000000 in
theorem acy (X P:Nat→Prop) (g gd:Nat) (Qd:Nat→Prop) (d:ak) (f:FS) (w:World) (h:dO w X P g f) (hd:Dk w gd Qd d) (hup:d.down=false) {c:List UInt8} {ff:Nat} (hex:d.F f.num=some ⟨c,ff⟩) (hn:f.num<64) (hpd:∀ q,P q→¬ Qd q) (hdx:∀ q,Qd q→X q) (hlen:f.all.length≤c.length) (hc:c.length≤1048576) :
  Calls Tryz.prog 82 #[.pointer (some ⟨g,0,none⟩),.pointer (some ⟨gd,0,none⟩)] w (vO w g gd Qd X P d f):=by
 have hask:bE d (f.num:Nat)=0:=by
  unfold bE
  rw [hup]
  simp only [Bool.false_eq_true,if_false]
  rw [if_pos ⟨by omega,by rw [show ((f.num:Nat):Int).toNat=f.num by omega,hex];rfl⟩]
 have hcut:iA d (f.num:Nat) (f.all.length:Nat)=0:=by
  unfold iA
  rw [if_pos hask,show ((f.num:Nat):Int).toNat=f.num by omega,gG hex,if_neg (by
   rintro (h1 | h1)
   ·omega
   ·have h2:(c.length:Int)<(f.all.length:Int):=h1
    omega)]
 have HRe:=aj (zn (f.num:Nat) (by omega) (by omega) gd Qd d w hd)
 have HCu:=aj (fun (W:World) (hW:Dk W gd Qd d)=>aft (f.num:Nat) (f.all.length:Nat) (by omega) (by omega) gd Qd d W hW)
 rw [hask] at HRe
 rw [hcut] at HCu
 obtain ⟨Ar,cr,Aa,ca,m1,m2,m3,m4,m5⟩:=h.mem
 obtain ⟨b0,b1,b2,b3,b4⟩:=jH m1
 have y4:=m1.free 4
 have HF:=aj h
 have HD:=aj hd
 have HP:=aj hpd
 have HX:=aj hdx
 have HM:=aj (And.intro m1 (And.intro m2 (And.intro m3 (And.intro m4 m5))))
 clear h hd hpd hdx hask hcut m1 m2 m3 m4 m5
 rcases Nat.eq_zero_or_pos f.all.length with h0 | h0
 ·have hnil:f.all=[]:=List.eq_nil_of_length_eq_zero h0
  have HE:=aj (show f.all.isEmpty=true by rw [hnil];rfl)
  have HMd:=aj (show fG d (f.num:Nat)=gH d f by unfold gH;rw [if_pos hnil])
  have HMf:=aj (show f=iO f by unfold iO;rw [if_pos hnil])
  rw [h0] at b3
  clear h0 hnil b1 b2 b4 hlen
  go_enter Tryz.func82,Tryz.ntmps82
  go_wp2_with fail
  (with_reducible refine Calls.mono HRe.out ?_)
  rintro e w1 ⟨rfl,Q',hk,t1,hq⟩
  have HK:=aj hk
  have HT:=aj t1
  have HQ:=aj hq
  clear hk t1 hq b0 b3
  go_wp2_with fail
  go_ret2
  exact xS (by rw [HE.out];rfl) rfl (xU HF.out (Tn.refl _ _) HK.out HT.out HQ.out HP.out HX.out HMd.out HMf.out)
 ·have hnil:¬ f.all=[]:=by intro e;rw [e] at h0;simp at h0
  have HE:=aj (show f.all.isEmpty=false by rw [List.isEmpty_eq_false_iff];exact hnil)
  have e0:((f.all.length:Int)==0)=false:=by rw [beq_eq_false_iff_ne];omega
  have e1:(f.all.length==0)=false:=by rw [beq_eq_false_iff_ne];omega
  have h0':¬ f.all.length=0:=by omega
  by_cases ht:f.dL=0
  ·have HMd:=aj (show d=gH d f by unfold gH;rw [if_neg hnil,if_pos ht])
   have HMf:=aj (show f=iO f by unfold iO;rw [if_neg hnil];cases f;simp only at ht;subst ht;rfl)
   rw [ht] at b4
   clear ht hlen
   go_enter Tryz.func82,Tryz.ntmps82
   go_wp2_with fail
   go_ret2
   exact xS (by rw [HE.out];rfl) rfl (xU HF.out (Tn.refl _ _) HD.out (Tn.refl _ _) (fun q hq => .inl hq) HP.out HX.out HMd.out HMf.out)
  ·have HMd:=aj (show gV d (f.num:Nat) (f.all.length:Nat)=gH d f by unfold gH;rw [if_neg hnil,if_neg ht])
   have HMf:=aj (show (⟨f.num,f.first,f.recs,f.all,0⟩:FS)=iO f by unfold iO;rw [if_neg hnil])
   have e2:((f.dL:Int)==0)=false:=by rw [beq_eq_false_iff_ne];omega
   have e3:(f.dL==0)=false:=by rw [beq_eq_false_iff_ne];exact ht
   have HT1:=aj (show Tn P w (w.setCell ⟨g,4,none⟩ (.int .i64 0)) from (Tn.refl P w).set (.inl HF.out.pg) 4 _)
   have HF1:=aj (show dO (w.setCell ⟨g,4,none⟩ (.int .i64 0)) X P g ⟨f.num,f.first,f.recs,f.all,0⟩ by
    obtain ⟨m1,m2,m3,m4,m5⟩:=HM.out
    have hT:Tn (fun q=>q=g) w (w.setCell ⟨g,4,none⟩ (.int .i64 0)):=(Tn.refl (fun q=>q=g) w).set (g:=g) (.inl rfl) 4 _
    have h1:=m1.store 4 (.int .i64 0)
    have n1:∀ b,aB Ar=some b→¬ b=g:=by
     rintro b hb rfl
     obtain ⟨vs,r1,-⟩:=m2
     exact uR r1 m1 hb
    have n2:∀ b,aB Aa=some b→¬ b=g:=by
     rintro b hb rfl
     exact pX m3 m1 hb
    exact ⟨HF.out.pg,fun q hq=>Nat.lt_of_lt_of_le (HF.out.plt q hq) hT.size,HF.out.px,Ar,cr,Aa,ca,h1,m2.tn hT n1 (fun q hq=>by rw [hq];exact .inl (HF.out.px g HF.out.pg)),m3.stands (fun b hb=>hT.block b (m3.dB b hb) (n2 b hb)),m4,m5⟩)
   obtain ⟨w1,hw1⟩:∃ w1:World,w1=w.setCell ⟨g,4,none⟩ (.int .i64 0):=⟨_,rfl⟩
   rw [← hw1] at HT1 HF1
   have HD1:=aj (HD.out.tn HT1.out (fun q hq hq2=>HP.out q hq2 hq))
   have HC1:=aj (HCu.out _ HD1.out)
   have HC2:=aj (HCu.out w1.drew (HD1.out.below (Below.drew (Below.refl _ _))))
   have S0:qD g (.int .i64 (f.num:Nat)) (.slice Aa f.all.length ca) w1:=by
    obtain ⟨m1,-⟩:=HM.out
    have h1:=m1.store 4 (.int .i64 0)
    rw [← hw1] at h1
    exact ⟨h1.cell 0 _ rfl,h1.cell 3 _ rfl⟩
   have hgd:¬ Qd g:=HP.out g HF.out.pg
   clear ht hlen
   go_enter Tryz.func82,Tryz.ntmps82
   go_wp2_with fail
   rw [← hw1]
   clear b0 b1 b2 b3 b4 y4 hw1
   go_region_held3 (qD g (.int .i64 (f.num:Nat)) (.slice Aa f.all.length ca)) (first | assumption)
    (first
    | (go_at_call 123;(with_reducible refine Calls.mono HC1.out ?_);rintro e w5 ⟨rfl,Q',hk,t1,hq⟩;have HK:=aj hk;have HT:=aj t1;have HQ:=aj hq;have S5:=abB S0 t1 hgd;clear hk t1 hq)
    | (go_at_call 123;(with_reducible refine Calls.mono HC2.out ?_);rintro e w5 ⟨rfl,Q',hk,t1,hq⟩;have HK:=aj hk;have HT:=aj ((Tn.refl Qd w1).drew.trans t1 (fun q hq => .inl hq));have HQ:=aj (show ∀ q,Q' q→Qd q∨w1.heap.size≤q from hq);have S5:=abB (W:=w1.drew) S0 t1 hgd;clear hk t1 hq)
    | fail)
   go_wp2_with fail
   go_ret2
   exact xS (by rw [HE.out];rfl) rfl (xU HF1.out HT1.out HK.out HT.out HQ.out HP.out HX.out HMd.out HMf.out)
theorem bC.take {e:TypeId} {w:World} {A:Option Addr} {n c:Nat} {vs:List Value} (h:bC e w A n c vs) {m:Nat} (hm:m≤n):bC e w A m c (vs.take m):=by
 obtain ⟨h1,h2,h3,h4,h5⟩:=h
 refine ⟨by rw [List.length_take];omega,by omega,h3,fun u hu=>h4 u (List.mem_of_mem_take hu),?_⟩
 rcases h5 with h5 | ⟨g,off,cur,e1,hw,hs,hc⟩
 ·exact .inl h5
 ·refine .inr ⟨g,off,cur,e1,hw,hs,fun j u hu=>?_⟩
  rw [List.getElem?_take] at hu
  by_cases hj:j<m
  ·rw [if_pos hj] at hu
   exact hc j u hu
  ·rw [if_neg hj] at hu;cases hu
theorem ai4 (g:Nat→Nat) {m n:Nat} (h:m≤n):(ptrs g n).take m=ptrs g m:=by
 unfold ptrs
 rw [← List.map_take,List.take_range,Nat.min_eq_left h]
theorem bB.ah0 {B:Nat} {w w' w'':World} {gl gd:Nat} {Qd Qd' X G:Nat→Prop} {P:Nat→Nat→Prop} {g:Nat→Nat} {Af:Option Addr} {cf i:Nat} {d d':ak} {L L':List FS} {most:Int} {Al:Option Addr} {nl cl:Nat} (h:ji B w gd Qd X P g Af cf d i L G)
  (T:Tn (fun q=>Qd q∨∃ j,j<L.length∧P j q) w w') (hd:Dk w' gd Qd' d') (hq:∀ q,Qd' q→Qd q∨w.heap.size≤q) (hl:L'.length≤L.length) (hfs:∀ j (hj:j<L'.length),dO w' (fun q=>X q∨Qd' q) (P j) (g j) L'[j])
  (W:Whole w gl 126 (mP gd most Al nl cl)) (hG:G gl) (hB:gl<B) (hQ:¬ Qd gl) (hqB:∀ q,Qd q→q<B) (e:w''=w'.setCell ⟨gl,2,none⟩ (.slice Af L'.length cf)) :
  bB w'' gl gd Qd' (fun q=>X q∨Qd' q) (fun q=>q=gl∨aB Af=some q) P g Af cf d' most L':=by
 have hBw:gl<w.heap.size:=W.lt
 have hAq:∀ k,aB Af=some k→¬ Qd k:=fun k hk hq=>by have:=h.af k hk;have:=hqB k hq;omega
 have hAg:∀ k,aB Af=some k→k≠gl:=fun k hk e=>by have:=h.af k hk;omega
 have hPg:∀ j,j<L.length→∀ q,P j q→q≠gl:=fun j hj q hq e=>by have:=h.lo j hj q hq;omega
 have hQ':¬ Qd' gl:=fun hq2=>by
  rcases hq gl hq2 with h1 | h1
  ·exact hQ h1
  ·omega
 have T2:Tn (fun q=>q=gl) w' w'':=by rw [e];exact (Tn.refl (fun q=>q=gl) w').set (g:=gl) (.inl rfl) 2 _
 have W':Whole w' gl 126 (mP gd most Al nl cl):=W.tn T (fun hq=>by
  rcases hq with h1 | ⟨j,hj,h1⟩
  ·exact hQ h1
  ·exact hPg j hj gl h1 rfl)
 refine ⟨hd.tn T2 (fun q hq2 e=>hQ' (by rwa [← e])),fun q hq2 => .inr hq2,?_,?_,?_,fun j hj=>?_,.inl rfl,fun k hk => .inr hk,?_,?_,?_,?_,?_⟩
 ·rintro q (h1 | h1)
  ·have:=h.xlt q h1;have:=T.size;have:=T2.size;omega
  ·have:=hd.qlt q h1;have:=T2.size;omega
 ·rw [e]
  have h1:=W'.store 2 (.slice Af L'.length cf)
  exact h1
 ·have h1:=h.row.take hl
  rw [ai4 g hl] at h1
  refine h1.stands (fun b hb=>?_)
  rw [T2.block b (by have:=h.row.dB b hb;have:=T.size;omega) (hAg b hb),T.block b (h.row.dB b hb) (fun hq2=>?_)]
  rcases hq2 with h3 | ⟨j,hj,h3⟩
  ·exact hAq b hb h3
  ·exact h.pa j hj b hb h3
 ·exact (hfs j hj).tn T2 (fun q hq2 e=>hPg j (by omega) q hq2 e) (fun q hq2=>by rw [hq2];exact .inl (.inl (h.gx gl hG)))
 ·rintro q (h1 | h1)
  ·rw [h1];exact .inl (h.gx gl hG)
  ·exact .inl (h.ax q h1)
 ·rintro q (h1 | h1) h2
  ·rw [h1] at h2;exact hQ' h2
  ·rcases hq q h2 with h3 | h3
   ·exact hAq q h1 h3
   ·have:=h.row.dB q h1;omega
 ·rintro j hj q h1 (h2 | h2)
  ·exact hPg j (by omega) q h1 h2
  ·exact h.pa j (by omega) q h2 h1
 ·intro j hj q h1 h2
  rcases hq q h2 with h3 | h3
  ·exact h.pd j (by omega) q h1 h3
  ·have:=(h.fs j (by omega)).plt q h1;omega
 ·intro a b ha hb hab q h1 h2
  exact h.pp a b (by omega) (by omega) hab q h1 h2
end Wl
end Go.Proofs.YtpcmlopbkehffaaGreat
namespace Go.Proofs.YtpcmlopbkehffaaGreat
open Go.RowKit Fm Dsk
namespace Wl
theorem rP (num:Nat) (c:List UInt8):(bF num c).num=num:=by
 unfold bF
 cases (bD c).1 <;> rfl
theorem aci (num:Nat) (c:List UInt8):(bF num c).all=c.take (bS c):=by
 unfold bF
 cases (bD c).1 <;> rfl
def jX (base n:Nat) (C:Nat→List UInt8):List FS:=match n with
 | 0=>[]
 | m+1=>if (bF (rg base m) (C m)).all=[] then (dZ base (m+1) C (m+1)).take m else (dZ base (m+1) C (m+1)).set m (iO (bF (rg base m) (C m)))
def gZ (d:ak) (base n:Nat) (C:Nat→List UInt8):ak:=match n with
 | 0=>d
 | m+1=>gH d (bF (rg base m) (C m))
def aai (w:World) (gl gd:Nat) (Qd G0:Nat→Prop) (d:ak) (most:Int) (L:List FS) (e:Ending) (w':World):Prop :=
 e = .returned (.int .i64 0)∧∃ Qd' X' Pl P g Af cf,bB w' gl gd Qd' X' Pl P g Af cf d most L∧Tn (fun q=>Qd q∨q=gl) w w'∧(∀ q,X' q→Qd q∨(q=gl∨G0 q)∨w.heap.size≤q)∧(∀ q,Qd' q→Qd q∨w.heap.size≤q)∧(∀ q,G0 q→X' q)∧d9 (fun q=>(Qd q∨q=gl)∨w.heap.size≤q) Qd' Pl P L
theorem xO {w w2 w3 w':World} {gl gd:Nat} {Qd Qd' X G0:Nat→Prop} {P:Nat→Nat→Prop} {g:Nat→Nat} {Af:Option Addr} {cf:Nat} {d d':ak} {n:Nat} {L L' L2:List FS} {most:Int} (h:ji w.heap.size w2 gd Qd X P g Af cf d n L (fun q=>q=gl∨G0 q)) (hb:Below w.heap.size w w2)
  (W:Whole w gl 126 (mP gd most none 0 0)) (hQ:¬ Qd gl) (hqB:∀ q,Qd q→q<w.heap.size) (T:Tn (fun q=>Qd q∨∃ j,j<L.length∧P j q) w2 w3) (hd:Dk w3 gd Qd' d') (hq:∀ q,Qd' q→Qd q∨w2.heap.size≤q) (hl:L'.length≤L.length) (hfs:∀ j (hj:j<L'.length),dO w3 (fun q=>X q∨Qd' q) (P j) (g j) L'[j])
  {d2:ak} (ed:d'=d2) (eL:L'=L2) {k:Nat} (hk:L'.length=k) (e:w'=w3.setCell ⟨gl,2,none⟩ (.slice Af k cf)):aai w gl gd Qd G0 d2 most L2 (.returned (.int .i64 0)) w':=by
 subst ed eL hk
 have hs:=hb.size
 have W2:=W.below hb W.lt
 have h1:=bB.ah0 h T hd hq hl hfs W2 (.inl rfl) W.lt hQ hqB e
 have hT:Tn (fun q=>Qd q∨q=gl) w w':=by
  rw [e]
  refine ((Tn.of_below hb).trans T (fun q hq2=>?_)).set (.inl (.inr rfl)) 2 _
  rcases hq2 with h3 | ⟨j,hj,h3⟩
  ·exact .inl (.inl h3)
  ·exact .inr (h.lo j hj q h3)
 refine ⟨rfl,_,_,_,_,_,_,_,h1,hT,?_,fun q hq2=>?_,fun q hq2 => .inl (h.gx q (.inr hq2)),⟨fun q hq2=>?_,fun q hq2=>?_,fun i hi q hq2 => .inr (h.lo i (by omega) q hq2)⟩⟩
 ·rintro q (h3 | h3)
  ·rcases h.zX q h3 with h4 | h4 | h4
   ·exact .inl h4
   ·exact .inr (.inl h4)
   ·exact .inr (.inr h4)
  ·rcases hq q h3 with h4 | h4
   ·exact .inl h4
   ·right;right;omega
 ·rcases hq q hq2 with h4 | h4
  ·exact .inl h4
  ·right;omega
 ·rcases hq q hq2 with h4 | h4
  ·exact .inl (.inl h4)
  ·right;omega
 ·rcases hq2 with h4 | h4
  ·exact .inl (.inr h4)
  ·exact .inr (h.af q h4)
theorem aha {B:Nat} {w w':World} {gd:Nat} {Qd Qd' X:Nat→Prop} {P:Nat→Nat→Prop} {g:Nat→Nat} {Af:Option Addr} {cf i:Nat} {d d':ak} {L:List FS} {G:Nat→Prop} {f':FS} {m:Nat} (h:ji B w gd Qd X P g Af cf d i L G) (hm:m<L.length) (md:Md w w' (g m) gd Qd X (P m) d' f' Qd') :
  ∀ j (hj:j<(L.set m f').length),dO w' (fun q=>X q∨Qd' q) (P j) (g j) (L.set m f')[j]:=by
 intro j hj
 by_cases e:m=j
 ·subst e
  rw [List.getElem_set_self]
  exact md.fs
 ·rw [List.getElem_set_ne e]
  have hj2:j<L.length:=by rwa [List.length_set] at hj
  refine ((h.fs j hj2).more (fun q hq=>?_) (fun q hq => .inl ((h.fs j hj2).px q hq))).tn md.tn (fun q hq hq2=>?_) (fun q hq=>?_)
  ·rcases hq with h1 | h1
   ·exact .inl h1
   ·rcases md.qd q h1 with h2 | h2
    ·exact .inl (h.dx q h2)
    ·exact .inr h2
  ·rcases hq2 with h1 | h1
   ·exact h.pd j hj2 q hq h1
   ·exact h.pp j m hj2 hm (Ne.symm e) q hq h1
  ·rcases hq with h1 | h1
   ·exact .inl (.inl (h.dx q h1))
   ·exact .inl (.inl ((h.fs m hm).px q h1))
abbrev sZ (p q:Addr) (v v':Value) (W:World):Prop:=W.cell? p=some v∧W.cell? q=some v'
theorem oz {p:Addr} {v:Value} {W W':World} {Q:Nat→Prop} (h:W.cell? p=some v) (t:Tn Q W W') (hq:¬ Q p.block):W'.cell? p=some v:=by
 have hk:=t.block p.block (lt_of_cell h) hq
 simp only [World.cell?] at *
 rw [hk]
 exact h
set_option maxRecDepth 20000 in
set_option maxHeartbeats 8000000 in
theorem agZ (gl gd:Nat) (Qd G0:Nat→Prop) (d:ak) (most:Int) (base n:Nat) (C:Nat→List UInt8) (w:World) (W:Whole w gl 126 (mP gd most none 0 0)) (hd:Dk w gd Qd d) (hQ:¬ Qd gl) (h:lI d base n C) (hG0:∀ q,G0 q→q<w.heap.size) :
  Calls Tryz.prog 54 #[.pointer (some ⟨gl,0,none⟩)] w (aai w gl gd Qd G0 (gZ d base n C) most (jX base n C)):=by
 have HPa:=aj (pY gd Qd d base n C w hd h (fun q=>q=gl∨G0 q) (fun q hq=>by
  rcases hq with hq | hq
  ·rw [hq];exact W.lt
  ·exact hG0 q hq))
 obtain ⟨c0,c1,c2⟩:=fB W
 have HW:=aj W
 have HQ:=aj hQ
 have HqB:=aj hd.qlt
 have H:=aj h
 clear W hd hQ h hG0
 go_enter Tryz.func54,Tryz.ntmps54
 go_wp2_with fail
 (with_reducible refine Calls.mono HPa.out ?_)
 rintro e w2 ⟨Af,cf,g,X,P,rfl,hp,hb⟩
 have HP:=aj hp
 have HB:=aj hb
 have W2:=aj (HW.out.below hb HW.out.lt)
 obtain ⟨d0,d1,d2⟩:=fB W2.out
 have y2:=W2.out.free 2
 have hcf:=hp.row.2.1
 have hcm:=hp.row.2.2.1
 rw [jo] at hcf
 clear hp hb c0 c1 c2
 rcases n with _ | m
 ·go_wp2_with fail
  go_ret
  exact xO (L':=[]) HP.out HB.out HW.out HQ.out HqB.out (Tn.refl _ _) HP.out.dk (fun q hq => .inl hq) (Nat.zero_le _) (fun j hj=>absurd hj (Nat.not_lt_zero j)) rfl rfl rfl rfl
 ·obtain ⟨N,hN⟩:∃ N,N=m+1:=⟨_,rfl⟩
  have HNm:=aj hN
  rw [← hN] at hcf ⊢
  have x1:(0:Int)<(N:Int):=by omega
  have x1':0<N:=by omega
  have k1:IntKind.i64.wrap ((N:Int)-1)=(m:Int):=by rw [IntWalk.i64_in _ (by omega)];omega
  have x2:(0:Int)≤(m:Int):=by omega
  have x3:(m:Int)<(N:Int):=by omega
  clear hN
  obtain ⟨b,off,hAf,hc⟩:∃ b off,Af=some ⟨b,off,none⟩∧w2.cell? ⟨b,off+m,none⟩=some (dG (g m)):=by
   have hr:=HP.out.row
   rw [jo] at hr
   obtain ⟨b,off,e,hc⟩:=hr.holds (by intro e;have h9:=congrArg List.length e;rw [ni] at h9;simp at h9)
   exact ⟨b,off,e,hc m _ (nV g (Nat.lt_succ_self m))⟩
  subst hAf
  have hmL:m<(dZ base (m+1) C (m+1)).length:=by rw [jo];omega
  have hget:(dZ base (m+1) C (m+1))[m]=bF (rg base m) (C m):=by rw [nS,if_pos (Nat.lt_succ_self m)]
  have hfs:=HP.out.fs m hmL
  rw [hget] at hfs
  obtain ⟨ff,hff⟩:=H.out.has m (Nat.lt_succ_self m)
  have hnum:rg base m<64:=iF _ _
  have hlenC:=H.out.len m (Nat.lt_succ_self m)
  have hME:=acy X (P m) (g m) gd Qd d (bF (rg base m) (C m)) w2 hfs HP.out.dk H.out.up (by rw [rP];exact hff) (by rw [rP];exact hnum) (HP.out.pd m hmL) HP.out.dx (by rw [aci,List.length_take];exact Nat.min_le_right _ _) hlenC
  have HC1:=aj hME
  have HC2:=aj (show Calls Tryz.prog 82 #[.pointer (some ⟨g m,0,none⟩),.pointer (some ⟨gd,0,none⟩)] w2.drew (vO w2.drew (g m) gd Qd X (P m) d (bF (rg base m) (C m))) from
   acy X (P m) (g m) gd Qd d (bF (rg base m) (C m)) w2.drew (hfs.below (Below.drew (Below.refl _ _))) (HP.out.dk.below (Below.drew (Below.refl _ _))) H.out.up (by rw [rP];exact hff) (by rw [rP];exact hnum) (HP.out.pd m hmL) HP.out.dx (by rw [aci,List.length_take];exact Nat.min_le_right _ _) hlenC)
  have hb1:¬ (Qd b∨P m b):=by
   rintro (h1 | h1)
   ·have:=HP.out.af b rfl;have:=HqB.out b h1;omega
   ·exact HP.out.pa m hmL b rfl h1
  have hb2:¬ (Qd gl∨P m gl):=by
   rintro (h1 | h1)
   ·exact HQ.out h1
   ·have:=HP.out.lo m hmL gl h1;have:=HW.out.lt;omega
  have S0:sZ ⟨b,off+m,none⟩ ⟨gl,0,none⟩ (dG (g m)) (.pointer (some ⟨gd,0,none⟩)) w2:=⟨hc,d0⟩
  have HmL:=aj hmL
  have HoL:=aj (show jX base N C=if (bF (rg base m) (C m)).all=[] then (dZ base (m+1) C (m+1)).take m else (dZ base (m+1) C (m+1)).set m (iO (bF (rg base m) (C m))) by rw [HNm.out];rfl)
  have HoD:=aj (show gZ d base N C=gH d (bF (rg base m) (C m)) by rw [HNm.out];rfl)
  have hmN:(m:Int)≤(cf:Int):=by omega
  have hmN':m≤cf:=by omega
  rw [HoD.out]
  generalize bF (rg base m) (C m)=f at *
  clear hget hfs hff hnum hlenC hmL hME hc
  go_wp2_with fail
  clear d0 d1
  go_region_held3 (sZ ⟨b,off+m,none⟩ ⟨gl,0,none⟩ (dG (g m)) (.pointer (some ⟨gd,0,none⟩))) (first | assumption)
   (first
   | (go_at_call 82;(with_reducible refine Calls.mono HC1.out ?_);rintro e w5 ⟨rfl,Q',hk⟩;have HK:=aj hk;have S5:sZ ⟨b,off+m,none⟩ ⟨gl,0,none⟩ (dG (g m)) (.pointer (some ⟨gd,0,none⟩)) w5:=⟨oz S0.1 hk.tn hb1,oz S0.2 hk.tn hb2⟩;clear hk)
   | (go_at_call 82;(with_reducible refine Calls.mono HC2.out ?_);rintro e w5 ⟨rfl,Q',hk⟩;have HK:=aj (show Md w2 w5 (g m) gd Qd X (P m) (gH d f) (iO f) Q' from ⟨hk.dk,hk.fs,((Tn.refl _ w2).drew.trans hk.tn (fun q hq => .inl hq)),hk.qd⟩);have S5:sZ ⟨b,off+m,none⟩ ⟨gl,0,none⟩ (dG (g m)) (.pointer (some ⟨gd,0,none⟩)) w5:=⟨oz (W:=w2.drew) S0.1 hk.tn hb1,oz (W:=w2.drew) S0.2 hk.tn hb2⟩;clear hk)
   | fail)
  have z2:w5.cell? ⟨gl,2,none⟩=some (.slice none 0 0):=oz d2 HK.out.tn hb2
  have W5:=aj (W2.out.tn HK.out.tn hb2)
  have y5:=W5.out.free 2
  have HT:=aj (HK.out.tn.sub (Q':=fun q=>Qd q∨∃ j,j<(dZ base (m+1) C (m+1)).length∧P j q) (fun q hq=>hq.imp id (fun h=>⟨m,HmL.out,h⟩)))
  have HFS:=aj (aha HP.out HmL.out HK.out)
  clear d2 y2
  by_cases hall:f.all=[]
  ·have hLL:=HoL.out
   rw [if_pos hall] at hLL
   have hie:f.all.isEmpty=true:=by rw [hall];rfl
   have HLL:=aj hLL
   clear hall
   rw [hie] at *
   go_wp2_with fail
   go_ret
   refine xO (L':=(dZ base (m+1) C (m+1)).take m) HP.out HB.out HW.out HQ.out HqB.out HT.out HK.out.dk HK.out.qd (by rw [List.length_take];exact Nat.min_le_right _ _) (fun j hj=>?_) (by rw [← HoD.out,HNm.out]) (by rw [← HLL.out,HNm.out]) (by rw [List.length_take];have:=HmL.out;omega) rfl
   have hjm:j<m:=by rw [List.length_take] at hj;omega
   have h1:=HFS.out j (by rw [List.length_set];have:=HmL.out;omega)
   rw [List.getElem_set_ne (by omega)] at h1
   rw [List.getElem_take]
   exact h1
  ·have hLL:=HoL.out
   rw [if_neg hall] at hLL
   have hie:f.all.isEmpty=false:=by rw [List.isEmpty_eq_false_iff];exact hall
   have HLL:=aj hLL
   clear hall
   rw [hie] at *
   go_wp2_with fail
   go_ret
   exact xO (L':=(dZ base (m+1) C (m+1)).set m (iO f)) HP.out HB.out HW.out HQ.out HqB.out HT.out HK.out.dk HK.out.qd (by rw [List.length_set];exact Nat.le_refl _) HFS.out (by rw [← HoD.out,HNm.out]) (by rw [← HLL.out,HNm.out]) (by rw [List.length_set,jo,HNm.out]) rfl
end Wl
end Go.Proofs.YtpcmlopbkehffaaGreat
namespace Go.Proofs.YtpcmlopbkehffaaGreat
open Go.RowKit Fm Dsk
namespace Wl
def aan (w:World) (gd:Nat) (Qd G0:Nat→Prop) (d:ak) (most:Int) (L:List FS) (e:Ending) (w':World):Prop :=
 ∃ gl,e = .returned (.tuple #[.pointer (some ⟨gl,0,none⟩),.int .i64 0])∧w.heap.size≤gl∧∃ Qd' X' Pl P g Af cf,bB w' gl gd Qd' X' Pl P g Af cf d most L∧Tn Qd w w'∧(∀ q,X' q→Qd q∨G0 q∨w.heap.size≤q)∧(∀ q,G0 q→X' q)∧d9 (fun q=>Qd q∨w.heap.size≤q) Qd' Pl P L
set_option maxRecDepth 20000 in
set_option maxHeartbeats 8000000 in
theorem acX (gd:Nat) (Qd G0:Nat→Prop) (d:ak) (most:Int) (h64:64≤most) (hmx:most≤1048576) (base n:Nat) (C:Nat→List UInt8) (w:World) (hd:Dk w gd Qd d) (h:lI d base n C) (hG0:∀ q,G0 q→q<w.heap.size) :
  Calls Tryz.prog 26 #[.pointer (some ⟨gd,0,none⟩),.int .i64 most] w (aan w gd Qd G0 (gZ d base n C) most (jX base n C)):=by
 have HD:=aj (oG gd Qd d w hd)
 rw [h.up] at HD
 have HL:=aj (agZ w.heap.size gd Qd G0 d most base n C (w.alloc (.cells #[.pointer (some ⟨gd,0,none⟩),.int .i64 most,.slice none 0 0] 126)) (aP _ _ _) (hd.alloc _) (fun hq=>by have:=hd.qlt _ hq;omega) h (fun q hq=>by have:=hG0 q hq;simp only [World.size_alloc];omega))
 have e1:decide (most<64)=false:=decide_eq_false (by omega)
 have e2:decide (most>1048576)=false:=decide_eq_false (by omega)
 have e3:decide (1048576<most)=false:=decide_eq_false (by omega)
 have x1:¬ most<64:=by omega
 have x2:¬ 1048576<most:=by omega
 clear hd h h64 hmx hG0
 go_enter Tryz.func26,Tryz.ntmps26
 go_wp2_with fail
 (with_reducible refine Calls.mono HD.out ?_)
 rintro e w1 ⟨rfl,rfl⟩
 go_wp2_with fail
 (with_reducible refine Calls.mono HL.out ?_)
 rintro e w2 ⟨rfl,Qd',X',Pl,P,g,Af,cf,hlg,hT,hX,hQ,hGX,hFt⟩
 have H:=aj (And.intro hlg (And.intro hT (And.intro hX (And.intro hQ (And.intro hGX hFt)))))
 clear hlg hT hX hQ hGX hFt
 go_wp2_with fail
 go_ret2
 obtain ⟨hlg,hT,hX,hQ,hGX,hFt⟩:=H.out
 have hsz:(w.alloc (.cells #[.pointer (some ⟨gd,0,none⟩),.int .i64 most,.slice none 0 0] 126)).heap.size=w.heap.size+1:=by simp
 have hT2:Tn Qd w w2:=((Tn.refl Qd w).alloc _).trans hT (fun q hq=>by
  rcases hq with h1 | h1
  ·exact .inl h1
  ·right;rw [h1];exact Nat.le_refl _)
 refine ⟨_,rfl,Nat.le_refl _,Qd',X',Pl,P,g,Af,cf,hlg,hT2,fun q hq=>?_,hGX,hFt.wide (fun q hq=>?_)⟩
 ·rcases hX q hq with h1 | (h1 | h1) | h1
  ·exact .inl h1
  ·right;right;rw [h1];exact Nat.le_refl _
  ·exact .inr (.inl h1)
  ·right;right;omega
 ·rcases hq with (h1 | h1) | h1
  ·exact .inl h1
  ·right;rw [h1];exact Nat.le_refl _
  ·right;omega
end Wl
end Go.Proofs.YtpcmlopbkehffaaGreat
