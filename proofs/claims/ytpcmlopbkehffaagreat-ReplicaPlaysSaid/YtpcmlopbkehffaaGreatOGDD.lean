/-
  Records are written.
-/
import Derived.Test.YtpcmlopbkehffaaGreatOGBL
import Derived.Test.YtpcmlopbkehffaaGreatOGBM
import Derived.Test.YtpcmlopbkehffaaGreatOGDA
import Derived.Test.YtpcmlopbkehffaaGreatOGDC
import Derived.StillTailTactics
import Derived.Deep.CutRange
set_option linter.unusedSimpArgs false
set_option linter.unusedVariables false
namespace Go.Proofs.YtpcmlopbkehffaaGreat
open Go.RowKit Rg Bl Re Wl Dsk Fm
namespace Rp
structure nI (w:World) (X:Nat→Prop) (A:Option Addr) (n c:Nat) (os:List au):Prop where
 t : dY w (fun q=>X q∨aB A=some q) A n c (os.map aU)
 row:∀ b,aB A=some b→¬ X b
theorem nI.step {w w':World} {X X' F:Nat→Prop} {A:Option Addr} {n c:Nat} {os:List au} (h:nI w X A n c os) (t:Tn F w w') (hF:∀ q,F q→X q) (hX:∀ q,X' q→X q∨w.heap.size≤q) (hXX:∀ q,X q→X' q):nI w' X' A n c os:=by
 have hlt:=h.t.dB
 refine ⟨(h.t.more (X':=fun q=>X' q∨aB A=some q) (fun q hq=>?_)).tn t (fun b hb hq=>h.row b hb (hF b hq)) (fun q hq => .inl (.inl (hXX q (hF q hq)))),fun b hb hq=>?_⟩
 ·rcases hq with hq | hq
  ·rcases hX q hq with h1 | h1
   ·exact .inl (.inl h1)
   ·exact .inr h1
  ·exact .inl (.inr hq)
 ·rcases hX b hq with h1 | h1
  ·exact h.row b hb h1
  ·have:=hlt b hb;omega
def aer (B:Nat) (w0 W0:World) (X0 E0:Nat→Prop) (gr gl gd bm:Nat) (most:Int) (L:List FS) (R os:List au) (N:Nat) (d:ak) (z:Int→Prop) (e:Ending) (w':World):Prop :=
 ∃ (k : Int) (d':ak) (L':List FS),e = .returned (.int .i64 k)∧Rm d d' z k ∧
   ((k=0∧dh B w0 W0 X0 E0 gr gl gd bm d' most L' R false (N+os.length) w'∧RUp d' most L' (bN R os) (N+os.length)∧aC L'=aC L++os.map aU∧aS L'=aS L∧∃ base,aH d' most base L' (N+os.length) 1048576∧(L'=[]→base=0)∧iR d' base L') ∨
    (k=9∧∃ i,i<os.length∧dh B w0 W0 X0 E0 gr gl gd bm d' most L' R false (N+os.length) w'∧iy d' most L' R (os.take i) (N+os.length)) ∨
    (k=10∧∃ i,i≤os.length∧dh B w0 W0 X0 E0 gr gl gd bm d' most L' R true (N+os.length) w'∧lK d' most R (os.take i) (N+os.length)))
theorem Shp.grow {most:Int} {base N N':Nat} {L:List FS} (h:Shp most base L N) (h1:N≤N') (h2:N'≤1000000):Shp most base L N':=⟨h.num,h.dL,h.all,h.small,h.ahead,h.next,fun i hi=>Nat.le_trans (h.bnd i hi) h1,h.n63,h.b64,h2⟩
theorem Lay.grow {d:ak} {most:Int} {base c s N N':Nat} {M:List FS} (h:Lay d most base M c s N) (h1:N≤N') (h2:N'≤1000000):Lay d most base M c s N':=⟨h.ok,Shp.grow h.shp h1 h2,h.rest,h.full,h.last,h.s0⟩
theorem iy.grow {d:ak} {most:Int} {L:List FS} {R os1:List au} {N N':Nat} (h:iy d most L R os1 N) (h1:N≤N') (h2:N'≤1000000):iy d most L R os1 N':=by
 obtain ⟨base,c,os,s,k1,k2⟩:=h
 exact ⟨base,c,os,s,Lay.grow k1 h1 h2,k2⟩
theorem RUp.grow {d:ak} {most:Int} {L:List FS} {R:List au} {N N':Nat} (h:RUp d most L R N) (h1:N≤N') (h2:N'≤1000000):RUp d most L R N':=by
 obtain ⟨base,c,os,s,k1,k2⟩:=h
 exact ⟨base,c,os,s,Lay.grow k1 h1 h2,k2⟩
theorem lK.grow {d:ak} {most:Int} {R os1:List au} {N N':Nat} (h:lK d most R os1 N) (h1:N≤N') (h2:N'≤1000000):lK d most R os1 N':=by
 obtain ⟨hd,base,M,c,os,s,k1,k2⟩:=h
 exact ⟨hd,base,M,c,os,s,Lay.grow k1 h1 h2,k2⟩
section
variable {B:Nat} {w0 w:World} {gr gl gd bm:Nat} {X F E:Nat→Prop} {d:ak} {most:Int} {L:List FS} {R:List au} {N:Nat}
theorem bO.append {os1:List au} (h:bO B w0 w gr gl gd bm X F E d most L R false N) (hu:iy d most L R os1 N) {o:au} {A:Option Addr} {n c:Nat} (hs:SlN X w A n c (aU o)) :
  Calls Tryz.prog 72 #[.pointer (some ⟨gl,0,none⟩),.slice A n c] w (fH w gl gd X F (.int .i64 (aL d most L (aU o)).1) (aL d most L (aU o)).2.1 most (aL d most L (aU o)).2.2):=by
 obtain ⟨base,hl,-⟩:=hu.gY
 exact h.lg.append hl A n c (aU o) hs (by rw [← hs.1.len,p9];omega)
set_option maxRecDepth 20000 in
set_option maxHeartbeats 8000000 in
theorem aec (h:bO B w0 w gr gl gd bm X F E d most L R false N) (hu:RUp d most L R N) (A:Option Addr) (c:Nat) (os:List au) (hr:nI w (fun q=>X q∨E q) A os.length c os) (hok:∀ o∈os,o.Ok) (hN:N+os.length≤1000000) :
  Calls Tryz.prog 47 #[.pointer (some ⟨gr,0,none⟩),.slice A os.length c] w (aer B w0 w X E gr gl gd bm most L R os N d (qF d most L os)):=by
 have H:=aj h
 have HU:=aj hu
 have HR:=aj hr
 have HOk:=aj hok
 have HN:=aj hN
 have hcap:=hr.t.sls.cap
 have hmax:=hr.t.sls.max
 clear h hu hr hok hN
 go_enter Tryz.func47,Tryz.ntmps47
 go_wp2_with fail
 have hol:(os.length:Int)≤1000000:=by have:=HN.out;omega
 go_loopw [10] (fun vi wr=>∃ (i:Nat) (d1:ak) (L1:List FS) (X1 F1 E1:Nat→Prop),i≤os.length∧vi = .int .i64 (i:Nat)∧Hid (bO B w0 wr gr gl gd bm X1 F1 E1 d1 most L1 R false N)∧Hid (nI wr (fun q=>X1 q∨E1 q) A os.length c os)∧Hid (iy d1 most L1 R (os.take i) (N+i))∧Hid (d1.room=d.room∧aC L1=aC L++(os.take i).map aU∧Tn E w wr∧(∀ q,E1 q→E q∨w.heap.size≤q)∧(∀ q,X q→X1 q)∧(∀ q,X1 q→X q∨w.heap.size≤q)∧∀ q,E q→E1 q)∧Hid (aS L1=aS L)∧Hid (d1.armed=d.armed∧(i=0→d1=d∧L1=L)∧(0<i→qF d most L os 0))) (fun vi _=>os.length-(intOf vi).toNat)
 case atStart=>exact ⟨0,d,L,X,F,E,Nat.zero_le _,rfl,H,HR,aj (by rw [List.take_zero];exact HU.out.l),aj ⟨rfl,by simp,Tn.refl _ _,fun q hq => .inl hq,fun q hq=>hq,fun q hq => .inl hq,fun q hq=>hq⟩,aj rfl,aj ⟨rfl,fun _=>⟨rfl,rfl⟩,fun h=>absurd h (Nat.lt_irrefl 0)⟩⟩
 case round =>
  obtain ⟨i,d1,L1,X1,F1,E1,hi,rfl,HB,HRc,HUL,HF,HFi,HAr⟩:=hrel
  by_cases hlt:i<os.length
  ·obtain ⟨b,off,Ar,nr,cr,hA,hcell,hsl⟩:∃ b off Ar nr cr,A=some ⟨b,off,none⟩∧wr.cell? ⟨b,off+i,none⟩=some (.slice Ar nr cr)∧SlN X1 wr Ar nr cr (aU os[i]):=by
    obtain ⟨vs,r1,r2,r3⟩:=HRc.out.t
    obtain ⟨b,off,e,h2⟩:=r1.holds (by intro e;rw [e] at r2;simp at r2;omega)
    obtain ⟨A',n',c',e2,h3⟩:=r3 i (by rw [List.length_map];exact hlt)
    rw [List.getElem_map] at h3
    exact ⟨b,off,A',n',c',e,h2 i _ e2,h3.more (fun q hq => .inl (.inl (.inl hq)))⟩
   subst hA
   have hnr:nr=41:=by rw [← hsl.1.len];exact p9 _
   subst hnr
   obtain ⟨c0,c1,c2,c3,-⟩:=jr HB.out.whole
   have HAp:=aj ((HB.out.more (N':=N+i) (by omega)).append HUL.out hsl)
   have hres:=HUL.out.append os[i] (HOk.out _ (List.getElem_mem hlt)) (by have:=HN.out;omega)
   have HT:=aj (show (os.take i).map aU++[aU os[i]]=(os.take (i+1)).map aU by rw [List.take_succ_eq_append_getElem hlt,List.map_append];rfl)
   have x1:(i:Int)<(os.length:Int):=by omega
   have x2:(0:Int)≤(i:Int):=by omega
   have HK:=aj hlt
   have HTo:=aj (List.take_succ_eq_append_getElem hlt)
   have HA1:=aj (aeH d1 most L1 (aU os[i]))
   have HA2:=aj (fun h:d1.armed=false=>aeK (by obtain ⟨_,_,_,_,_,_,_,_,_,_,_,h8⟩:=HUL.out;exact h8) h most L1 (aU os[i]))
   have HA3:=aj (show qF d most L os (aL d1 most L1 (aU os[i])).1 from fun o h1=>by
    subst h1
    have h0:i=0:=by simpa using hlt
    obtain ⟨rfl,rfl⟩:=HAr.out.2.1 h0
    subst h0
    rfl)
   generalize os[i]=o at *
   clear hsl hlt hi
   generalize aL d1 most L1 (aU o)=AR at *
   obtain ⟨k,d2,L2⟩:=AR
   simp only at hres HAp HA1 HA2 HA3
   have HRes:=aj hres
   clear hres
   go_wp2_with fail
   (with_reducible refine Calls.mono HAp.out ?_)
   intro e w3 hp
   obtain ⟨rfl,X2,F2,E2,hb2,ht2,hE2,hX2,hX2',hEE⟩:=HB.out.logged hp
   have HB2:=aj hb2
   have HRc2:=aj (HRc.out.step (X':=fun q=>X2 q∨E2 q) ht2 (fun q hq => .inr hq) (fun q hq=>by
    rcases hq with hq | hq
    ·rcases hX2' q hq with h1 | h1
     ·exact .inl (.inl h1)
     ·exact .inr h1
    ·rcases hE2 q hq with h1 | h1
     ·exact .inl (.inr h1)
     ·exact .inr h1) (fun q hq=>by
    rcases hq with hq | hq
    ·exact .inl (hX2 q hq)
    ·exact .inr (hEE q hq)))
   have hsz:=HF.out.2.2.1.size
   have HF2:=aj (show Tn E w w3∧(∀ q,E2 q→E q∨w.heap.size≤q)∧(∀ q,X q→X2 q)∧(∀ q,X2 q→X q∨w.heap.size≤q)∧∀ q,E q→E2 q from ⟨HF.out.2.2.1.trans ht2 HF.out.2.2.2.1,fun q hq=>by
    rcases hE2 q hq with h1 | h1
    ·exact HF.out.2.2.2.1 q h1
    ·right;omega,fun q hq=>hX2 q (HF.out.2.2.2.2.1 q hq),fun q hq=>by
    rcases hX2' q hq with h1 | h1
    ·exact HF.out.2.2.2.2.2.1 q h1
    ·right;omega,fun q hq=>hEE q (HF.out.2.2.2.2.2.2 q hq)⟩)
   have HW2:=aj hb2.whole
   clear hp hb2 ht2 hE2 hX2 hX2' hEE c0 c1 c2 c3 hcell
   have hkk:k=9∨k=0∨k=10:=by
    cases HRes.out with
    | full _ _=>exact .inl rfl
    | came _ _ _ _=>exact .inr (.inl rfl)
    | fell _ _=>exact .inr (.inr rfl)
   rcases hkk with rfl | rfl | rfl
   ·have HNo:=aj (rT HW2.out 9)
    go_wp2_with fail
    (with_reducible refine Calls.mono HNo.out ?_)
    rintro e w4 ⟨rfl,rfl⟩
    go_wp2_with fail
    go_ret
    have h9:=HB2.out.noted (false||decide ((9:Int)=10))
    obtain ⟨hu9,hr9⟩:iy d2 most L2 R (os.take i) (N+i)∧d2.room=d1.room:=by
     cases HRes.out with
     | full u1 u2=>exact ⟨u1,u2⟩
    refine ⟨9,d2,L2,rfl,⟨hr9.trans HF.out.1,HA1.out.trans HAr.out.1,fun _=>by decide,HA3.out⟩,.inr (.inl ⟨rfl,i,HK.out,⟨X2,F2,E2,h9.1.more (by omega),HF2.out.1.trans h9.2 HF2.out.2.1,HF2.out.2⟩,hu9.grow (by have:=HK.out;omega) HN.out⟩)⟩
   ·go_wp2_with fail
    obtain ⟨hu9,hr9,hL9,hf9⟩:iy d2 most L2 R (os.take i++[o]) (N+i+1)∧d2.room=d1.room∧aC L2=aC L1++[aU o]∧aS L2=aS L1:=by
     cases HRes.out with
     | came u1 u2 u3 u4=>exact ⟨u1,u2,u3,u4⟩
    have HFi9:=aj (hf9.trans HFi.out)
    have HAr9:=aj (show d2.armed=d.armed∧(i+1=0→d2=d∧L2=L)∧(0<i+1→qF d most L os 0) from ⟨HA1.out.trans HAr.out.1,fun h=>absurd h (Nat.succ_ne_zero i),fun _=>HA3.out⟩)
    rw [← HTo.out] at hu9
    have HU9:=aj hu9
    have HF9:=aj (show d2.room=d.room∧aC L2=aC L++(os.take (i+1)).map aU∧Tn E w w3∧(∀ q,E2 q→E q∨w.heap.size≤q)∧(∀ q,X q→X2 q)∧(∀ q,X2 q→X q∨w.heap.size≤q)∧∀ q,E q→E2 q from ⟨hr9.trans HF.out.1,by rw [hL9,HF.out.2.1,List.append_assoc,HT.out],HF2.out⟩)
    clear hu9 hr9 hL9 hf9
    go_roundw
    case rel=>exact ⟨i+1,d2,L2,X2,F2,E2,by have:=HK.out;omega,by go_num,HB2,HRc2,HU9,HF9,HFi9,HAr9⟩
    case measure=>have:=HK.out;simp [intOf];omega
   ·have HNo:=aj (rT HW2.out 10)
    go_wp2_with fail
    (with_reducible refine Calls.mono HNo.out ?_)
    rintro e w4 ⟨rfl,rfl⟩
    go_wp2_with fail
    go_ret
    have h9:=HB2.out.noted (false||decide ((10:Int)=10))
    obtain ⟨hu9,hr9⟩:lK d2 most R (os.take i++[o]) (N+i+1)∧d2.room=d1.room:=by
     cases HRes.out with
     | fell u1 u2=>exact ⟨u1,u2⟩
    rw [← HTo.out] at hu9
    refine ⟨10,d2,L2,rfl,⟨hr9.trans HF.out.1,HA1.out.trans HAr.out.1,fun ha=>HA2.out (HAr.out.1.trans ha),HA3.out⟩,.inr (.inr ⟨rfl,i+1,HK.out,⟨X2,F2,E2,h9.1.more (by omega),HF2.out.1.trans h9.2 HF2.out.2.1,HF2.out.2⟩,hu9.grow (by have:=HK.out;omega) HN.out⟩)⟩
  ·obtain rfl:i=os.length:=by omega
   have x1:¬ (os.length:Int)<(os.length:Int):=by omega
   obtain ⟨base,hl,h0⟩:=HUL.out.gY
   have HSy:=aj (HB.out.lg.sync hl)
   have H0:=aj h0
   obtain ⟨c0,c1,c2,c3,-⟩:=jr HB.out.whole
   clear hlt hi hl h0
   go_wp2_with fail
   (with_reducible refine Calls.mono HSy.out ?_)
   rintro e w3 ⟨d2,ok2,ar2,ro2,fast2,hp⟩
   obtain ⟨rfl,X2,F2,E2,hb2,ht2,hE2,hX2,hX2',hEE⟩:=HB.out.logged hp
   have hsz:=HF.out.2.2.1.size
   have HB2:=aj hb2
   have HF2:=aj (show Tn E w w3∧(∀ q,E2 q→E q∨w.heap.size≤q)∧(∀ q,X q→X2 q)∧(∀ q,X2 q→X q∨w.heap.size≤q)∧∀ q,E q→E2 q from ⟨HF.out.2.2.1.trans ht2 HF.out.2.2.2.1,fun q hq=>by
    rcases hE2 q hq with h1 | h1
    ·exact HF.out.2.2.2.1 q h1
    ·right;omega,fun q hq=>hX2 q (HF.out.2.2.2.2.1 q hq),fun q hq=>by
    rcases hX2' q hq with h1 | h1
    ·exact HF.out.2.2.2.2.2.1 q h1
    ·right;omega,fun q hq=>hEE q (HF.out.2.2.2.2.2.2 q hq)⟩)
   have HUp:=aj (HUL.out.synced ok2 H0.out fast2)
   have HLf:=aj (show ∃ base,aH d2 most base L1 (N+os.length) 1048576∧(L1=[]→base=0)∧iR d2 base L1 from ⟨_,ok2,H0.out,fast2⟩)
   have HRo:=aj (show Rm d d2 (qF d most L os) 0 from ⟨ro2.trans HF.out.1,ar2.trans HAr.out.1,fun _=>by decide,fun o h1=>HAr.out.2.2 (by rw [h1];simp) o h1⟩)
   have HNo:=aj (rT hb2.whole 0)
   clear hp hb2 ht2 hE2 hX2 hX2' hEE c0 c1 c2 c3 ok2 ar2 ro2 fast2
   go_wp2_with fail
   (with_reducible refine Calls.mono HNo.out ?_)
   rintro e w4 ⟨rfl,rfl⟩
   go_wp2_with fail
   go_ret
   have h9:=HB2.out.noted (false||decide ((0:Int)=10))
   have hup:=HUp.out
   have hL:=HF.out.2.1
   rw [List.take_length] at hup hL
   exact ⟨0,d2,L1,rfl,HRo.out,.inl ⟨rfl,⟨X2,F2,E2,h9.1.more (by omega),HF2.out.1.trans h9.2 HF2.out.2.1,HF2.out.2⟩,hup,hL,HFi.out,HLf.out⟩⟩
end
end Rp
end Go.Proofs.YtpcmlopbkehffaaGreat
namespace Go.Proofs.YtpcmlopbkehffaaGreat
open Go.RowKit Rg Bl Re Wl Dsk Fm
namespace Rp
def keepR (R:List au) (t:Nat) (r:aF):List au:=if dH r (aA R t) then R else bJ R t r
def aej (B:Nat) (w0 W0:World) (X0 E0:Nat→Prop) (gr gl gd bm:Nat) (most:Int) (R:List au) (t:Nat) (r:aF) (N:Nat) (d:ak) (z:Int→Prop) (e:Ending) (w':World):Prop :=
 ∃ (k : Int) (d':ak) (L':List FS),e = .returned (.int .i64 k)∧Rm d d' z k ∧
   ((k=0∧dh B w0 W0 X0 E0 gr gl gd bm d' most L' (keepR R t r) false (N+2) w'∧RUp d' most L' (keepR R t r) (N+2)) ∨
    (k=9∧dh B w0 W0 X0 E0 gr gl gd bm d' most L' R false (N+2) w'∧RUp d' most L' R (N+2)) ∨
    (k=10∧dh B w0 W0 X0 E0 gr gl gd bm d' most L' R true (N+2) w'∧dH r (aA R t)=false∧∃ os1,(os1=[]∨os1=[⟨t,r⟩])∧lK d' most R os1 (N+2)))
section
variable {B:Nat} {w0 w:World} {gr gl gd bm:Nat} {X F E:Nat→Prop} {d:ak} {most:Int} {L:List FS} {R:List au} {N:Nat}
theorem ajw {w3:World} {Z:Nat→Prop} {Ar:Option Addr} {c:Nat} {o:au} {b:Nat} (ho:Own b w3 Ar 41 c (aU o)) (hb:b≤w3.heap.size) (hZ:∀ q,Z q→q<b):nI (w3.alloc (.cells #[.slice Ar 41 c] 109)) Z (some ⟨w3.heap.size,0,none⟩) 1 1 [o]:=by
 have hrow:=bC.uL (aiu 109 w3 [.slice Ar 41 c] #[.slice Ar 41 c] rfl 1 rfl (by omega) w3.heap.size (Nat.le_refl _)) (by intro u hu;rw [List.mem_singleton.1 hu];rfl)
 refine ⟨⟨[.slice Ar 41 c],hrow,rfl,fun i hi=>?_⟩,fun k hk hz=>?_⟩
 ·have hi0:i=0:=by simpa using hi
  subst hi0
  refine ⟨Ar,41,c,rfl,(ho.alloc _).sl,fun a ea hne hq=>?_⟩
  have h1:=jY ho a.block (by rw [fT,ea];rfl)
  rcases hq with hq | hq
  ·have:=hZ _ hq;omega
  ·subst ea
   have h2:=Sl.block ho.sl (fun e=>by have:=p9 o;rw [e] at this;cases this)
   have h3:w3.heap.size=a.block:=Option.some.inj hq
   omega
 ·injection hk with hk
  have h1:k=w3.heap.size:=hk.symm
  have:=hZ k hz
  omega
set_option maxRecDepth 100000 in
set_option maxHeartbeats 8000000 in
theorem agw (h:bO B w0 w gr gl gd bm X F E d most L R false N) (hu:RUp d most L R N) (t:Nat) (r:aF) (ok:au.Ok ⟨t,r⟩) (hN:N+2≤1000000) (K:Int→Prop) (hK:K (if dH r (aA R t) then 0 else (aL d most L (aU ⟨t,r⟩)).1)) :
  Calls Tryz.prog 35 #[.pointer (some ⟨gr,0,none⟩),.int .u64 (t:Nat),aK r] w (aej B w0 w X E gr gl gd bm most R t r N d K):=by
 have hba:Below w.heap.size w (w.alloc (.cells (aQ r) 54)):=(Below.refl _ _).alloc (Nat.le_refl _) _
 have H:=aj (h.later hba)
 have HU:=aj hu
 have HOk:=aj ok
 have HN:=aj hN
 have HK:=aj hK
 clear hK
 have HXE:=aj (show (∀ q,X q→q<w.heap.size)∧∀ q,E q→q<w.heap.size from ⟨h.lg.xlt,h.elt⟩)
 have HBa:=aj hba
 obtain ⟨c0,c1,c2,c3,-⟩:=jr H.out.whole
 have HW:=aj (aP w 54 (aQ r))
 have k0:=HW.out.cell 0 (.int .u64 (r.p.pos:Nat)) rfl
 have k1:=HW.out.cell 1 (.int .u64 (r.p.id:Nat)) rfl
 have k2:=HW.out.cell 2 (.int .u64 (r.t.pos:Nat)) rfl
 have k3:=HW.out.cell 3 (.int .u64 (r.t.id:Nat)) rfl
 have k4:=HW.out.cell 4 (.int .i64 r.v) rfl
 have hlk:∀ q,(Instr.lookup 82 (.map (some bm)) (.int .u64 (t:Nat)) false).run Tryz.prog ((w.alloc (.cells (aQ r) 54)).drewN q) = .ok (aK (aA R t)) ((w.alloc (.cells (aQ r) 54)).drewN q):=fun q=>by
  obtain ⟨n,D,hn,hm⟩:=H.out.map
  exact (hm.below (below_drewN (Below.refl _ _) q)).look ok.t1
 have heq:=fun (w:World)=>ajX r (aA R t) w
 obtain ⟨wa,hwa⟩:∃ wa:World,wa=w.alloc (.cells (aQ r) 54):=⟨_,rfl⟩
 rw [← hwa] at H HBa c0 c1 c2 c3 HW k0 k1 k2 k3 k4 hlk
 have HWa:=aj hwa
 have HKp:=aj (show keepR R t r=if dH r (aA R t) then R else bJ R t r from rfl)
 generalize hgo:aA R t=old at *
 have HGo:=aj hgo
 clear hgo
 have HSz:=aj (show w.heap.size<wa.heap.size by rw [hwa];simp)
 clear h hu hba hwa ok hN
 go_enter Tryz.func35,Tryz.ntmps35
 go_wp2_with fail
 try rw [← HWa.out]
 go_quiet (fail)
 have HBq:=aj (below_drewN (Below.refl wa.heap.size wa) nq)
 have Hq:=aj (H.out.later HBq.out)
 have HWq:=aj (HW.out.below HBq.out HW.out.lt)
 have HSq:=aj (show w.heap.size<(wa.drewN nq).heap.size from HSz.out)
 have HBw:=aj (show Below w.heap.size w (wa.drewN nq) from HBa.out.trans (HBq.out.mono HBa.out.size))
 clear c0 c1 c2 c3 k0 k1 k2 k3 k4 hlk heq HBq HW H HBa HWa
 generalize wa.drewN nq=wq at *
 cases hsm:dH r old
 · -- another register
  have HSm:=aj hsm
  have HRc:=aj (adg t r wq HOk.out)
  have k0:=HWq.out.cell 0 (.int .u64 (r.p.pos:Nat)) rfl
  have k1:=HWq.out.cell 1 (.int .u64 (r.p.id:Nat)) rfl
  have k2:=HWq.out.cell 2 (.int .u64 (r.t.pos:Nat)) rfl
  have k3:=HWq.out.cell 3 (.int .u64 (r.t.id:Nat)) rfl
  have k4:=HWq.out.cell 4 (.int .i64 r.v) rfl
  clear hsm
  go_wp2_with fail
  (with_reducible refine Calls.mono HRc.out ?_)
  rintro e w3 ⟨Ar,cr,rfl,ho,hb3⟩
  have hs3:=hb3.size
  have HRs:=aj (ajw (Z:=fun q=>X q∨E q) (o:=⟨t,r⟩) ho hs3 (fun q hq=>by
   rcases hq with hq | hq
   ·have:=HXE.out.1 q hq;have:=HSq.out;omega
   ·have:=HXE.out.2 q hq;have:=HSq.out;omega))
  have hb4:Below wq.heap.size wq (w3.alloc (.cells #[.slice Ar 41 cr] 109)):=hb3.alloc hs3 _
  have H4:=aj (Hq.out.later hb4)
  have HW4:=aj (HWq.out.below hb4 HWq.out.lt)
  have HB4:=aj (HBw.out.trans (hb4.mono (Nat.le_of_lt HSq.out)))
  have HWr:=aj (aec H4.out HU.out (some ⟨w3.heap.size,0,none⟩) 1 [⟨t,r⟩] HRs.out (fun o ho=>by rw [List.mem_singleton.1 ho];exact HOk.out) (by have:=HN.out;simp;omega))
  have HSz4:=aj (show w.heap.size<(w3.alloc (.cells #[.slice Ar 41 cr] 109)).heap.size from Nat.lt_of_lt_of_le HSq.out hb4.size)
  clear ho hb3 hb4 k0 k1 k2 k3 k4
  go_wp2_with fail
  obtain ⟨w4,hw4⟩:∃ w4:World,w4=w3.alloc (.cells #[.slice Ar 41 cr] 109):=⟨_,rfl⟩
  rw [← hw4] at HW4 HB4 HWr HSz4 ⊢
  clear hw4 H4 HRs hs3
  (with_reducible refine Calls.mono HWr.out ?_)
  rintro e w5 ⟨k,d',L',rfl,hro,hp⟩
  have HRo:=aj (hro.mono (K':=K) (fun h=>by have h9:=HK.out;rw [HSm.out,if_neg (by decide),← h _ rfl] at h9;exact h9))
  have key:∀ {d2:ak} {L2:List FS} {R2:List au} {dn:Bool} {N2:Nat},dh B w0 w4 X E gr gl gd bm d2 most L2 R2 dn N2 w5→dh B w0 w X E gr gl gd bm d2 most L2 R2 dn N2 w5∧Whole w5 w.heap.size 54 (aQ r):=fun hS=>by
   obtain ⟨X5,F5,E5,r1,r2,r3,r4,r5,r6⟩:=hS
   have hz:=HB4.out.size
   refine ⟨⟨X5,F5,E5,r1,(Tn.of_below HB4.out).trans r2 (fun q hq => .inl hq),fun q hq=>?_,r4,fun q hq=>?_,r6⟩,HW4.out.tn r2 (fun hq=>by have:=HXE.out.2 _ hq;omega)⟩
   ·rcases r3 q hq with h1 | h1
    ·exact .inl h1
    ·right;omega
   ·rcases r5 q hq with h1 | h1
    ·exact .inl h1
    ·right;omega
  rcases hp with ⟨rfl,hS,hU,-⟩ | ⟨rfl,i,hi,hS,hU⟩ | ⟨rfl,i,hi,hS,hU⟩
  ·obtain ⟨X5,F5,E5,r1,r2,r3,r4,r5,r6⟩:=(key hS).1
   have HW5:=aj (key hS).2
   have HR5:=aj (And.intro r1 (And.intro r2 (And.intro r3 (And.intro r4 (And.intro r5 r6)))))
   have HU5:=aj hU
   have HKR:=aj (show keepR R t r=bJ R t r by rw [HKp.out,HSm.out];rfl)
   obtain ⟨n,D,hn,hm⟩:=r1.map
   obtain ⟨c0,c1,c2,c3,-⟩:=jr r1.whole
   have k0:=HW5.out.cell 0 (.int .u64 (r.p.pos:Nat)) rfl
   have k1:=HW5.out.cell 1 (.int .u64 (r.p.id:Nat)) rfl
   have k2:=HW5.out.cell 2 (.int .u64 (r.t.pos:Nat)) rfl
   have k3:=HW5.out.cell 3 (.int .u64 (r.t.id:Nat)) rfl
   have k4:=HW5.out.cell 4 (.int .i64 r.v) rfl
   have HMp:=aj hm
   have HOw:=aj (World.ownsMap.drew hm.own)
   have HKey:=aj (Vw.xH HOk.out.t1)
   have hnm:n≤1000000:=by have:=HN.out;simp at hn;omega
   have HNn:=aj hn
   clear hS hU hm hn r1 r2 r3 r4 r5 r6 key
   go_wp2_with fail
   go_still_tail 6,(by kernel_rfl)
   change wpList _ _ _ _ _ w5.drew
   go_wp2_with (first
    | (at_mapUpdate;refine wpList_mapUpdate_own _ rfl _ _ _ 82 rfl 33 54 Vw.rG Tryz.underlying82 _ bm n _ rfl HOw.out (by unfold maxLen;omega) _ _ _ rfl rfl HKey.out (.held (aK r)) [] rfl ?_;intro w6 hm hg;have HX:=aj (And.intro hm hg);clear hm hg)
    | fail)
   go_ret
   have hk9:=HR5.out.1.kept (N':=N+2) HU.out.facts.1 HOk.out.nz (HMp.out.below (Below.drew (Below.refl _ _))) (Below.drew (Below.refl _ _)) HX.out.1 HX.out.2 (by have:=HNn.out;simp at this;omega)
   refine ⟨0,d',L',rfl,HRo.out,.inl ⟨rfl,?_,?_⟩⟩
   ·rw [HKR.out]
    exact ⟨X5,F5,E5,hk9.1,HR5.out.2.1.trans hk9.2 HR5.out.2.2.1,HR5.out.2.2⟩
   ·rw [HKR.out]
    exact HU5.out.grow (by simp) HN.out
  ·have HS:=aj (key hS).1
   have HU5:=aj hU
   obtain rfl:i=0:=by simp at hi;exact hi
   clear hS hU key hi
   go_wp2_with fail
   go_ret
   exact ⟨9,d',L',rfl,HRo.out,.inr (.inl ⟨rfl,HS.out.more (by simp),(HU5.out.up (fun j hj=>by simp at hj;rw [hj];rfl)).grow (by simp) HN.out⟩)⟩
  ·have HS:=aj (key hS).1
   have HU5:=aj hU
   have hi2:i=0∨i=1:=by simp at hi;omega
   have HI:=aj hi2
   clear hS hU key hi hi2
   go_wp2_with fail
   go_ret
   refine ⟨10,d',L',rfl,HRo.out,.inr (.inr ⟨rfl,HS.out.more (by simp),by rw [HGo.out];exact HSm.out,_,?_,HU5.out.grow (by simp) HN.out⟩)⟩
   rcases HI.out with rfl | rfl
   ·exact .inl rfl
   ·exact .inr rfl
 ·have HKR:=aj (show keepR R t r=R by rw [HKp.out,hsm];rfl)
  have HSm:=aj hsm
  clear hsm
  go_wp2_with fail
  go_ret
  refine ⟨0,d,L,rfl,⟨rfl,rfl,fun _=>by decide,by have h9:=HK.out;rw [HSm.out,if_pos rfl] at h9;exact h9⟩,.inl ⟨rfl,?_,?_⟩⟩
  ·rw [HKR.out]
   exact ⟨X,F,E,Hq.out.more (by omega),Tn.of_below HBw.out,fun q hq => .inl hq,fun q hq=>hq,fun q hq => .inl hq,fun q hq=>hq⟩
  ·rw [HKR.out]
   exact HU.out.grow (by omega) HN.out
end
end Rp
end Go.Proofs.YtpcmlopbkehffaaGreat
namespace Go.Proofs.YtpcmlopbkehffaaGreat
open Go.RowKit Rg Bl Re Wl Dsk Fm
namespace Rp
abbrev mK (t:Nat) (b:aY) (v:Int):Array Value:=#[.int .u64 (t:Nat),.int .u64 (b.pos:Nat),.int .u64 (b.id:Nat),.int .i64 v]
theorem alN (w:World) (r:aF) (t:Nat) (b:aY) (v:Int) :
  Below w.heap.size w (((w.alloc (.cells (aQ r) 54)).alloc (.cells (mK t b v) 92)).alloc (.cells #[.int .u64 0,.int .u64 0,.int .u64 0,.int .u64 0,.int .i64 0] 54)) ∧
  Whole (((w.alloc (.cells (aQ r) 54)).alloc (.cells (mK t b v) 92)).alloc (.cells #[.int .u64 0,.int .u64 0,.int .u64 0,.int .u64 0,.int .i64 0] 54)) w.heap.size 54 (aQ r) ∧
  Whole (((w.alloc (.cells (aQ r) 54)).alloc (.cells (mK t b v) 92)).alloc (.cells #[.int .u64 0,.int .u64 0,.int .u64 0,.int .u64 0,.int .i64 0] 54)) (w.heap.size+1) 92 (mK t b v) ∧
  Whole (((w.alloc (.cells (aQ r) 54)).alloc (.cells (mK t b v) 92)).alloc (.cells #[.int .u64 0,.int .u64 0,.int .u64 0,.int .u64 0,.int .i64 0] 54)) (w.heap.size+1+1) 54 #[.int .u64 0,.int .u64 0,.int .u64 0,.int .u64 0,.int .i64 0]:=by
 have h1:(w.alloc (.cells (aQ r) 54)).heap.size=w.heap.size+1:=by simp
 have h2:((w.alloc (.cells (aQ r) 54)).alloc (.cells (mK t b v) 92)).heap.size=w.heap.size+1+1:=by simp
 have a1:=aP w 54 (aQ r)
 have a2:=aP (w.alloc (.cells (aQ r) 54)) 92 (mK t b v)
 have a3:=aP ((w.alloc (.cells (aQ r) 54)).alloc (.cells (mK t b v) 92)) 54 #[.int .u64 0,.int .u64 0,.int .u64 0,.int .u64 0,.int .i64 0]
 rw [h1] at a2
 rw [h2] at a3
 exact ⟨(((Below.refl w.heap.size w).alloc (Nat.le_refl _) _).alloc (by rw [h1];omega) _).alloc (by rw [h2];omega) _,(a1.alloc _).alloc _,a2.alloc _,a3⟩
set_option maxRecDepth 100000 in
set_option maxHeartbeats 8000000 in
theorem aew (r:aF) (t:Nat) (b:aY) (v:Int) (w:World):Calls Tryz.prog 34 #[aK r,aaV t b v] w (bT w.heap.size w (.tuple #[aK (iW r b v),.bool (jB r b v)])):=by
 obtain ⟨hb,hw2,hw3,hw4⟩:=alN w r t b v
 obtain ⟨wa,hwa⟩:∃ wa:World,wa=(((w.alloc (.cells (aQ r) 54)).alloc (.cells (mK t b v) 92)).alloc (.cells #[.int .u64 0,.int .u64 0,.int .u64 0,.int .u64 0,.int .i64 0] 54)):=⟨_,rfl⟩
 rw [← hwa] at hb hw2 hw3 hw4
 have HWa:=aj hwa
 have HB:=aj hb
 have H2:=aj hw2
 have H3:=aj hw3
 have H4:=aj hw4
 have HAc:=aj (aaB t b v wa)
 have HSz:=aj (show w.heap.size≤w.heap.size+1+1 by omega)
 have j0:=hw3.cell 0 _ rfl
 have j1:=hw3.cell 1 _ rfl
 have j2:=hw3.cell 2 _ rfl
 have j3:=hw3.cell 3 _ rfl
 clear hwa hb hw2 hw3 hw4
 by_cases hv:v=0
 ·have HD:=aj (show decide (v≠0)=false by simp [hv])
  have HF:=aj (show iW r b v=jZ r b∧jB r b v = !fE r b from ⟨by unfold iW;rw [if_pos hv],by unfold jB;rw [if_pos hv]⟩)
  have HPr:=aj (fun W=>ai3 r b W)
  rw [HD.out] at HAc
  rw [HF.out.1,HF.out.2]
  generalize jZ r b=x at *
  generalize (!fE r b)=y at *
  clear hv
  go_enter Tryz.func34,Tryz.ntmps34
  go_wp2_with fail
  try rw [← HWa.out]
  (with_reducible refine Calls.mono HAc.out ?_)
  rintro e w1 ⟨rfl,hb1⟩
  have HB1:=aj (HB.out.trans (hb1.mono HB.out.size))
  have H21:=aj (H2.out.below hb1 H2.out.lt)
  have H31:=aj (H3.out.below hb1 H3.out.lt)
  have H41:=aj (H4.out.below hb1 H4.out.lt)
  have i0:=H21.out.cell 0 (.int .u64 (r.p.pos:Nat)) rfl
  have i1:=H21.out.cell 1 (.int .u64 (r.p.id:Nat)) rfl
  have i2:=H21.out.cell 2 (.int .u64 (r.t.pos:Nat)) rfl
  have i3:=H21.out.cell 3 (.int .u64 (r.t.id:Nat)) rfl
  have i4:=H21.out.cell 4 (.int .i64 r.v) rfl
  have j1:=H31.out.cell 1 (.int .u64 (b.pos:Nat)) rfl
  have j2:=H31.out.cell 2 (.int .u64 (b.id:Nat)) rfl
  have j3:=H31.out.cell 3 (.int .i64 v) rfl
  clear hb1 j0
  go_wp2_with fail
  (with_reducible refine Calls.mono (HPr.out _) ?_)
  rintro e w2 ⟨rfl,hb2⟩
  have HB2:=aj (HB1.out.trans (hb2.mono HB1.out.size))
  have H42:=aj (H41.out.below hb2 H41.out.lt)
  have f1:=fun i=>H42.out.free i
  have u0:=H42.out.cell 0 (.int .u64 0) rfl
  have u1:=H42.out.cell 1 (.int .u64 0) rfl
  have u2:=H42.out.cell 2 (.int .u64 0) rfl
  have u3:=H42.out.cell 3 (.int .u64 0) rfl
  have u4:=H42.out.cell 4 (.int .i64 0) rfl
  clear hb2 i0 i1 i2 i3 i4 j1 j2 j3
  go_wp2_with fail
  have HW2:=aj (kD H42.out (.int .u64 (x.p.pos:Nat)) (.int .u64 (x.p.id:Nat)) (.int .u64 (x.t.pos:Nat)) (.int .u64 (x.t.id:Nat)) (.int .i64 x.v))
  have k0:=HW2.out.cell 0 (.int .u64 (x.p.pos:Nat)) rfl
  have k1:=HW2.out.cell 1 (.int .u64 (x.p.id:Nat)) rfl
  have k2:=HW2.out.cell 2 (.int .u64 (x.t.pos:Nat)) rfl
  have k3:=HW2.out.cell 3 (.int .u64 (x.t.id:Nat)) rfl
  have k4:=HW2.out.cell 4 (.int .i64 x.v) rfl
  exact bodyPost_ret (v := .tuple #[aK x,.bool y]) (by simp [results,Tryz.results34,go_sem,k0,k1,k2,k3,k4]) rfl (bH rfl (eT HB2.out HSz.out _ _ _ _ _))
 ·have HD:=aj (show decide (v≠0)=true by simp [hv])
  have HF:=aj (show iW r b v=jO r b v∧jB r b v=fu r b v from ⟨by unfold iW;rw [if_neg hv],by unfold jB;rw [if_neg hv]⟩)
  have HPr:=aj (fun W=>aev r b v W)
  rw [HD.out] at HAc
  rw [HF.out.1,HF.out.2]
  generalize jO r b v=x at *
  generalize fu r b v=y at *
  clear hv
  go_enter Tryz.func34,Tryz.ntmps34
  go_wp2_with fail
  try rw [← HWa.out]
  (with_reducible refine Calls.mono HAc.out ?_)
  rintro e w1 ⟨rfl,hb1⟩
  have HB1:=aj (HB.out.trans (hb1.mono HB.out.size))
  have H21:=aj (H2.out.below hb1 H2.out.lt)
  have H31:=aj (H3.out.below hb1 H3.out.lt)
  have H41:=aj (H4.out.below hb1 H4.out.lt)
  have i0:=H21.out.cell 0 (.int .u64 (r.p.pos:Nat)) rfl
  have i1:=H21.out.cell 1 (.int .u64 (r.p.id:Nat)) rfl
  have i2:=H21.out.cell 2 (.int .u64 (r.t.pos:Nat)) rfl
  have i3:=H21.out.cell 3 (.int .u64 (r.t.id:Nat)) rfl
  have i4:=H21.out.cell 4 (.int .i64 r.v) rfl
  have j1:=H31.out.cell 1 (.int .u64 (b.pos:Nat)) rfl
  have j2:=H31.out.cell 2 (.int .u64 (b.id:Nat)) rfl
  have j3:=H31.out.cell 3 (.int .i64 v) rfl
  clear hb1 j0
  go_wp2_with fail
  (with_reducible refine Calls.mono (HPr.out _) ?_)
  rintro e w2 ⟨rfl,hb2⟩
  have HB2:=aj (HB1.out.trans (hb2.mono HB1.out.size))
  have H42:=aj (H41.out.below hb2 H41.out.lt)
  have f1:=fun i=>H42.out.free i
  have u0:=H42.out.cell 0 (.int .u64 0) rfl
  have u1:=H42.out.cell 1 (.int .u64 0) rfl
  have u2:=H42.out.cell 2 (.int .u64 0) rfl
  have u3:=H42.out.cell 3 (.int .u64 0) rfl
  have u4:=H42.out.cell 4 (.int .i64 0) rfl
  clear hb2 i0 i1 i2 i3 i4 j1 j2 j3
  go_wp2_with fail
  have HW2:=aj (kD H42.out (.int .u64 (x.p.pos:Nat)) (.int .u64 (x.p.id:Nat)) (.int .u64 (x.t.pos:Nat)) (.int .u64 (x.t.id:Nat)) (.int .i64 x.v))
  have k0:=HW2.out.cell 0 (.int .u64 (x.p.pos:Nat)) rfl
  have k1:=HW2.out.cell 1 (.int .u64 (x.p.id:Nat)) rfl
  have k2:=HW2.out.cell 2 (.int .u64 (x.t.pos:Nat)) rfl
  have k3:=HW2.out.cell 3 (.int .u64 (x.t.id:Nat)) rfl
  have k4:=HW2.out.cell 4 (.int .i64 x.v) rfl
  exact bodyPost_ret (v := .tuple #[aK x,.bool y]) (by simp [results,Tryz.results34,go_sem,k0,k1,k2,k3,k4]) rfl (bH rfl (eT HB2.out HSz.out _ _ _ _ _))
end Rp
end Go.Proofs.YtpcmlopbkehffaaGreat
namespace Go.Proofs.YtpcmlopbkehffaaGreat
open Go.RowKit Rg Bl Re Wl Dsk Fm
namespace Rp
def dU (p:av):Bool:=dF p&&(decide (p.kind=4)||decide (p.kind=6))
def vP (V:Value):Prop:=∀ w:World,(Instr.typeAssert V 20 92 true).run Tryz.prog w = .ok (.tuple #[nC,.bool false]) w
theorem akg {p:av} (h:dF p=true):p.kind=1∨p.kind=2∨p.kind=3∨p.kind=4∨p.kind=5∨p.kind=6∨p.kind=7∨p.kind=8∨p.kind=9∨p.kind=10:=by
 refine Classical.byContradiction fun hn=>?_
 simp only [not_or] at hn
 obtain ⟨h1,h2,h3,h4,h5,h6,h7,h8,h9,h10⟩:=hn
 unfold dF at h
 rw [show aV p.kind=⟨false,false,false,false,false,false,false⟩ by unfold aV;rw [if_neg h1,if_neg h2,if_neg h3,if_neg h4,if_neg h5,if_neg h6,if_neg h7,if_neg h8,if_neg h9,if_neg h10]] at h
 cases h
theorem agW {p:av} (h:dF p=true):((aV p.kind).spans=true→p.spans≠[])∧((aV p.kind).members=true→p.members≠[])∧((aV p.kind).ids=true→p.ids≠[]):=by
 unfold dF at h
 simp only [Bool.and_eq_true] at h
 obtain ⟨_,_,_,h3⟩:=h
 unfold kK at h3
 simp only [Bool.and_eq_true] at h3
 obtain ⟨s1,_,s3,_,s5,_⟩:=h3
 refine ⟨fun e=>?_,fun e=>?_,fun e=>?_⟩
 ·rw [e] at s1;intro h;rw [h] at s1;cases s1
 ·rw [e] at s3;intro h;rw [h] at s3;cases s3
 ·rw [e] at s5;intro h;rw [h] at s5;cases s5
theorem nU {R:World→Option Addr→Nat→Prop} {n:Nat} {V:Value→Value} {w w':World} {e:Ending} (k:∀ x,vP (V x)) (h:OfP R n V w e w'):∃ V k,e = .returned (.tuple #[V,.int .i64 k])∧vP V∧Below w.heap.size w w':=by
 obtain ⟨A,c,h1,-,h3⟩:=h
 exact ⟨_,0,h1,k _,h3⟩
theorem acU {V:Value} {w w':World} {e:Ending} (h:OfP (fun _ _ _=>True) 0 (fun _=>V) w e w'):e = .returned (.tuple #[V,.int .i64 0])∧Below w.heap.size w w':=by
 obtain ⟨A,c,h1,-,h3⟩:=h
 exact ⟨h1,h3⟩
set_option maxRecDepth 20000 in
theorem ahZ (p:av) (s:aT) (w:World) (hp:bP w p s) (hw:p.Wf) (hm:p.spans.length≤1000∧p.members.length≤1000∧p.ids.length≤1000) (hr:dU p=false) :
  Calls Tryz.prog 32 #[aM p s] w fun e w'=>∃ V k,e = .returned (.tuple #[V,.int .i64 k])∧vP V∧Below w.heap.size w w':=by
 cases hri:dF p
 ·exact (ah2 p s w hp hw (by omega) hri).mono fun e w' h=>⟨.nilIface,6,h.1,fun w=>ahB w,h.2⟩
 ·have hk:=akg hri
  unfold dU at hr
  rw [hri,Bool.true_and,Bool.or_eq_false_iff,decide_eq_false_iff_not,decide_eq_false_iff_not] at hr
  obtain ⟨k,tr,bn,bd,sn,sd,v,ok,l1,l2,l3⟩:=p
  obtain ⟨a1,c1,a2,c2,a3,c3⟩:=s
  simp only at hk hr hm
  have hl:=agW hri
  rcases hk with rfl | rfl | rfl | rfl | rfl | rfl | rfl | rfl | rfl | rfl
  ·exact (ahP tr bn bd sn sd v ok l1 l2 l3 a1 c1 a2 c2 a3 c3 w hp hw hm hri (hl.1 (by unfold aV;simp))).mono fun e w' h=>nU (fun x w=>acJ _ w) h
  ·exact (ahQ tr bn bd sn sd v ok l1 l2 l3 a1 c1 a2 c2 a3 c3 w hp hw hm hri (hl.1 (by unfold aV;simp))).mono fun e w' h=>nU (fun x w=>acJ _ w) h
  ·exact (ahR tr bn bd sn sd v ok l1 l2 l3 a1 c1 a2 c2 a3 c3 w hp hw hm hri (hl.2.1 (by unfold aV;simp))).mono fun e w' h=>nU (fun x w=>ahy _ w) h
  ·exact absurd rfl hr.1
  ·exact (ahT tr bn bd sn sd v ok l1 l2 l3 a1 c1 a2 c2 a3 c3 w hp hw hm hri).mono fun e w' h=>nU (fun x w=>acI _ w) h
  ·exact absurd rfl hr.2
  ·exact (ahV tr bn bd sn sd v ok l1 l2 l3 a1 c1 a2 c2 a3 c3 w hp hw hm hri).mono fun e w' h=>nU (fun x w=>acI _ w) h
  ·exact (ahW tr bn bd sn sd v ok l1 l2 l3 a1 c1 a2 c2 a3 c3 w hp hw hm hri).mono fun e w' h=>nU (fun x w=>ahA _ w) h
  ·exact (ahX tr bn bd sn sd v ok l1 l2 l3 a1 c1 a2 c2 a3 c3 w hp hw hm hri (hl.1 (by unfold aV;simp))).mono fun e w' h=>nU (fun x w=>ahz _ w) h
  ·exact (ahO tr bn bd sn sd v ok l1 l2 l3 a1 c1 a2 c2 a3 c3 w hp hw hm hri (hl.2.2 (by unfold aV;simp))).mono fun e w' h=>nU (fun x w=>ahx _ w) h
theorem ahY (p:av) (s:aT) (w:World) (hp:bP w p s) (hw:p.Wf) (hm:p.spans.length≤1000∧p.members.length≤1000∧p.ids.length≤1000) (hr:dU p=true) :
  Calls Tryz.prog 32 #[aM p s] w fun e w'=>e = .returned (.tuple #[lC p.trace p.bn p.aZ p.v,.int .i64 0])∧Below w.heap.size w w':=by
 unfold dU at hr
 rw [Bool.and_eq_true,Bool.or_eq_true,decide_eq_true_eq,decide_eq_true_eq] at hr
 obtain ⟨hri,hk⟩:=hr
 obtain ⟨k,tr,bn,bd,sn,sd,v,ok,l1,l2,l3⟩:=p
 obtain ⟨a1,c1,a2,c2,a3,c3⟩:=s
 simp only at hk hm
 rcases hk with rfl | rfl
 ·exact (ahS tr bn bd sn sd v ok l1 l2 l3 a1 c1 a2 c2 a3 c3 w hp hw hm hri).mono fun e w' h=>acU h
 ·exact (ahU tr bn bd sn sd v ok l1 l2 l3 a1 c1 a2 c2 a3 c3 w hp hw hm hri).mono fun e w' h=>acU h
theorem ow {p:av} (h:dU p=true):p.trace≠0∧p.bn≠0∧((p.kind=4∧p.v=0)∨(p.kind=6∧1≤p.v∧p.v≤3)):=by
 unfold dU at h
 rw [Bool.and_eq_true,Bool.or_eq_true,decide_eq_true_eq,decide_eq_true_eq] at h
 obtain ⟨hri,hk⟩:=h
 unfold dF at hri
 simp only [Bool.and_eq_true] at hri
 obtain ⟨_,h1,_,_⟩:=hri
 unfold kM at h1
 simp only [Bool.and_eq_true,decide_eq_true_eq,beq_iff_eq] at h1
 obtain ⟨n1,n2,n3,n4⟩:=h1
 rcases hk with hk | hk
 ·rw [hk,ac1] at n1 n2 n3 n4
  have n1:true=decide (p.trace≠0):=n1
  have n2:decide (p.bn≠0)=true:=n2
  have n3:(0:Int)≤p.v:=n3
  have n4:p.v≤0:=n4
  exact ⟨of_decide_eq_true n1.symm,of_decide_eq_true n2,.inl ⟨hk,by omega⟩⟩
 ·rw [hk,ac2] at n1 n2 n3 n4
  have n1:true=decide (p.trace≠0):=n1
  have n2:decide (p.bn≠0)=true:=n2
  have n3:(1:Int)≤p.v:=n3
  have n4:p.v≤3:=n4
  exact ⟨of_decide_eq_true n1.symm,of_decide_eq_true n2,.inr ⟨hk,n3,n4⟩⟩
end Rp
end Go.Proofs.YtpcmlopbkehffaaGreat
namespace Go.Proofs.YtpcmlopbkehffaaGreat
open Go.RowKit Rg Bl Re Wl Dsk Fm
namespace Rp
set_option maxHeartbeats 8000000 in
theorem vE {w:World} {g:Nat} {t:TypeId} {u0 u1 u2 u3 u4 u5 u6 u7 u8 u9 u10:Value} (h:Whole w g t #[u0,u1,u2,u3,u4,u5,u6,u7,u8,u9,u10]) (v0 v1 v2 v3 v4 v5 v6 v7 v8 v9 v10:Value):Whole (((((((((((w.setCell ⟨g,0,none⟩ v0).setCell ⟨g,1,none⟩ v1).setCell ⟨g,2,none⟩ v2).setCell ⟨g,3,none⟩ v3).setCell ⟨g,4,none⟩ v4).setCell ⟨g,5,none⟩ v5).setCell ⟨g,6,none⟩ v6).setCell ⟨g,7,none⟩ v7).setCell ⟨g,8,none⟩ v8).setCell ⟨g,9,none⟩ v9).setCell ⟨g,10,none⟩ v10) g t #[v0,v1,v2,v3,v4,v5,v6,v7,v8,v9,v10]:=by
 have h0:Whole (w.setCell ⟨g,0,none⟩ v0) g t #[v0,u1,u2,u3,u4,u5,u6,u7,u8,u9,u10]:=h.store 0 v0
 have h1:Whole ((w.setCell ⟨g,0,none⟩ v0).setCell ⟨g,1,none⟩ v1) g t #[v0,v1,u2,u3,u4,u5,u6,u7,u8,u9,u10]:=h0.store 1 v1
 have h2:Whole (((w.setCell ⟨g,0,none⟩ v0).setCell ⟨g,1,none⟩ v1).setCell ⟨g,2,none⟩ v2) g t #[v0,v1,v2,u3,u4,u5,u6,u7,u8,u9,u10]:=h1.store 2 v2
 have h3:Whole ((((w.setCell ⟨g,0,none⟩ v0).setCell ⟨g,1,none⟩ v1).setCell ⟨g,2,none⟩ v2).setCell ⟨g,3,none⟩ v3) g t #[v0,v1,v2,v3,u4,u5,u6,u7,u8,u9,u10]:=h2.store 3 v3
 have h4:Whole (((((w.setCell ⟨g,0,none⟩ v0).setCell ⟨g,1,none⟩ v1).setCell ⟨g,2,none⟩ v2).setCell ⟨g,3,none⟩ v3).setCell ⟨g,4,none⟩ v4) g t #[v0,v1,v2,v3,v4,u5,u6,u7,u8,u9,u10]:=h3.store 4 v4
 have h5:Whole ((((((w.setCell ⟨g,0,none⟩ v0).setCell ⟨g,1,none⟩ v1).setCell ⟨g,2,none⟩ v2).setCell ⟨g,3,none⟩ v3).setCell ⟨g,4,none⟩ v4).setCell ⟨g,5,none⟩ v5) g t #[v0,v1,v2,v3,v4,v5,u6,u7,u8,u9,u10]:=h4.store 5 v5
 have h6:Whole (((((((w.setCell ⟨g,0,none⟩ v0).setCell ⟨g,1,none⟩ v1).setCell ⟨g,2,none⟩ v2).setCell ⟨g,3,none⟩ v3).setCell ⟨g,4,none⟩ v4).setCell ⟨g,5,none⟩ v5).setCell ⟨g,6,none⟩ v6) g t #[v0,v1,v2,v3,v4,v5,v6,u7,u8,u9,u10]:=h5.store 6 v6
 have h7:Whole ((((((((w.setCell ⟨g,0,none⟩ v0).setCell ⟨g,1,none⟩ v1).setCell ⟨g,2,none⟩ v2).setCell ⟨g,3,none⟩ v3).setCell ⟨g,4,none⟩ v4).setCell ⟨g,5,none⟩ v5).setCell ⟨g,6,none⟩ v6).setCell ⟨g,7,none⟩ v7) g t #[v0,v1,v2,v3,v4,v5,v6,v7,u8,u9,u10]:=h6.store 7 v7
 have h8:Whole (((((((((w.setCell ⟨g,0,none⟩ v0).setCell ⟨g,1,none⟩ v1).setCell ⟨g,2,none⟩ v2).setCell ⟨g,3,none⟩ v3).setCell ⟨g,4,none⟩ v4).setCell ⟨g,5,none⟩ v5).setCell ⟨g,6,none⟩ v6).setCell ⟨g,7,none⟩ v7).setCell ⟨g,8,none⟩ v8) g t #[v0,v1,v2,v3,v4,v5,v6,v7,v8,u9,u10]:=h7.store 8 v8
 have h9:Whole ((((((((((w.setCell ⟨g,0,none⟩ v0).setCell ⟨g,1,none⟩ v1).setCell ⟨g,2,none⟩ v2).setCell ⟨g,3,none⟩ v3).setCell ⟨g,4,none⟩ v4).setCell ⟨g,5,none⟩ v5).setCell ⟨g,6,none⟩ v6).setCell ⟨g,7,none⟩ v7).setCell ⟨g,8,none⟩ v8).setCell ⟨g,9,none⟩ v9) g t #[v0,v1,v2,v3,v4,v5,v6,v7,v8,v9,u10]:=h8.store 9 v9
 have h10:Whole (((((((((((w.setCell ⟨g,0,none⟩ v0).setCell ⟨g,1,none⟩ v1).setCell ⟨g,2,none⟩ v2).setCell ⟨g,3,none⟩ v3).setCell ⟨g,4,none⟩ v4).setCell ⟨g,5,none⟩ v5).setCell ⟨g,6,none⟩ v6).setCell ⟨g,7,none⟩ v7).setCell ⟨g,8,none⟩ v8).setCell ⟨g,9,none⟩ v9).setCell ⟨g,10,none⟩ v10) g t #[v0,v1,v2,v3,v4,v5,v6,v7,v8,v9,v10]:=h9.store 10 v10
 exact h10
theorem vw (w:World) (g:Nat) (v0 v1 v2 v3 v4 v5 v6 v7 v8 v9 v10:Value):Tn (fun q=>q=g) w (((((((((((w.setCell ⟨g,0,none⟩ v0).setCell ⟨g,1,none⟩ v1).setCell ⟨g,2,none⟩ v2).setCell ⟨g,3,none⟩ v3).setCell ⟨g,4,none⟩ v4).setCell ⟨g,5,none⟩ v5).setCell ⟨g,6,none⟩ v6).setCell ⟨g,7,none⟩ v7).setCell ⟨g,8,none⟩ v8).setCell ⟨g,9,none⟩ v9).setCell ⟨g,10,none⟩ v10):=((((((((((((Tn.refl (fun q=>q=g) w).set (g:=g) (.inl rfl) 0 _).set (g:=g) (.inl rfl) 1 _).set (g:=g) (.inl rfl) 2 _).set (g:=g) (.inl rfl) 3 _).set (g:=g) (.inl rfl) 4 _).set (g:=g) (.inl rfl) 5 _).set (g:=g) (.inl rfl) 6 _).set (g:=g) (.inl rfl) 7 _).set (g:=g) (.inl rfl) 8 _).set (g:=g) (.inl rfl) 9 _).set (g:=g) (.inl rfl) 10 _)
theorem wJ {B:Nat} {w0 w:World} {g:Nat} (h:Below B w0 w) (hg:B≤g) (v0 v1 v2 v3 v4 v5 v6 v7 v8 v9 v10:Value):Below B w0 (((((((((((w.setCell ⟨g,0,none⟩ v0).setCell ⟨g,1,none⟩ v1).setCell ⟨g,2,none⟩ v2).setCell ⟨g,3,none⟩ v3).setCell ⟨g,4,none⟩ v4).setCell ⟨g,5,none⟩ v5).setCell ⟨g,6,none⟩ v6).setCell ⟨g,7,none⟩ v7).setCell ⟨g,8,none⟩ v8).setCell ⟨g,9,none⟩ v9).setCell ⟨g,10,none⟩ v10):=(((((((((((h.setCell hg _).setCell hg _).setCell hg _).setCell hg _).setCell hg _).setCell hg _).setCell hg _).setCell hg _).setCell hg _).setCell hg _).setCell hg _)
theorem pJ {w0 w:World} {g:Nat} {T:TypeId} {u0 u1 u2 u3 u4 u5 u6 u7 u8 u9 u10:Value} (h1:Whole w g T #[u0,u1,u2,u3,u4,u5,u6,u7,u8,u9,u10]) (h2:Below w0.heap.size w0 w) (hg:w0.heap.size≤g) (v0 v1 v2 v3 v4 v5 v6 v7 v8 v9 v10:Value):∃ wz:World,wz=(((((((((((w.setCell ⟨g,0,none⟩ v0).setCell ⟨g,1,none⟩ v1).setCell ⟨g,2,none⟩ v2).setCell ⟨g,3,none⟩ v3).setCell ⟨g,4,none⟩ v4).setCell ⟨g,5,none⟩ v5).setCell ⟨g,6,none⟩ v6).setCell ⟨g,7,none⟩ v7).setCell ⟨g,8,none⟩ v8).setCell ⟨g,9,none⟩ v9).setCell ⟨g,10,none⟩ v10)∧Whole wz g T #[v0,v1,v2,v3,v4,v5,v6,v7,v8,v9,v10]∧Below w0.heap.size w0 wz∧Tn (fun q=>q=g) w wz:=⟨_,rfl,vE h1 v0 v1 v2 v3 v4 v5 v6 v7 v8 v9 v10,wJ h2 hg v0 v1 v2 v3 v4 v5 v6 v7 v8 v9 v10,vw w g v0 v1 v2 v3 v4 v5 v6 v7 v8 v9 v10⟩
theorem afV {w0 w:World} {g:Nat} {T:TypeId} {u0 u1 u2 u3 u4 u5 u6 u7 u8 u9 u10:Value} (h1:Whole w g T #[u0,u1,u2,u3,u4,u5,u6,u7,u8,u9,u10]) (h2:Below w0.heap.size w0 w) (hg:w0.heap.size≤g) (v0 v1 v2 v3 v4 v5 v6 v7 v8 v9 v10:Value) (o:Obj):∃ wz:World,wz=(((((((((((w.setCell ⟨g,0,none⟩ v0).setCell ⟨g,1,none⟩ v1).setCell ⟨g,2,none⟩ v2).setCell ⟨g,3,none⟩ v3).setCell ⟨g,4,none⟩ v4).setCell ⟨g,5,none⟩ v5).setCell ⟨g,6,none⟩ v6).setCell ⟨g,7,none⟩ v7).setCell ⟨g,8,none⟩ v8).setCell ⟨g,9,none⟩ v9).setCell ⟨g,10,none⟩ v10).alloc o∧Whole wz g T #[v0,v1,v2,v3,v4,v5,v6,v7,v8,v9,v10]∧Below w0.heap.size w0 wz:=⟨_,rfl,(vE h1 v0 v1 v2 v3 v4 v5 v6 v7 v8 v9 v10).alloc o,(wJ h2 hg v0 v1 v2 v3 v4 v5 v6 v7 v8 v9 v10).alloc (wJ h2 hg v0 v1 v2 v3 v4 v5 v6 v7 v8 v9 v10).size o⟩
theorem abE {w:World} {g:Nat} {T:TypeId} {u0 u1 u2 u3 u4 u5 u6 u7 u8 u9 u10:Value} (h1:Whole w g T #[u0,u1,u2,u3,u4,u5,u6,u7,u8,u9,u10]) (v0 v1 v2 v3 v4 v5 v6 v7 v8 v9 v10:Value):∃ wz:World,wz=(((((((((((w.setCell ⟨g,0,none⟩ v0).setCell ⟨g,1,none⟩ v1).setCell ⟨g,2,none⟩ v2).setCell ⟨g,3,none⟩ v3).setCell ⟨g,4,none⟩ v4).setCell ⟨g,5,none⟩ v5).setCell ⟨g,6,none⟩ v6).setCell ⟨g,7,none⟩ v7).setCell ⟨g,8,none⟩ v8).setCell ⟨g,9,none⟩ v9).setCell ⟨g,10,none⟩ v10)∧Whole wz g T #[v0,v1,v2,v3,v4,v5,v6,v7,v8,v9,v10]∧Tn (fun q=>q=g) w wz:=⟨_,rfl,vE h1 v0 v1 v2 v3 v4 v5 v6 v7 v8 v9 v10,vw w g v0 v1 v2 v3 v4 v5 v6 v7 v8 v9 v10⟩
abbrev fU:av:=⟨0,0,0,0,0,0,0,false,[],[],[]⟩
abbrev zeroCells:Array Value:=#[.int .i64 0,.int .u64 0,.int .u64 0,.int .u64 0,.int .u64 0,.int .u64 0,.int .i64 0,.bool false,.slice none 0 0,.slice none 0 0,.slice none 0 0]
theorem oU (w:World) (p:av) (s:aT) :
  Below w.heap.size w ((w.alloc (.cells #[.int .i64 p.kind,.int .u64 (p.trace:Nat),.int .u64 (p.bn:Nat),.int .u64 (p.aZ:Nat),.int .u64 (p.sn:Nat),.int .u64 (p.bM:Nat),.int .i64 p.v,.bool p.ok,.slice s.a1 p.spans.length s.c1,.slice s.a2 p.members.length s.c2,.slice s.a3 p.ids.length s.c3] 41)).alloc (.cells #[.int .i64 0,.int .u64 0,.int .u64 0,.int .u64 0,.int .u64 0,.int .u64 0,.int .i64 0,.bool false,.slice none 0 0,.slice none 0 0,.slice none 0 0] 41)) ∧
  Whole ((w.alloc (.cells #[.int .i64 p.kind,.int .u64 (p.trace:Nat),.int .u64 (p.bn:Nat),.int .u64 (p.aZ:Nat),.int .u64 (p.sn:Nat),.int .u64 (p.bM:Nat),.int .i64 p.v,.bool p.ok,.slice s.a1 p.spans.length s.c1,.slice s.a2 p.members.length s.c2,.slice s.a3 p.ids.length s.c3] 41)).alloc (.cells #[.int .i64 0,.int .u64 0,.int .u64 0,.int .u64 0,.int .u64 0,.int .u64 0,.int .i64 0,.bool false,.slice none 0 0,.slice none 0 0,.slice none 0 0] 41)) w.heap.size 41 #[.int .i64 p.kind,.int .u64 (p.trace:Nat),.int .u64 (p.bn:Nat),.int .u64 (p.aZ:Nat),.int .u64 (p.sn:Nat),.int .u64 (p.bM:Nat),.int .i64 p.v,.bool p.ok,.slice s.a1 p.spans.length s.c1,.slice s.a2 p.members.length s.c2,.slice s.a3 p.ids.length s.c3] ∧
  Whole ((w.alloc (.cells #[.int .i64 p.kind,.int .u64 (p.trace:Nat),.int .u64 (p.bn:Nat),.int .u64 (p.aZ:Nat),.int .u64 (p.sn:Nat),.int .u64 (p.bM:Nat),.int .i64 p.v,.bool p.ok,.slice s.a1 p.spans.length s.c1,.slice s.a2 p.members.length s.c2,.slice s.a3 p.ids.length s.c3] 41)).alloc (.cells #[.int .i64 0,.int .u64 0,.int .u64 0,.int .u64 0,.int .u64 0,.int .u64 0,.int .i64 0,.bool false,.slice none 0 0,.slice none 0 0,.slice none 0 0] 41)) (w.heap.size+1) 41 #[.int .i64 0,.int .u64 0,.int .u64 0,.int .u64 0,.int .u64 0,.int .u64 0,.int .i64 0,.bool false,.slice none 0 0,.slice none 0 0,.slice none 0 0] ∧
  ((w.alloc (.cells #[.int .i64 p.kind,.int .u64 (p.trace:Nat),.int .u64 (p.bn:Nat),.int .u64 (p.aZ:Nat),.int .u64 (p.sn:Nat),.int .u64 (p.bM:Nat),.int .i64 p.v,.bool p.ok,.slice s.a1 p.spans.length s.c1,.slice s.a2 p.members.length s.c2,.slice s.a3 p.ids.length s.c3] 41)).alloc (.cells #[.int .i64 0,.int .u64 0,.int .u64 0,.int .u64 0,.int .u64 0,.int .u64 0,.int .i64 0,.bool false,.slice none 0 0,.slice none 0 0,.slice none 0 0] 41)).heap.size=w.heap.size+2:=by
 have h1:(w.alloc (.cells #[.int .i64 p.kind,.int .u64 (p.trace:Nat),.int .u64 (p.bn:Nat),.int .u64 (p.aZ:Nat),.int .u64 (p.sn:Nat),.int .u64 (p.bM:Nat),.int .i64 p.v,.bool p.ok,.slice s.a1 p.spans.length s.c1,.slice s.a2 p.members.length s.c2,.slice s.a3 p.ids.length s.c3] 41)).heap.size=w.heap.size+1:=by simp
 have a2:=aP (w.alloc (.cells #[.int .i64 p.kind,.int .u64 (p.trace:Nat),.int .u64 (p.bn:Nat),.int .u64 (p.aZ:Nat),.int .u64 (p.sn:Nat),.int .u64 (p.bM:Nat),.int .i64 p.v,.bool p.ok,.slice s.a1 p.spans.length s.c1,.slice s.a2 p.members.length s.c2,.slice s.a3 p.ids.length s.c3] 41)) 41 #[.int .i64 0,.int .u64 0,.int .u64 0,.int .u64 0,.int .u64 0,.int .u64 0,.int .i64 0,.bool false,.slice none 0 0,.slice none 0 0,.slice none 0 0]
 rw [h1] at a2
 exact ⟨((Below.refl w.heap.size w).alloc (Nat.le_refl _) _).alloc (by rw [h1];omega) _,(aP w 41 #[.int .i64 p.kind,.int .u64 (p.trace:Nat),.int .u64 (p.bn:Nat),.int .u64 (p.aZ:Nat),.int .u64 (p.sn:Nat),.int .u64 (p.bM:Nat),.int .i64 p.v,.bool p.ok,.slice s.a1 p.spans.length s.c1,.slice s.a2 p.members.length s.c2,.slice s.a3 p.ids.length s.c3]).alloc _,a2,by simp⟩
def gF (p:av):aY:=⟨p.bn,p.aZ⟩
def dD (R:List au) (p:av):aF:=iW (aA R p.trace) (gF p) p.v
def iC (R:List au) (p:av):Bool:=jB (aA R p.trace) (gF p) p.v
theorem abV {R:List au} {t:Nat} (h:aA R t≠bK):∃ o∈R,o.trace=t∧o.r=aA R t:=by
 induction R with
 | nil=>exact absurd rfl h
 | cons o l ih =>
   unfold aA at h ⊢
   by_cases e:o.trace=t
   ·rw [if_pos e]
    exact ⟨o,by simp,e,rfl⟩
   ·rw [if_neg e] at h ⊢
    obtain ⟨x,h1,h2⟩:=ih h
    exact ⟨x,by simp [h1],h2⟩
theorem af7 {R:List au} (h:∀ o∈R,o.Ok) {p:av} (hw:p.Wf) (k:dU p=true):au.Ok ⟨p.trace,dD R p⟩:=by
 obtain ⟨h1,h2,h3⟩:=ow k
 have hb:(gF p).pos≠0:=h2
 have b1:(gF p).pos<18446744073709551616:=hw.bn
 have b2:(gF p).id<18446744073709551616:=hw.aZ
 have key:∀ r:aF,(r=bK∨au.Ok ⟨p.trace,r⟩)→au.Ok ⟨p.trace,iW r (gF p) p.v⟩:=by
  intro r hr
  have hri:kg r=true:=by
   rcases hr with rfl | hr
   ·rfl
   ·exact hr.right
  have hlt:(r.p.pos<18446744073709551616∧r.p.id<18446744073709551616)∧r.t.pos<18446744073709551616∧r.t.id<18446744073709551616:=by
   rcases hr with rfl | hr
   ·exact ⟨⟨by decide,by decide⟩,by decide,by decide⟩
   ·exact ⟨⟨hr.p1,hr.p2⟩,hr.q1,hr.q2⟩
  have hz:r=bK→fE r (gF p)=false:=by
   rintro rfl
   refine (xJ _ _).2 ⟨hb,?_⟩
   unfold fF
   simp
  unfold iW
  by_cases hv:p.v=0
  ·rw [if_pos hv]
   have hright:=ai2 (b:=gF p) hri
   rcases hl:fE r (gF p) with _ | _
   ·rw [uP hl] at hright ⊢
    exact ⟨Nat.pos_of_ne_zero h1,hw.trace,b1,b2,hlt.2.1,hlt.2.2,hright,fun e=>hb (by injection e with e1 e2 e3;rw [e1])⟩
   ·rw [uO hl] at hright ⊢
    rcases hr with hr | hr
    ·rw [hz hr] at hl;cases hl
    ·exact hr
  ·rw [if_neg hv]
   have hright:=aeu (b:=gF p) (v:=p.v) hri
   have hv2:1≤p.v∧p.v≤3:=by
    rcases h3 with h3 | h3
    ·exact absurd h3.2 hv
    ·exact h3.2
   rcases hl:fu r (gF p) p.v with _ | _
   ·rw [tN hl] at hright ⊢
    rcases hr with hr | hr
    ·have:fu r (gF p) p.v=true:=(ad3 _ _ _).2 ⟨hz hr,hv2,fun e=>by rw [hr] at e;exact absurd (by rw [e]) hb⟩
     rw [this] at hl;cases hl
    ·exact hr
   ·rw [tO hl] at hright ⊢
    exact ⟨Nat.pos_of_ne_zero h1,hw.trace,b1,b2,b1,b2,hright,fun e=>hb (by injection e with e1 e2 e3;rw [e1])⟩
 refine key _ ?_
 by_cases e:aA R p.trace=bK
 ·exact .inl e
 ·obtain ⟨o,h1,h2,h3⟩:=abV e
  have:=h o h1
  right
  rw [← h2,← h3] at *
  exact this
def aei (B:Nat) (w0 W0:World) (X0 E0:Nat→Prop) (gr gl gd bm:Nat) (most:Int) (R:List au) (p:av) (N:Nat) (d:ak) (z:Int→Prop) (e:Ending) (w':World):Prop :=
 ∃ (k : Int) (q:av) (d':ak) (L':List FS),e = .returned (.tuple #[aM q noS,.int .i64 k])∧Rm d d' z k ∧
   ((k=0∧q=eZ (dD R p) p.trace (gF p) (iC R p) (decide (p.v≠0))∧dh B w0 W0 X0 E0 gr gl gd bm d' most L' (keepR R p.trace (dD R p)) false (N+2) w'∧RUp d' most L' (keepR R p.trace (dD R p)) (N+2)) ∨
    (k=9∧q=fU∧dh B w0 W0 X0 E0 gr gl gd bm d' most L' R false (N+2) w'∧RUp d' most L' R (N+2)) ∨
    (k=10∧q=fU∧dh B w0 W0 X0 E0 gr gl gd bm d' most L' R true (N+2) w'∧dH (dD R p) (aA R p.trace)=false∧∃ os1,(os1=[]∨os1=[⟨p.trace,dD R p⟩])∧lK d' most R os1 (N+2)))
abbrev vJ (W:World) (ga:Nat) (p:av):Prop:=W.cell? ⟨ga,0,none⟩=some (.int .u64 (p.trace:Nat))∧W.cell? ⟨ga,1,none⟩=some (.int .u64 (p.bn:Nat))∧W.cell? ⟨ga,2,none⟩=some (.int .u64 (p.aZ:Nat))∧W.cell? ⟨ga,3,none⟩=some (.int .i64 p.v)
theorem tT {W:World} {ga:Nat} {p:av} (h:Whole W ga 92 #[.int .u64 (p.trace:Nat),.int .u64 (p.bn:Nat),.int .u64 (p.aZ:Nat),.int .i64 p.v]):vJ W ga p:=⟨h.cell 0 _ rfl,h.cell 1 _ rfl,h.cell 2 _ rfl,h.cell 3 _ rfl⟩
abbrev aaj (W:World) (bm:Nat) (p:av) (r:aF):Prop:=(Instr.lookup 82 (.map (some bm)) (.int .u64 (p.trace:Nat)) false).run Tryz.prog W = .ok (aK r) W
abbrev aaf (w1:World) (gr bm ga:Nat) (p:av) (r:aF) (W:World):Prop:=Below w1.heap.size w1 W∧W.cell? ⟨gr,2,none⟩=some (.map (some bm))∧vJ W ga p∧aaj W bm p r
structure aae (w1:World) (gr bm ga:Nat) (p:av) (r:aF):Prop where
 gr:w1.cell? ⟨gr,2,none⟩=some (.map (some bm))
 ask:Whole w1 ga 92 #[.int .u64 (p.trace:Nat),.int .u64 (p.bn:Nat),.int .u64 (p.aZ:Nat),.int .i64 p.v]
 look:∀ W,Below w1.heap.size w1 W→aaj W bm p r
theorem oJ {w1 W:World} {gr bm ga:Nat} {p:av} {r:aF} (k:aae w1 gr bm ga p r) (hb:Below w1.heap.size w1 W):aaf w1 gr bm ga p r W :=
 ⟨hb,by rw [hb.cell (lt_of_cell k.gr)];exact k.gr,tT (k.ask.below hb k.ask.lt),k.look W hb⟩
abbrev tq (w1:World) (gq gx:Nat) (x:aF) (ga:Nat) (p:av) (W:World):Prop:=R5 W gx x∧vJ W ga p
structure vL (w1:World) (gq gx:Nat) (x:aF) (ga:Nat) (p:av):Prop where
 reg:Whole w1 gx 54 (aQ x)
 ask:Whole w1 ga 92 #[.int .u64 (p.trace:Nat),.int .u64 (p.bn:Nat),.int .u64 (p.aZ:Nat),.int .i64 p.v]
 zero:Whole w1 gq 41 zeroCells
 nx:gx≠gq
 na:ga≠gq
theorem xg {w1 W:World} {gq gx ga:Nat} {x:aF} {p:av} (k:vL w1 gq gx x ga p) (hb:Below w1.heap.size w1 W):tq w1 gq gx x ga p W :=
 ⟨jE (k.reg.below hb k.reg.lt),tT (k.ask.below hb k.ask.lt)⟩
theorem afR {w1 W W':World} {gq gx ga:Nat} {x:aF} {p:av} (k:vL w1 gq gx x ga p) (hb:Below w1.heap.size w1 W) (t:Tn (fun q=>q=gq) W W'):tq w1 gq gx x ga p W' :=
 ⟨jE ((k.reg.below hb k.reg.lt).tn t k.nx),tT ((k.ask.below hb k.ask.lt).tn t k.na)⟩
abbrev wm (q:av):Value := .agg #[.int .i64 q.kind,.int .u64 (q.trace:Nat),.int .u64 (q.bn:Nat),.int .u64 (q.aZ:Nat),.int .u64 (q.sn:Nat),.int .u64 (q.bM:Nat),.int .i64 q.v,.bool q.ok,.slice none 0 0,.slice none 0 0,.slice none 0 0]
abbrev aaR (q:av):Array Value:=#[.int .i64 q.kind,.int .u64 (q.trace:Nat),.int .u64 (q.bn:Nat),.int .u64 (q.aZ:Nat),.int .u64 (q.sn:Nat),.int .u64 (q.bM:Nat),.int .i64 q.v,.bool q.ok,.slice none 0 0,.slice none 0 0,.slice none 0 0]
def aac (w1:World) (gq:Nat) (q:av) (v:Value) (W:World):Prop:=v = .int .i64 0∧Whole W gq 41 (aaR q)∧∃ w5,Below w1.heap.size w1 w5∧Tn (fun q=>q=gq) w5 W
theorem afF {w1 w5 W:World} {gq:Nat} {q:av} (h1:Whole W gq 41 (aaR q)) (h2:Below w1.heap.size w1 w5) (h3:Tn (fun q=>q=gq) w5 W):aac w1 gq q (.int .i64 0) W:=⟨rfl,h1,w5,h2,h3⟩
section
variable {B:Nat} {w0 w w':World} {gr gl gd bm:Nat} {X F E:Nat→Prop} {d d':ak} {most:Int} {L L':List FS} {R R':List au} {dn dn':Bool} {N N':Nat}
theorem bO.grown (h:bO B w0 w gr gl gd bm X F E d most L R dn N) (k:Below w.heap.size w w'):bO B w0 w' gr gl gd bm (dQ X w w') F E d most L R dn N:=by
 have h1:=h.later k
 obtain ⟨Qd,Pl,P,g,Af,cf,hl,hf⟩:=h.lg.lg
 have hl2:=hl.grow (X2:=dQ X w w') k (fun q hq => .inl hq) (fun q hq=>hq)
 refine ⟨⟨⟨Qd,Pl,P,g,Af,cf,hl2,hf⟩,h1.lg.below,h1.lg.own,h1.lg.base,h1.lg.flt⟩,h1.whole,h1.map,h.fe,h.fr,h.fm,h.er,h.em,.inl h.xr,.inl h.xm,h1.elt,h.own,fun q hq=>?_,h.ne⟩
 rcases hq with hq | hq
 ·exact h.ox q hq
 ·have:=h.size;omega
theorem bO.aside {Q:Nat→Prop} (h:bO B w0 w gr gl gd bm X F E d most L R dn N) (t:Tn Q w w') (h1:∀ q,Q q→X q) (h2:∀ q,Q q→¬ E q) (h3:∀ q,Q q→B≤q):bO B w0 w' gr gl gd bm (dQ X w w') F E d most L R dn N:=by
 obtain ⟨n,D,hn,hm⟩:=h.map
 have hs:=t.size
 refine ⟨h.lg.beside t h1 (fun q hq hf=>h2 q hq (h.fe q hf)) h3,h.whole.tn t (fun hq=>h2 _ hq h.er),⟨n,D,hn,hm.stands (t.block bm hm.lt (fun hq=>h2 _ hq h.em))⟩,h.fe,h.fr,h.fm,h.er,h.em,.inl h.xr,.inl h.xm,fun q hq=>Nat.lt_of_lt_of_le (h.elt q hq) hs,h.own,fun q hq=>?_,h.ne⟩
 rcases hq with hq | hq
 ·exact h.ox q hq
 ·have:=h.size;omega
theorem aj2 {w3 w4 w5 w6:World} {gq:Nat} (hS:dh B w0 w3 (dQ X w w3) E gr gl gd bm d' most L' R' dn' N' w4) (hb5:Below w4.heap.size w4 w5) (t:Tn (fun q=>q=gq) w5 w6) (hbw:Below w.heap.size w w3) (g1:w.heap.size≤gq) (g2:gq<w3.heap.size) (hE:∀ q,E q→q<w.heap.size) (hB:B≤w.heap.size) :
  dh B w0 w X E gr gl gd bm d' most L' R' dn' N' w6:=by
 obtain ⟨X4,F4,E4,r1,r2,r3,r4,r5,r6⟩:=hS
 have s3:=hbw.size
 have s4:=r2.size
 have s5:=hb5.size
 have s6:=t.size
 have hx:dQ X w w3 gq := .inr ⟨g1,g2⟩
 have hne:¬ E4 gq:=fun hq=>by
  rcases r3 gq hq with h1 | h1
  ·have:=hE _ h1;omega
  ·omega
 have k1:=(r1.later hb5).aside t (fun q hq=>by rw [hq];exact r4 _ hx) (fun q hq=>by rw [hq];exact hne) (fun q hq=>by rw [hq];omega)
 refine ⟨_,F4,E4,k1,?_,fun q hq=>?_,fun q hq => .inl (r4 q (.inl hq)),fun q hq=>?_,r6⟩
 ·have t1:Tn E w w4:=(Tn.of_below hbw).trans r2 (fun q hq => .inl hq)
  have t2:Tn E w w5:=t1.iQ hb5
  refine t2.trans t (fun q hq => .inr ?_)
  rw [hq];exact g1
 ·rcases r3 q hq with h1 | h1
  ·exact .inl h1
  ·right;omega
 ·rcases hq with h1 | h1
  ·rcases r5 q h1 with h2 | h2
   ·rcases h2 with h2 | h2
    ·exact .inl h2
    ·right;omega
   ·right;omega
  ·right;omega
end
end Rp
end Go.Proofs.YtpcmlopbkehffaaGreat
