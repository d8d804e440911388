/-
  frame.All: what it answers, and where the frames lie.
-/
import Derived.Test.YtpcmlopbkehffaaGreatOGAF
import Derived.Test.YtpcmlopbkehffaaGreatOGAJ
set_option linter.unusedSimpArgs false
set_option linter.unusedVariables false
namespace Go.Proofs.YtpcmlopbkehffaaGreat
open Go.RowKit Crc Fm Dsk
namespace Wl
def iT (B:Nat) (w:World) (A:Option Addr) (n c:Nat) (ls:List (List UInt8)):Prop :=
 ∃ vs,w.ownsRow B 109 1 (.slice A n c) n vs∧dX w (Value.slice A n c).ownBlock vs ls∧∀ i (h:i<ls.length) A' n' c',vs[i]? = some (.slice A' n' c')→∀ a,A'=some a→ls[i]≠[]→B≤a.block
theorem iT.none (B:Nat) (w:World):iT B w .none 0 0 []:=⟨[],World.ownsRow_nil w B _ _,dX.nil _ _,fun i h=>absurd h (Nat.not_lt_zero i)⟩
theorem iT.ownS {B:Nat} {w:World} {A:Option Addr} {n c:Nat} {ls:List (List UInt8)} (h:iT B w A n c ls):gU B w A n c ls:=by
 obtain ⟨vs,h1,h2,_⟩:=h
 exact ⟨vs,h1,h2⟩
theorem iT.from_ {B:Nat} {w:World} {A:Option Addr} {n c:Nat} {ls:List (List UInt8)} (h:iT B w A n c ls):∀ k,(Value.slice A n c).ownBlock=some k→B≤k∧k<w.heap.size:=h.ownS.from_
theorem iT.later {B:Nat} {w w':World} {A:Option Addr} {n c:Nat} {ls:List (List UInt8)} (h:iT B w A n c ls) (hb:Below w.heap.size w w'):iT B w' A n c ls:=by
 obtain ⟨vs,h1,h2,h3⟩:=h
 refine ⟨vs,?_,h2.below hb,h3⟩
 obtain ⟨hx,h | ⟨g,cap,cur,e',hg,hh,r⟩⟩:=h1
 ·exact ⟨hx,.inl h⟩
 ·refine ⟨hx,.inr ⟨g,cap,cur,e',hg,?_,r⟩⟩
  have hlt:g<w.heap.size:=(Array.getElem?_eq_some_iff.1 hh).1
  rw [← hh]
  exact hb.block g hlt
theorem ame {w:World} {ops:Array Oper} {rest:List Oper} {o:Oper} {a:Act} {Q:Exit→Act→World→Prop} (hgd:Region.wanted o (yielded ops a.tmps)=true) (s x:Operand)
  (ho:o.op = .call {callee := .builtin .append,args:=#[s,x],argTypes:=#[85,85] })
  (B:Nat) (A0:Option Addr) (n0 c0:Nat) (l0:List (List UInt8)) (hs:a.eval s = .slice A0 n0 c0) (hown:iT B w A0 n0 c0 l0)
  (b:Nat) (A3:Option Addr) (n3 c3:Nat) (r:List UInt8) (hx:a.eval x = .slice (some ⟨b,0,.none⟩) 1 1) (hb:w.cell? ⟨b,0,.none⟩=some (.slice A3 n3 c3)) (hsl:Sl w A3 n3 c3 r) (haw:jM A3 r (Value.slice A0 n0 c0).ownBlock) (hfr:∀ a,A3=some a→r≠[]→B≤a.block)
  (N:Nat) (hN:n0+1=N) (hroom:N≤5864062014805) (hB:B≤w.heap.size)
  (h:∀ A' c' w',iT B w' A' N c' (l0++[r])→Below B w w'→w.grownBy w' (Value.slice A0 n0 c0).ownBlock→wpList Tryz.prog ops Q rest (a.put o.dst (.slice A' N c')) w') :
  wpList Tryz.prog ops Q (o::rest) a w:=by
 obtain ⟨i0,hi0,hz0,hz1,hz2⟩:=info_parts ab1
 obtain ⟨vs,hov,hev,hfv⟩:=hown
 refine sV w hgd s x 85 ho B 109 i0 _ 1 24 Tryz.underlying85 hi0 hz0 hz1 hz2 rfl (by omega) (.slice A0 n0 c0) n0 vs hs hov (some ⟨b,0,.none⟩) 1 1 [.slice A3 n3 c3] hx
  rfl (fun _=>⟨b,0,rfl,fun k u hu=>by
   rcases k with _ | k
   ·cases hu;exact hb
   ·simp at hu⟩) (fun e=>by cases e) (fun u hu=>by rw [List.mem_singleton.1 hu];rfl) N (vs++[.slice A3 n3 c3]) hN rfl (by unfold maxLen;omega) (by omega) hB ?_
 intro A' c' w' ho' hg hat
 refine h A' c' w' ⟨vs++[.slice A3 n3 c3],ho',?_,?_⟩ ((Below.refl B w).grown hg hB (jY hov)) hg
 ·refine (hev.append (dX.one hsl haw)).grown hg ?_
  rcases hat with e | e
  ·exact .inl e
  ·exact .inr fun k hk=>by rw [e] at hk;cases hk;exact Nat.le_refl _
 ·intro i hi A5 n5 c5 e
  by_cases hl:i<l0.length
  ·rw [List.getElem?_append_left (by rw [hev.1];exact hl)] at e
   rw [List.getElem_append_left hl]
   exact hfv i hl A5 n5 c5 e
  ·have hi0:i=l0.length:=by rw [List.length_append,List.length_singleton] at hi;omega
   subst hi0
   rw [List.getElem?_append_right (by rw [hev.1];exact Nat.le_refl _),hev.1,Nat.sub_self] at e
   injection e with e
   injection e with e1 e2 e3
   subst e1
   intro a ha hne
   exact hfr a ha (by simpa using hne)
def zY (w:World) (l:List UInt8) (e:Ending) (w':World):Prop :=
 ∃ A n c,e = .returned (.tuple #[.slice A n c,.int .i64 ((bD l).2.1:Nat),.int .i64 (bD l).2.2])∧n=(bD l).1.length∧iT w.heap.size w' A n c (bD l).1∧Below w.heap.size w w'
theorem aaL {w w':World} {l:List UInt8} {ms:List (List UInt8)} {u:Nat} {k:Int} {A:Option Addr} {c:Nat} (h:bD l=(ms,u,k)) (hs:iT w.heap.size w' A ms.length c ms) (hb:Below w.heap.size w w') :
  zY w l (.returned (.tuple #[.slice A ms.length c,.int .i64 (u:Nat),.int .i64 k])) w':=⟨A,ms.length,c,by rw [h],by rw [h],by rw [h];exact hs,hb⟩
set_option maxHeartbeats 1000000 in
theorem aeA (A:Option Addr) (n c:Nat) (l:List UInt8) (w:World) (hs:Sl w A n c l) (hn:n≤5864062014800) :
  Calls Tryz.prog 143 #[.slice A n c] w (zY w l):=by
 have Hs:=aj hs
 have Hlen:=aj hs.len
 have hcap:=hs.cap
 have hmax:=hs.max
 clear hs
 go_enter Tryz.func143,Tryz.ntmps143
 go_wp2
 go_loopw [2,3,5,6,7] (fun s ui _ _ _ wr=>∃ u A' c' ms,ui = .int .i64 (u:Nat)∧s = .slice A' (ms:List (List UInt8)).length c'∧iT w.heap.size wr A' ms.length c' ms∧nD l ms u∧Below w.heap.size w wr) (fun _ ui _ _ _ _=>n-(intOf ui).toNat)
 case atStart=>exact ⟨0,none,0,[],rfl,rfl,iT.none _ _,aaI l,Below.refl _ _⟩
 case round =>
  obtain ⟨u,A',c',ms,rfl,rfl,ho,hat,hb⟩:=hrel
  have hun:u≤n:=by have:=hat.1;have:=Hlen.out;omega
  have Ho:=aj ho
  have Hat:=aj hat
  have Hb:=aj hb
  clear ho hat hb
  by_cases hlt:u<n
  ·have hcu:¬ c=u:=by omega
   have hfr:=(Hs.out.below Hb.out).from_ u hun
   rw [uf hcu] at hfr
   have Hp:=aj (pY _ _ _ _ wr hfr)
   have Hle:=aj (abn (l.drop u))
   have Hdl:=aj hfr.len
   have Hmp:=aj (aaF Hat.out)
   clear hfr
   by_cases hk:(aN (l.drop u)).1=0
   ·have Hst:=aj (aaG Hat.out (by rw [Hlen.out];exact hlt) hk)
    go_wp2_with fail
    refine Hp.out.mono ?_
    rintro e w1 ⟨A1,n1,c1,A2,n2,c2,rfl,hs1,hs2,hb1⟩
    rw [hk]
    have Hk:=aj hk
    have Hcl:=aj (tZ A1 n1 c1 _ w1 hs1 (by have:=hs1.len;have:=Hle.out.1;have:=Hdl.out;omega))
    have Ho1:=aj (Ho.out.later hb1)
    have Hb1:=aj (Below.trans Hb.out (hb1.mono Hb.out.size))
    have Hn2:=aj (show (aN (l.drop u)).2.2.length=n2 from hs2.len)
    have hn2:n2≤n:=by have:=hs2.len;have:=Hle.out.2;have:=Hdl.out;omega
    clear hs1 hs2 hb1 hk
    go_wp2_with (first
     | (go_at_call 60;(with_reducible refine Calls.mono Hcl.out ?_);rintro e w2 ⟨A3,c3,rfl,ho',hb'⟩;have Ho3:=aj ho';have Ho2:=aj (Ho1.out.later hb');have Hb2:=aj (Hb1.out.trans (hb'.mono Hb1.out.size));have Hsz:=aj (fun k hk=>Nat.lt_of_lt_of_le (Ho1.out.from_ k hk).2 (Nat.le_refl _));clear ho' hb')
     | (at_builtin;refine ame rfl (.tmp 25) (.tmp 28) rfl w.heap.size A' ms.length c' ms rfl (Ho2.out.later ((Below.refl _ _).alloc (Nat.le_refl _) _)) w2.heap.size A3 n1 c3 (aN (l.drop u)).2.1 rfl (at_new _ _ _) (Ho3.out.sl.below ((Below.refl _ _).alloc (Nat.le_refl _) _)) (Ho3.out.away _ Hsz.out) (fun a e _=>Nat.le_trans Hb1.out.size (World.ownsRow.lt Ho3.out a.block (by rw [fT,e];rfl)).1) (ms.length+1) rfl (by have:=Hmp.out;have:=Hlen.out;omega) (by have:=Hb2.out.size;simp;omega) ?_;intro A4 c4 w4 ho' hb' hg';have Ho4:=aj ho';have Hb4:=aj ((Hb2.out.alloc Hb2.out.size _).trans hb');clear ho' hb' hg'))
    go_roundw
    case rel =>
     refine ⟨n-n2,A4,c4,ms++[(aN (l.drop u)).2.1],?_,?_,?_,?_,Hb4.out⟩
     ·exact xG (by omega)
     ·rw [List.length_append];rfl
     ·rw [List.length_append];exact Ho4.out
     ·have h:=Hst.out.2.2
      rw [Hn2.out,Hlen.out] at h
      exact h
    case measure =>
     have h:=Hst.out.1
     rw [Hn2.out,Hlen.out] at h
     simp [intOf]
     omega
   ·have Hst:=aj (aaH Hat.out (by rw [Hlen.out];exact hlt) hk)
    generalize hK:(aN (l.drop u)).1=K at hk Hst
    have HK:=aj hK
    have hkb:(K != 0)=true:=by rw [bne_iff_ne];exact hk
    clear hK hk
    go_wp2_with fail
    refine Hp.out.mono ?_
    rintro e w1 ⟨A1,n1,c1,A2,n2,c2,rfl,hs1,hs2,hb1⟩
    rw [HK.out]
    have Ho1:=aj (Ho.out.later hb1)
    have Hb1:=aj (Below.trans Hb.out (hb1.mono Hb.out.size))
    clear hs1 hs2 hb1
    go_wp2_with fail
    go_ret3
    exact aaL Hst.out Ho1.out Hb1.out
  ·have Hu:=aj (show u=n by omega)
   have Hend:=aj (aaE Hat.out (by rw [Hlen.out];omega))
   go_wp2
   go_ret3
   exact aaL Hend.out Ho.out Hb.out
end Wl
end Go.Proofs.YtpcmlopbkehffaaGreat
namespace Go.Proofs.YtpcmlopbkehffaaGreat
open Go.RowKit Fm Dsk
namespace Wl
theorem aiy {B:Nat} {w:World} {A:Option Addr} {n c:Nat} {l:List UInt8} (h:Own B w A n c l) {m:Nat} (hm:m≤n):Own B w A m c (l.take m):=by
 have hl:=h.sl.len
 obtain ⟨hx,⟨e,e2⟩ | ⟨g,cap,cur,e,hg,hh,hnc,hcm,hs,hc⟩⟩:=h
 ·injection e with e1 e3 e4
  subst e1
  have hm0:m=0:=by omega
  subst hm0
  subst e4
  rw [List.take_zero]
  exact Own.none B w
 ·injection e with e1 e3 e4
  subst e1 e4
  refine ⟨by rw [lS,List.length_take];omega,.inr ⟨g,c,cur,rfl,hg,hh,by omega,hcm,hs,?_⟩⟩
  rw [← aa3,← hc,List.take_take,Nat.mul_one,Nat.mul_one,Nat.min_eq_left hm]
def bS (c:List UInt8):Nat:=(bD c).2.1
theorem aex:∀ (k:Nat) (l:List UInt8),(fI k l).2.1≤l.length∧((fI k l).1=[]→(fI k l).2.1=0):=by
 intro k
 induction k with
 | zero=>intro l;simp [fI]
 | succ k ih =>
   intro l
   by_cases h0:l=[]
   ·subst h0;simp [fI]
   ·by_cases hk:(aN l).1=0
    ·have h1:=pE hk
     have h2:=(ih (aN l).2.2).1
     unfold fI
     simp [h0,hk]
     omega
    ·unfold fI
     simp [h0,hk]
theorem al7 (c:List UInt8):bS c≤c.length:=(aex c.length c).1
def bF (num:Nat) (c:List UInt8):FS:=match (bD c).1 with
 | []=>⟨num,0,[],c.take (bS c),c.length-bS c⟩
 | h::t=>⟨num,numOf h,t,c.take (bS c),c.length-bS c⟩
def oh (c:List UInt8):Prop:=∀ h t,(bD c).1=h::t→h.length=8∧numOf h<9223372036854775808
structure Ld (w w':World) (g:Nat) (X P:Nat→Prop) (f':FS) (X' P':Nat→Prop):Prop where
 fs:dO w' X' P' g f'
 tn:Tn P w w'
 p : ∀ q,P' q→P q∨w.heap.size≤q
 x : ∀ q,X' q→X q∨w.heap.size≤q
 xx:∀ q,X q→X' q
 xlt:∀ q,X' q→q<w'.heap.size
def vM (w:World) (g:Nat) (X P:Nat→Prop) (f':FS) (e:Ending) (w':World):Prop:=e = .returned (.int .i64 0)∧∃ X' P',Ld w w' g X P f' X' P'
theorem ajv {w2 w3:World} {B:Nat} {A:Option Addr} {n c:Nat} {ls:List (List UInt8)} (h:iT B w2 A n c ls) (X:Nat→Prop) (Q:Nat→Prop) (k:Tn Q w2 w3) (hq:∀ q,Q q→q<B) (hx:∀ q,X q→q<B∨(Value.slice A n c).ownBlock=some q) :
  ∃ vs,bC 109 w3 A n c vs∧vs.length=ls.length∧∀ i (h:i<ls.length),∃ A' n' c',vs[i]? = some (.slice A' n' c')∧SlN X w3 A' n' c' ls[i]:=by
 have hfr:=h.from_
 obtain ⟨vs,h1,h2,h3⟩:=h
 have hone:=h2.one_cell
 have hR:=bC.uL h1 hone
 refine ⟨vs,hR.stands (fun b hb=>k.block b (hR.dB b hb) (fun hb2=>?_)),h2.1,fun i hi=>?_⟩
 ·have:=hq b hb2
  have:=(hfr b (by rw [fT];exact hb)).1
  omega
 ·obtain ⟨A',n',c',e,h4,h5⟩:=h2.2 i hi
  have h6:=h3 i hi A' n' c' e
  refine ⟨A',n',c',e,h4.tn k (fun a ea hne hq2=>?_),fun a ea hne hx2=>?_⟩
  ·have:=hq _ hq2
   have:=h6 a ea hne
   omega
  ·rcases hx _ hx2 with h7 | h7
   ·have:=h6 a ea hne;omega
   ·exact h5 hne a ea h7
theorem xL {w w1 w2 w3:World} {X P:Nat→Prop} {g:Nat} {f0 f':FS} {c:List UInt8} {A1 Ar:Option Addr} {c1 cr:Nat} (h:dO w X P g f0) (xlt:∀ q,X q→q<w.heap.size) (b1:Below w.heap.size w w1) (o1:Own w.heap.size w1 A1 c.length c1 c) (b2:Below w1.heap.size w1 w2) (t3:Tn (fun q=>q=g) w2 w3)
  (W3:Whole w3 g 134 (cellsS f' Ar cr A1 c1)) {m:Nat} (hm:m≤c.length) (ha:f'.all=c.take m) (hr:∀ X':Nat→Prop,(∀ q,X' q→q<w1.heap.size∨aB Ar=some q)→dY w3 X' Ar f'.recs.length cr f'.recs) (hAr:∀ k,aB Ar=some k→w1.heap.size≤k∧k<w3.heap.size) :
  ∃ X' P',Ld w w3 g X P f' X' P':=by
 have hlt1:∀ k,aB A1=some k→w.heap.size≤k∧k<w1.heap.size:=fun k hk=>World.ownsRow.lt o1 k (by rw [fT];exact hk)
 have hs1:=b1.size
 have hs2:=b2.size
 have hs3:=t3.size
 have hg:=h.plt g h.pg
 have T:Tn P w w3:=((Tn.of_below b1).iQ b2).trans t3 (fun q hq=>by rw [hq];exact .inl h.pg)
 have O3:Own 0 w3 A1 m c1 (c.take m):=by
  have h1:=((aiy o1 hm).mono (Nat.zero_le _)).later b2
  exact h1.stands (fun k hk=>t3.block k (h1.dB k hk) (fun e=>by have:=(hlt1 k hk).1;omega))
 have hml:f'.all.length=m:=by rw [ha,List.length_take];omega
 refine ⟨(fun q=>X q∨aB A1=some q∨aB Ar=some q),(fun q=>P q∨aB A1=some q∨aB Ar=some q),⟨.inl h.pg,?_,?_,Ar,cr,A1,c1,W3,hr _ ?_,by rw [hml,ha];exact O3,fun k hk => .inr (.inr hk),fun k hk => .inr (.inl hk)⟩,T,?_,?_,fun q hq => .inl hq,?_⟩
 ·rintro q (hq | hq | hq)
  ·have:=h.plt q hq;omega
  ·have:=hlt1 q hq;omega
  ·exact (hAr q hq).2
 ·rintro q (hq | hq | hq)
  ·exact .inl (h.px q hq)
  ·exact .inr (.inl hq)
  ·exact .inr (.inr hq)
 ·rintro q (hq | hq | hq)
  ·left;have:=xlt q hq;omega
  ·exact .inl (hlt1 q hq).2
  ·exact .inr hq
 ·rintro q (hq | hq | hq)
  ·exact .inl hq
  ·exact .inr (hlt1 q hq).1
  ·right;have:=(hAr q hq).1;omega
 ·rintro q (hq | hq | hq)
  ·exact .inl hq
  ·exact .inr (hlt1 q hq).1
  ·right;have:=(hAr q hq).1;omega
 ·rintro q (hq | hq | hq)
  ·have:=xlt q hq;omega
  ·have:=hlt1 q hq;omega
  ·exact (hAr q hq).2
theorem xK {w w':World} {g:Nat} {X P:Nat→Prop} {f f':FS} (hf:f=f') (h:∃ X' P',Ld w w' g X P f X' P'):vM w g X P f' (.returned (.int .i64 0)) w':=by
 subst hf
 exact ⟨rfl,h⟩
set_option maxRecDepth 20000 in
set_option maxHeartbeats 8000000 in
theorem ach (X P:Nat→Prop) (g gd:Nat) (Qd:Nat→Prop) (d:ak) (num:Nat) (c:List UInt8) (ff:Nat) (w:World) (h:dO w X P g ⟨num,0,[],[],0⟩) (hw:Whole w g 134 #[.int .i64 (num:Nat),.int .u64 0,.slice none 0 0,.slice none 0 0,.int .i64 0]) (hd:Dk w gd Qd d) (hup:d.down=false) (hf:d.F num=some ⟨c,ff⟩) (hn:num<64) (hc:c.length≤1048576) (ho:oh c) (hxl:∀ q,X q→q<w.heap.size) :
  Calls Tryz.prog 121 #[.pointer (some ⟨g,0,none⟩),.pointer (some ⟨gd,0,none⟩)] w (vM w g X P (bF num c)):=by
 have hk0:bE d (num:Nat)=0:=by
  unfold bE
  rw [hup]
  simp only [Bool.false_eq_true,if_false]
  rw [if_pos ⟨by omega,by rw [show ((num:Nat):Int).toNat=num by omega,hf];rfl⟩]
 have hrb:kV d (num:Nat)=c:=by
  unfold kV
  rw [if_pos hk0,show ((num:Nat):Int).toNat=num by omega,gG hf]
 have HRd:=aj (yY (num:Nat) (by omega) (by omega) gd Qd d w hd)
 rw [hk0,hrb] at HRd
 unfold qH at HRd
 have HF:=aj h
 have HO:=aj ho
 have HC:=aj hc
 have HXl:=aj hxl
 have HWh:=aj (al7 c)
 have HW:=aj hw
 have b0:w.cell? ⟨g,0,none⟩=some (.int .i64 (num:Nat)):=hw.cell 0 _ rfl
 have HGlt:=aj hw.lt
 clear h hd hup hf hn hc ho hxl hw hk0 hrb
 go_enter Tryz.func121,Tryz.ntmps121
 go_wp2_with fail
 (with_reducible refine Calls.mono HRd.out ?_)
 rintro e w1 ⟨A1,c1,rfl,ho1,hb1⟩
 have HB1:=aj hb1
 have HO1:=aj ho1
 have HAl:=aj (aeA A1 c.length c1 c w1 ho1.sl (by have:=HC.out;omega))
 have hcp:=ho1.sl.cap
 have hmx:=ho1.sl.max
 clear ho1 hb1 b0
 go_wp2_with fail
 (with_reducible refine Calls.mono HAl.out ?_)
 rintro e w2 ⟨A2,n2,c2,rfl,hn2,ho2,hb2⟩
 have HB2:=aj hb2
 have HO2:=aj ho2
 have HN2:=aj hn2
 have HW2:=aj ((HW.out.below HB1.out HW.out.lt).below hb2 (HW.out.below HB1.out HW.out.lt).lt)
 have k1:(0:Int)≤(bS c:Int):=by omega
 have k2:(bS c:Int)≤(c1:Int):=by have:=HWh.out;omega
 have k3:IntKind.i64.wrap ((c.length:Int)-(bS c:Int))=((c.length-bS c:Nat):Int):=by
  have:=HWh.out
  rw [IntWalk.i64_in _ (by have:=HC.out;omega)]
  omega
 have z3:w2.cell? ⟨g,3,none⟩=some (.slice none 0 0):=HW2.out.cell 3 _ rfl
 have z4:w2.cell? ⟨g,4,none⟩=some (.int .i64 0):=HW2.out.cell 4 _ rfl
 have y3:=HW2.out.free 3
 have y4:=HW2.out.free 4
 rw [show (bD c).2.1=bS c from rfl]
 generalize hfr:(bD c).1=fr at *
 clear hb2 ho2 hn2
 have TS:=aj (fun (v3 v4:Value)=>show Tn (fun q=>q=g) w2 ((w2.setCell ⟨g,3,none⟩ v3).setCell ⟨g,4,none⟩ v4) from ((Tn.refl (fun q=>q=g) w2).set (g:=g) (.inl rfl) 3 v3).set (.inl rfl) 4 v4)
 rcases fr with _ | ⟨hdr,tl⟩
 ·have hn0:n2=0:=HN2.out
  subst hn0
  have HL:=aj (show bF num c=⟨num,0,[],c.take (bS c),c.length-bS c⟩ by unfold bF;rw [hfr])
  clear hfr
  go_wp2_with fail
  go_ret
  refine xK HL.out.symm (xL (f':=⟨num,0,[],c.take (bS c),c.length-bS c⟩) (Ar:=none) (cr:=0) HF.out HXl.out HB1.out HO1.out HB2.out (TS.out _ _) ?_ HWh.out rfl (fun X' _=>dY.none _ _) (fun k hk=>by cases hk))
  have h1:=(HW2.out.store 3 (.slice A1 (bS c) c1)).store 4 (.int .i64 ((c.length-bS c:Nat):Int))
  have e:(((#[.int .i64 (num:Nat),.int .u64 0,.slice none 0 0,.slice none 0 0,.int .i64 0]:Array Value).setIfInBounds 3 (.slice A1 (bS c) c1)).setIfInBounds 4 (.int .i64 ((c.length-bS c:Nat):Int)))=cellsS ⟨num,0,[],c.take (bS c),c.length-bS c⟩ none 0 A1 c1:=by
   unfold cellsS
   have:=HWh.out
   simp [List.length_take,Nat.min_eq_left this]
  rw [e] at h1
  exact h1
 ·have hn0:n2=tl.length+1:=HN2.out
  subst hn0
  obtain ⟨h8,hv⟩:=HO.out hdr tl hfr
  have HL:=aj (show bF num c=⟨num,numOf hdr,tl,c.take (bS c),c.length-bS c⟩ by unfold bF;rw [hfr])
  obtain ⟨g2,hA2,hg2,hg2'⟩:∃ g2,A2=some ⟨g2,0,none⟩∧w1.heap.size≤g2∧g2<w2.heap.size:=by
   obtain ⟨vs,q1,_,_⟩:=HO2.out
   obtain ⟨g2,e1,e2,e3,_⟩:=acZ q1 (by omega)
   exact ⟨g2,e1,e2,e3⟩
  subst hA2
  have hgne:¬ g2=g:=by have:=HGlt.out;have:=HB1.out.size;omega
  have hgne2:¬ g=g2:=fun e=>hgne e.symm
  obtain ⟨vs,r1,r2,r3⟩:=ajv HO2.out (fun q=>q<w1.heap.size∨g2=q) (fun _=>False) (Tn.refl _ w2) (fun _ e=>e.elim) (fun q hq=>by
   rcases hq with hq | hq
   ·exact .inl hq
   ·right;rw [hq];rfl)
  rcases vs with _ | ⟨vh,vt⟩
  ·simp at r2
  obtain ⟨Ah,nh,ch,ev,hslN⟩:=r3 0 (by simp)
  have ev2:vh = .slice Ah nh ch:=by simpa using ev
  subst ev2
  have hcell:w2.cell? ⟨g2,0,none⟩=some (.slice Ah nh ch):=by
   obtain ⟨b,off,e,hc⟩:=r1.holds (by simp)
   injection e with e
   injection e with e1 e2
   subst e1 e2
   exact hc 0 _ rfl
  simp only [List.getElem_cons_zero] at hslN
  have hsl:=hslN.1
  have HR:=aj (And.intro r1 (And.intro r2 r3))
  clear r1 r2 r3 ev
  have x1:(0:Int)<(tl.length:Int)+1:=by omega
  have x2:0<tl.length+1:=by omega
  have x3:(1:Int)≤(tl.length:Int)+1:=by omega
  have e1:((tl.length:Int)+1==0)=false:=by rw [beq_eq_false_iff_ne];omega
  have e2:(((tl.length+1:Nat):Int)==0)=false:=by rw [beq_eq_false_iff_ne];omega
  have hnh:nh=8:=by rw [← hsl.len];exact h8
  subst hnh
  have HSl:=aj hslN
  have HV:=aj hv
  clear hfr hsl hslN hv h8
  have HSa:=aj (HSl.out.tn (TS.out (.slice A1 (bS c) c1) (.int .i64 ((c.length-bS c:Nat):Int))) (fun q hq=>by rw [hq];left;left;have:=HGlt.out;have:=HB1.out.size;omega))
  have HNb:=aj (ahJ Ah ch hdr _ HSa.out.1 HV.out)
  have T3:=aj (TS.out (.slice A1 (bS c) c1) (.int .i64 ((c.length-bS c:Nat):Int)))
  have W3:=aj ((HW2.out.store 3 (.slice A1 (bS c) c1)).store 4 (.int .i64 ((c.length-bS c:Nat):Int)))
  go_wp2_with fail
  obtain ⟨w3,hw3⟩:∃ w3:World,w3=(w2.setCell ⟨g,3,none⟩ (.slice A1 (bS c) c1)).setCell ⟨g,4,none⟩ (.int .i64 ((c.length-bS c:Nat):Int)):=⟨_,rfl⟩
  rw [← hw3] at HNb T3 W3 ⊢
  clear hw3 TS HSa z3 z4 y3 y4
  (with_reducible refine Calls.mono HNb.out ?_)
  rintro e w4 ⟨rfl,rfl⟩
  have q1:w3.cell? ⟨g,1,none⟩=some (.int .u64 0):=W3.out.cell 1 _ (by simp)
  have q2:w3.cell? ⟨g,2,none⟩=some (.slice none 0 0):=W3.out.cell 2 _ (by simp)
  have p1:=W3.out.free 1
  have p2:=W3.out.free 2
  have hcc:tl.length+1≤c2:=HR.out.1.2.1
  have hcm:c2≤9223372036854775807:=HR.out.1.2.2.1
  by_cases hc1:c2=1
  ·go_wp2_with fail
   go_ret
   have HT5:=aj (fun (v1 v2:Value)=>(T3.out.set (g:=g) (.inl rfl) 1 v1).set (g:=g) (.inl rfl) 2 v2)
   have HRow:=HR.out.1.tail
   rw [if_pos hc1,Nat.add_sub_cancel,show c2-1=0 by omega] at HRow
   refine xK HL.out.symm (xL (f':=⟨num,numOf hdr,tl,c.take (bS c),c.length-bS c⟩) (Ar:=some ⟨g2,0,none⟩) (cr:=0) HF.out HXl.out HB1.out HO1.out HB2.out (HT5.out _ _) ?_ HWh.out rfl (fun X' hX'=>?_) (fun k hk=>?_))
   ·have h1:=(W3.out.store 1 (.int .u64 (numOf hdr:Nat))).store 2 (.slice (some ⟨g2,0,none⟩) tl.length 0)
    have e:((((((#[.int .i64 (num:Nat),.int .u64 0,.slice none 0 0,.slice none 0 0,.int .i64 0]:Array Value).setIfInBounds 3 (.slice A1 (bS c) c1)).setIfInBounds 4 (.int .i64 ((c.length-bS c:Nat):Int)))).setIfInBounds 1 (.int .u64 (numOf hdr:Nat))).setIfInBounds 2 (.slice (some ⟨g2,0,none⟩) tl.length 0))=cellsS ⟨num,numOf hdr,tl,c.take (bS c),c.length-bS c⟩ (some ⟨g2,0,none⟩) 0 A1 c1:=by
     unfold cellsS
     have:=HWh.out
     simp [List.length_take,Nat.min_eq_left this]
    rw [e] at h1
    exact h1
   ·refine ⟨vt,HRow.stands (fun b hb=>(HT5.out (.int .u64 (numOf hdr:Nat)) (.slice (some ⟨g2,0,none⟩) tl.length 0)).block b (by cases hb;exact hg2') (by cases hb;exact hgne)),by have:=HR.out.2.1;simpa using this,fun i hi=>?_⟩
    obtain ⟨A',n',c',ev,h4⟩:=HR.out.2.2 (i+1) (by simpa using hi)
    refine ⟨A',n',c',by simpa using ev,?_⟩
    have h5:=h4.tn (HT5.out (.int .u64 (numOf hdr:Nat)) (.slice (some ⟨g2,0,none⟩) tl.length 0)) (fun q hq=>by rw [hq];left;left;have:=HGlt.out;have:=HB1.out.size;omega)
    exact ⟨h5.1,fun a ea hne hx=>h5.2 a ea hne (by
     rcases hX' _ hx with h6 | h6
     ·exact .inl h6
     ·right;injection h6)⟩
   ·cases hk
    exact ⟨hg2,by have:=(HT5.out (.int .u64 (numOf hdr:Nat)) (.slice (some ⟨g2,0,none⟩) tl.length 0)).size;exact Nat.lt_of_lt_of_le hg2' this⟩
  ·go_wp2_with fail
   go_ret
   have HT5:=aj (fun (v1 v2:Value)=>(T3.out.set (g:=g) (.inl rfl) 1 v1).set (g:=g) (.inl rfl) 2 v2)
   have HRow:=HR.out.1.tail
   rw [if_neg hc1,Nat.add_sub_cancel] at HRow
   refine xK HL.out.symm (xL (f':=⟨num,numOf hdr,tl,c.take (bS c),c.length-bS c⟩) (Ar:=some ⟨g2,0+1,none⟩) (cr:=c2-1) HF.out HXl.out HB1.out HO1.out HB2.out (HT5.out _ _) ?_ HWh.out rfl (fun X' hX'=>?_) (fun k hk=>?_))
   ·have h1:=(W3.out.store 1 (.int .u64 (numOf hdr:Nat))).store 2 (.slice (some ⟨g2,0+1,none⟩) tl.length (c2-1))
    have e:((((((#[.int .i64 (num:Nat),.int .u64 0,.slice none 0 0,.slice none 0 0,.int .i64 0]:Array Value).setIfInBounds 3 (.slice A1 (bS c) c1)).setIfInBounds 4 (.int .i64 ((c.length-bS c:Nat):Int)))).setIfInBounds 1 (.int .u64 (numOf hdr:Nat))).setIfInBounds 2 (.slice (some ⟨g2,0+1,none⟩) tl.length (c2-1)))=cellsS ⟨num,numOf hdr,tl,c.take (bS c),c.length-bS c⟩ (some ⟨g2,0+1,none⟩) (c2-1) A1 c1:=by
     unfold cellsS
     have:=HWh.out
     simp [List.length_take,Nat.min_eq_left this]
    rw [e] at h1
    exact h1
   ·refine ⟨vt,HRow.stands (fun b hb=>(HT5.out (.int .u64 (numOf hdr:Nat)) (.slice (some ⟨g2,0+1,none⟩) tl.length (c2-1))).block b (by cases hb;exact hg2') (by cases hb;exact hgne)),by have:=HR.out.2.1;simpa using this,fun i hi=>?_⟩
    obtain ⟨A',n',c',ev,h4⟩:=HR.out.2.2 (i+1) (by simpa using hi)
    refine ⟨A',n',c',by simpa using ev,?_⟩
    have h5:=h4.tn (HT5.out (.int .u64 (numOf hdr:Nat)) (.slice (some ⟨g2,0+1,none⟩) tl.length (c2-1))) (fun q hq=>by rw [hq];left;left;have:=HGlt.out;have:=HB1.out.size;omega)
    exact ⟨h5.1,fun a ea hne hx=>h5.2 a ea hne (by
     rcases hX' _ hx with h6 | h6
     ·exact .inl h6
     ·right;injection h6)⟩
   ·cases hk
    exact ⟨hg2,by have:=(HT5.out (.int .u64 (numOf hdr:Nat)) (.slice (some ⟨g2,0+1,none⟩) tl.length (c2-1))).size;exact Nat.lt_of_lt_of_le hg2' this⟩
end Wl
end Go.Proofs.YtpcmlopbkehffaaGreat
namespace Go.Proofs.YtpcmlopbkehffaaGreat
open Go.RowKit Fm Dsk
namespace Wl
def rg (base i:Nat):Nat:=(base+i) % 64
theorem iF (base i:Nat):rg base i<64:=Nat.mod_lt _ (by omega)
theorem mq {base i j:Nat} (hi:i<64) (hj:j<64) (h:rg base i=rg base j):i=j:=by unfold rg at h;omega
theorem zq (base i:Nat):(rg base i+1) % 64=rg base (i+1):=by unfold rg;omega
theorem sF (base i:Nat):rg ((base+1) % 64) i=rg base (i+1):=by unfold rg;omega
theorem sG {base:Nat} (h:base<64):rg base 0=base:=by unfold rg;omega
def stN (base n:Nat):Nat:=if base+n≤64 then 0 else base+n-64
def sN (base n j:Nat):Nat:=if base+n≤64 then base+j else if j<base+n-64 then j else base+(j-(base+n-64))
def kZ (base n:Nat):List Nat:=(List.range n).map (sN base n)
theorem qc (base n:Nat):(kZ base n).length=n:=by simp [kZ]
theorem akV {base n j:Nat} (hb:base<64) (hn:n≤63) (hj:j<n):sN base n j<64:=by unfold sN;split <;> (try split) <;> omega
theorem akU {base n j:Nat} (hb:base<64) (hn:n≤63) (hj:j<n) (h1:1≤j):(j=stN base n→sN base n j≠sN base n (j-1)+1)∧(j≠stN base n→sN base n j=sN base n (j-1)+1):=by
 unfold sN stN
 by_cases hw:base+n≤64
 ·simp only [if_pos hw]
  omega
 ·simp only [if_neg hw]
  by_cases h2:j<base+n-64
  ·rw [if_pos h2,if_pos (by omega)];omega
  ·by_cases h3:j-1<base+n-64
   ·rw [if_neg h2,if_pos h3];omega
   ·rw [if_neg h2,if_neg h3];omega
theorem adF {base n k:Nat} (hb:base<64) (hn:n≤63) (hk:k<n):sN base n ((stN base n+k) % n)=rg base k:=by
 unfold sN stN rg
 by_cases h:base+n≤64
 ·simp only [if_pos h,Nat.zero_add]
  rw [Nat.mod_eq_of_lt hk]
  omega
 ·simp only [if_neg h]
  by_cases h2:base+n-64+k<n
  ·rw [Nat.mod_eq_of_lt h2,if_neg (by omega)]
   omega
  ·rw [show base+n-64+k=(base+k-64)+n by omega,Nat.add_mod_right,Nat.mod_eq_of_lt (show base+k-64<n by omega),if_pos (by omega)]
   omega
theorem alk {i st:Nat} (h:¬ i=st):(if st<i then st else 0)=if st<i+1 then st else 0:=by
 by_cases h9:st<i
 ·rw [if_pos h9,if_pos (by omega)]
 ·rw [if_neg h9,if_neg (by omega)]
theorem adS {base n:Nat} (hb:base<64) (h:0<n):stN base n<n:=by unfold stN;split <;> omega
theorem ali {base:Nat} (hb:base<64):stN base 0=0:=by unfold stN;rw [if_pos (by omega)]
structure jI (B:Nat) (w:World) (base n:Nat) (g:Nat→Nat) (Af:Option Addr) (cf:Nat):Prop where
 row:bC 132 w Af n cf (ptrs g n)
 blank:∀ i,i<n→Whole w (g i) 134 #[.int .i64 ((rg base i:Nat):Int),.int .u64 ((0:Nat):Int),.slice none 0 0,.slice none 0 0,.int .i64 0]
 lo:∀ i,i<n→B≤g i
 inj:∀ i j,i<n→j<n→i≠j→g i≠g j
 af:∀ k,aB Af=some k→B≤k
theorem jI.below {B base n cf:Nat} {w w':World} {g:Nat→Nat} {Af:Option Addr} (h:jI B w base n g Af cf) (b:Below w.heap.size w w'):jI B w' base n g Af cf :=
 ⟨h.row.below b,fun i hi=>(h.blank i hi).below b (h.blank i hi).lt,h.lo,h.inj,h.af⟩
def tK (w:World) (base n:Nat) (e:Ending) (w':World):Prop:=∃ Af cf g,e = .returned (.tuple #[.slice Af n cf,.int .i64 0])∧jI w.heap.size w' base n g Af cf∧Below w.heap.size w w'
theorem yC {B base n c:Nat} {w:World} {A:Option Addr} (h:eY 3 B w A n c (jW (kZ base n))) {i:Nat} (hi:i<n):∃ b,A=some ⟨b,0,none⟩∧∀ j,j<n→w.cell? ⟨b,j,none⟩=some (.int .i64 ((sN base n j:Nat):Int)):=by
 have hl:=h.len
 have hr:=h.row
 obtain ⟨hx,⟨e',h0⟩ | ⟨g,cap,cur,e',-⟩⟩:=h
 ·rw [h0] at hl;simp [kZ] at hl;omega
 ·injection e' with e1
  refine ⟨g,e1,fun j hj=>?_⟩
  obtain ⟨b,off,e2,hc⟩:=hr.at_ (k:=j) (by rw [hl];exact hj)
  rw [e1] at e2
  injection e2 with e2
  injection e2 with e3 e4
  subst e3 e4
  rw [Nat.zero_add] at hc
  rw [hc]
  simp [jW,kZ]
theorem jI.more {B base k c:Nat} {w w1 w2:World} {g:Nat→Nat} {A A':Option Addr} {c' gn:Nat} (h:jI B w base k g A c) (hn:Whole w gn 134 #[.int .i64 ((rg base k:Nat):Int),.int .u64 ((0:Nat):Int),.slice none 0 0,.slice none 0 0,.int .i64 0]) (hB:B≤gn) (hw:B≤w.heap.size) (hne:∀ i,i<k→g i≠gn)
  (b1:Below w.heap.size w w1) (g2:w1.grownBy w2 (aB A)) (r2:bC 132 w2 A' (k+1) c' (ptrs g k++[dG gn])) (a2:∀ j,aB A'=some j→aB A=some j∨w1.heap.size≤j):jI B w2 base (k+1) (mE g k gn) A' c':=by
 have hs1:=b1.size
 have hA:∀ x,Whole w x 134 (#[.int .i64 ((rg base k:Nat):Int),.int .u64 ((0:Nat):Int),.slice none 0 0,.slice none 0 0,.int .i64 0])→aB A≠some x:=by
  intro x hx hk
  obtain ⟨cur,hc⟩:=jG h.row hk
  exact absurd (kE hc hx) (by decide)
 have hA2:∀ x cs,Whole w x 134 cs→aB A≠some x:=by
  intro x cs hx hk
  obtain ⟨cur,hc⟩:=jG h.row hk
  exact absurd (kE hc hx) (by decide)
 have e:ptrs (mE g k gn) k=ptrs g k:=by
  unfold ptrs
  refine List.map_congr_left (fun i hi=>?_)
  rw [nZ _ _ (by have:=List.mem_range.1 hi;omega)]
 refine ⟨?_,fun i hi=>?_,fun i hi=>?_,fun i j hi hj hij=>?_,fun x hx=>?_⟩
 ·rw [ac5,oV,e]
  exact r2
 ·by_cases e:i=k
  ·subst e
   rw [oV]
   exact kC (hn.below b1 hn.lt) g2 (hA _ hn)
  ·rw [nZ _ _ e]
   have h4:=h.blank i (by omega)
   exact kC (h4.below b1 h4.lt) g2 (hA2 _ _ h4)
 ·by_cases e:i=k
  ·subst e;rw [oV];exact hB
  ·rw [nZ _ _ e];exact h.lo i (by omega)
 ·by_cases e1:i=k
  ·subst e1
   rw [oV,nZ _ _ (Ne.symm hij)]
   exact fun e2=>hne j (by omega) e2.symm
  ·rw [nZ _ _ e1]
   by_cases e2:j=k
   ·subst e2;rw [oV];exact hne i (by omega)
   ·rw [nZ _ _ e2];exact h.inj i j (by omega) (by omega) hij
 ·rcases a2 x hx with h3 | h3
  ·exact h.af x h3
  ·omega
set_option maxRecDepth 20000 in
set_option maxHeartbeats 8000000 in
theorem akq (A:Option Addr) (base n c B:Nat) (w:World) (h:eY 3 B w A n c (jW (kZ base n))) (hn:n≤63) (hb:base<64):Calls Tryz.prog 119 #[.slice A n c] w (tK w base n):=by
 have HN:=aj hn
 have HBs:=aj hb
 have HA:=aj (fun i (hi:i<n)=>yC h hi)
 have e1:decide ((64:Int)≤(n:Int))=false:=decide_eq_false (by omega)
 have e2:decide ((n:Int) ≥ 64)=false:=decide_eq_false (by omega)
 have e3:decide (64≤n)=false:=decide_eq_false (by omega)
 clear h hn hb
 go_enter Tryz.func119,Tryz.ntmps119
 go_wp2_with fail
 have HSt:=aj (fun (j:Nat) (hj:j<n) (h1:1≤j)=>akU (base:=base) HBs.out HN.out hj h1)
 have HSl:=aj (fun (j:Nat) (hj:j<n)=>akV (base:=base) HBs.out HN.out hj)
 go_loopw [4,5] (fun vs vi wr=>∃ i s:Nat,vs = .int .i64 (s:Nat)∧Hid (s=if stN base n<i then stN base n else 0)∧1≤i∧(i=1∨i≤n)∧vi = .int .i64 (i:Nat)∧Hid (Below w.heap.size w wr)) (fun _ vi _=>n-(intOf vi).toNat)
 case atStart=>exact ⟨1,0,rfl,aj (by split <;> omega),Nat.le_refl _,.inl rfl,rfl,aj (Below.refl _ _)⟩
 case round =>
  obtain ⟨i,s,rfl,HS,hi1,hi2,rfl,HB⟩:=hrel
  by_cases hlt:i<n
  ·obtain ⟨b,rfl,hc⟩:=HA.out i hlt
   have c1:=(HB.out.cell (p:=⟨b,i,none⟩) (lt_of_cell (hc i hlt))).trans (hc i hlt)
   have c2:=(HB.out.cell (p:=⟨b,i-1,none⟩) (lt_of_cell (hc (i-1) (by omega)))).trans (hc (i-1) (by omega))
   have x5:(n:Int)≤63:=by have:=HN.out;omega
   have x1:(i:Int)<(n:Int):=by omega
   have x2:(0:Int)≤(i:Int):=by omega
   have x3:(0:Int)≤(i:Int)-1:=by omega
   have x4:(i:Int)-1<(n:Int):=by omega
   have k1:IntKind.i64.wrap ((i:Int)-1)=(i:Int)-1:=IntWalk.i64_in _ (by have:=HN.out;omega)
   have k2:((i:Int)-1).toNat=i-1:=by omega
   have hg:=HSt.out i hlt hi1
   have hl2:=HSl.out (i-1) (by omega)
   generalize sN base n (i-1)=p at *
   generalize sN base n i=p2 at *
   have k3:IntKind.i64.wrap ((p:Int)+1)=(p:Int)+1:=IntWalk.i64_in _ (by omega)
   have HK:=aj hlt
   have HK1:=aj hi1
   by_cases hst:i=stN base n
   ·have hp2:=hg.1 hst
    have e5:((p2:Int) != (p:Int)+1)=true:=by rw [bne_iff_ne];omega
    have HS2:=aj hst
    clear hlt hc hi1 hi2 hg hst hp2 hl2
    go_wp2_with fail
    go_quiet (fail)
    rename_i q
    go_wp2_with fail
    go_roundw
    case rel=>exact ⟨i+1,i,rfl,aj (by rw [if_pos (by have:=HS2.out;omega)];exact HS2.out),by omega,.inr (by have:=HK.out;omega),by go_num,aj (below_drewN HB.out _)⟩
    case measure=>have:=HK.out;simp [intOf];omega
   ·have hp2:=hg.2 hst
    rw [hp2,show ((p+1:Nat):Int)=(p:Int)+1 by omega] at c1
    have e5:(((p:Int)+1) != ((p:Int)+1))=false:=by simp
    have HS2:=aj hst
    clear hlt hc hi1 hi2 hg hst hp2 hl2
    go_wp2_with fail
    go_quiet (fail)
    rename_i q
    go_wp2_with fail
    go_roundw
    case rel=>exact ⟨i+1,s,rfl,aj (HS.out.trans (alk HS2.out)),by omega,.inr (by have:=HK.out;omega),by go_num,aj (below_drewN HB.out _)⟩
    case measure=>have:=HK.out;simp [intOf];omega
  ·have x1:¬ (i:Int)<(n:Int):=by omega
   have HSe:Hid (s=stN base n):=aj (by
    rw [HS.out]
    have h1:=HBs.out
    rcases Nat.eq_zero_or_pos n with h0 | h0
    ·subst h0;rw [ali h1];split <;> rfl
    ·have:=adS h1 h0;rw [if_pos (by omega)])
   clear hi1 hi2 hlt e1 e2 e3
   go_wp2_with fail
   have HB0:=HB
   go_loopw [6,32] (fun vs vk wr=>∃ (k:Nat) (A':Option Addr) (c':Nat) (g:Nat→Nat),k≤n∧vk = .int .i64 (k:Nat)∧vs = .slice A' k c'∧Hid (jI w.heap.size wr base k g A' c')∧Hid (Below w.heap.size w wr)) (fun _ vk _=>n-(intOf vk).toNat)
   case atStart=>exact ⟨0,none,0,fun _=>0,Nat.zero_le _,rfl,rfl,aj ⟨bC.none _ _,fun i hi=>absurd hi (Nat.not_lt_zero i),fun i hi=>absurd hi (Nat.not_lt_zero i),fun i j hi=>absurd hi (Nat.not_lt_zero i),fun k hk=>by cases hk⟩,HB0⟩
   case round =>
    obtain ⟨k,A',c',g,hk,rfl,rfl,HR,HB2⟩:=hrel
    by_cases hlt:k<n
    ·obtain ⟨b,rfl,hc⟩:=HA.out k hlt
     obtain ⟨p,hp⟩:∃ p:Nat,rg base k=p:=⟨_,rfl⟩
     obtain ⟨x,hx⟩:∃ x:Nat,(s+k) % n=x:=⟨_,rfl⟩
     have hxn:x<n:=by rw [← hx];exact Nat.mod_lt _ (by omega)
     have c1:=(HB2.out.cell (p:=⟨b,x,none⟩) (lt_of_cell (hc x hxn))).trans (hc x hxn)
     have hrot:=adF (base:=base) HBs.out HN.out hlt
     rw [← HSe.out,hx] at hrot
     rw [hrot,hp] at c1
     have hsn:s<n:=by rw [HSe.out];exact adS HBs.out (by omega)
     have w1:IntKind.i64.wrap ((s:Int)+(k:Int))=(s:Int)+(k:Int):=IntWalk.i64_in _ (by have:=HN.out;omega)
     have w2:Int.tmod ((s:Int)+(k:Int)) (n:Int)=(x:Int):=by
      rw [Int.tmod_eq_emod_of_nonneg (by omega),← hx,Int.natCast_emod,Int.natCast_add]
     have z1:(x:Int)<(n:Int):=by omega
     have z2:(0:Int)≤(x:Int):=by omega
     have x1:(k:Int)<(n:Int):=by omega
     have x2:(0:Int)≤(k:Int):=by omega
     have x5:(n:Int)≤63:=by have:=HN.out;omega
     have hn0:¬ (n:Int)=0:=by omega
     have HK:=aj hlt
     have HP:=aj hp
     have hmx:=HR.out.row.2.2.1
     have hcp:=HR.out.row.2.1
     clear hlt hc hp hx hxn hrot hsn
     go_wp2_with fail
     obtain ⟨wa,hwa⟩:∃ wa:World,wa=wr.alloc (.cells #[.int .i64 (p:Nat),.int .u64 0,.slice none 0 0,.slice none 0 0,.int .i64 0] 134):=⟨_,rfl⟩
     obtain ⟨gn,hgn⟩:∃ gn,gn=wr.heap.size:=⟨_,rfl⟩
     have hWn:=aP wr 134 #[.int .i64 (p:Nat),.int .u64 0,.slice none 0 0,.slice none 0 0,.int .i64 0]
     rw [← hwa,← hgn] at hWn
     have Wn:=aj (show Whole wa gn 134 #[.int .i64 ((rg base k:Nat):Int),.int .u64 ((0:Nat):Int),.slice none 0 0,.slice none 0 0,.int .i64 0] by rw [HP.out];exact hWn)
     have HRa:=aj (show jI w.heap.size wa base k g A' c' by rw [hwa];exact HR.out.below ((Below.refl _ _).alloc (Nat.le_refl _) _))
     have HB3:=aj (show Below w.heap.size w wa by rw [hwa];exact HB2.out.alloc HB2.out.size _)
     have HGL:=aj (show w.heap.size≤gn∧∀ i,i<k→g i≠gn from ⟨by rw [hgn];exact HB2.out.size,fun i hi=>by have:=(HR.out.blank i hi).lt;omega⟩)
     have HKb:=aj (show k≤63 by have:=HK.out;omega)
     have d0:wa.cell? ⟨gn,0,none⟩=some (.int .i64 (p:Nat)):=hWn.cell 0 _ rfl
     rw [← hwa]
     rw [← hgn]
     clear hWn hwa hgn HR HB2 c1
     rcases Nat.eq_zero_or_pos k with hk0 | hk0
     ·subst hk0
      go_wp2_with fail
      go_quiet (fail)
      have HBq:=aj (below_drewN HB3.out nq)
      have HRq:=aj (HRa.out.below (below_drewN (Below.refl _ _) nq))
      have HWq:=aj (Wn.out.below (below_drewN (Below.refl _ _) nq) Wn.out.lt)
      have hszq:wa.heap.size=(wa.drewN nq).heap.size:=rfl
      generalize wa.drewN nq=wq at *
      have HRw:=aj (HRq.out.row.below ((Below.refl wq.heap.size wq).alloc (Nat.le_refl _) (.cells #[dG gn] 132)))
      have hbk:=HKb.out
      go_wp2_with (first
       | (at_builtin;refine sU (e:=132) rfl (.tmp 65) (.tmp 67) 124 rfl _ 8 Tryz.underlying124 rF rfl A' 0 c' (ptrs g 0) rfl HRw.out wq.heap.size (dG gn) rfl rfl (at_new _ _ _) (by omega) (by omega) ?_;intro A9 c9 w9 hr9 hg9 ha9;have H9:=aj (And.intro hr9 (And.intro hg9 ha9));clear hr9 hg9 ha9)
       | fail)
      have HR9:=aj (jI.more HRq.out HWq.out HGL.out.1 HBq.out.size HGL.out.2 ((Below.refl _ _).alloc (Nat.le_refl _) _) H9.out.2.1 H9.out.1 H9.out.2.2)
      have HB9:=aj ((HBq.out.alloc HBq.out.size (.cells #[dG gn] 132)).grown H9.out.2.1 (by have:=((HBq.out.alloc HBq.out.size (.cells #[dG gn] 132))).size;exact this) (fun x hx=>HRq.out.af x hx))
      go_roundw
      case rel=>exact ⟨0+1,A9,c9,mE g 0 gn,by have:=HK.out;omega,by go_num,rfl,HR9,HB9⟩
      case measure=>have:=HK.out;simp [intOf];omega
     ·obtain ⟨b9,off9,hA9,hcell9⟩:∃ b off,A'=some ⟨b,off,none⟩∧wa.cell? ⟨b,off+(k-1),none⟩=some (dG (g (k-1))):=by
       obtain ⟨b,off,e,hc⟩:=HRa.out.row.holds (by intro e;have:=congrArg List.length e;rw [ni] at this;simp at this;omega)
       exact ⟨b,off,e,hc (k-1) _ (nV g (by omega))⟩
      subst hA9
      have d1:=(HRa.out.blank (k-1) (by omega)).cell 0 _ rfl
      obtain ⟨p',hp'⟩:∃ p':Nat,rg base (k-1)=p':=⟨_,rfl⟩
      rw [hp'] at d1
      have hpp:(p'+1) % 64=p:=by rw [← hp',← HP.out,zq];congr 1;omega
      have hp64:p'<64:=by rw [← hp'];exact iF _ _
      have y1:(0:Int)<(k:Int):=by omega
      have y2:(0:Int)≤(k:Int)-1:=by omega
      have y3:(k:Int)-1<(k:Int):=by omega
      have y4:IntKind.i64.wrap ((k:Int)-1)=(k:Int)-1:=IntWalk.i64_in _ (by omega)
      have y5:((k:Int)-1).toNat=k-1:=by omega
      have y6:IntKind.i64.wrap ((p':Int)+1)=(p':Int)+1:=IntWalk.i64_in _ (by omega)
      have y7:Int.tmod ((p':Int)+1) 64=(p:Int):=by rw [Int.tmod_eq_emod_of_nonneg (by omega),← hpp];omega
      have y8:((p:Int) != (p:Int))=false:=by simp
      clear hp' hpp hp64
      go_wp2_with fail
      go_quiet (fail)
      have HBq:=aj (below_drewN HB3.out nq)
      have HRq:=aj (HRa.out.below (below_drewN (Below.refl _ _) nq))
      have HWq:=aj (Wn.out.below (below_drewN (Below.refl _ _) nq) Wn.out.lt)
      have hszq:wa.heap.size=(wa.drewN nq).heap.size:=rfl
      generalize wa.drewN nq=wq at *
      have HRw:=aj (HRq.out.row.below ((Below.refl wq.heap.size wq).alloc (Nat.le_refl _) (.cells #[dG gn] 132)))
      have hbk:=HKb.out
      go_wp2_with (first
       | (at_builtin;refine sU (e:=132) rfl (.tmp 65) (.tmp 67) 124 rfl _ 8 Tryz.underlying124 rF rfl (some ⟨b9,off9,none⟩) k c' (ptrs g k) rfl HRw.out wq.heap.size (dG gn) rfl rfl (at_new _ _ _) (by omega) (by omega) ?_;intro A9 c9 w9 hr9 hg9 ha9;have H9:=aj (And.intro hr9 (And.intro hg9 ha9));clear hr9 hg9 ha9)
       | fail)
      have HR9:=aj (jI.more HRq.out HWq.out HGL.out.1 HBq.out.size HGL.out.2 ((Below.refl _ _).alloc (Nat.le_refl _) _) H9.out.2.1 H9.out.1 H9.out.2.2)
      have HB9:=aj ((HBq.out.alloc HBq.out.size (.cells #[dG gn] 132)).grown H9.out.2.1 (by have:=((HBq.out.alloc HBq.out.size (.cells #[dG gn] 132))).size;exact this) (fun x hx=>HRq.out.af x hx))
      go_roundw
      case rel=>exact ⟨k+1,A9,c9,mE g k gn,by have:=HK.out;omega,by go_num,rfl,HR9,HB9⟩
      case measure=>have:=HK.out;simp [intOf];omega
    ·obtain rfl:k=n:=by omega
     have x1:¬ (k:Int)<(k:Int):=by omega
     clear hlt HA
     go_wp2_with fail
     go_ret2
     exact ⟨_,_,g,rfl,HR.out,HB2.out⟩
end Wl
end Go.Proofs.YtpcmlopbkehffaaGreat
namespace Go.Proofs.YtpcmlopbkehffaaGreat
open Go.RowKit Fm Dsk
namespace Wl
set_option maxRecDepth 20000 in
set_option maxHeartbeats 4000000 in
theorem agY (X P:Nat→Prop) (g gd:Nat) (Qd:Nat→Prop) (d:ak) (num:Nat) (c:List UInt8) (ff:Nat) (w:World) (h:dO w X P g ⟨num,0,[],[],0⟩) (hw:Whole w g 134 #[.int .i64 (num:Nat),.int .u64 0,.slice none 0 0,.slice none 0 0,.int .i64 0]) (hd:Dk w gd Qd d) (hup:d.down=false) (hf:d.F num=some ⟨c,ff⟩) (hn:num<64) (hc:c.length≤1048576) (ho:oh c) (hxl:∀ q,X q→q<w.heap.size)
  (ht:(bF num c).dL=0) (hl:64≤(bF num c).all.length) :
  Calls Tryz.prog 120 #[.pointer (some ⟨g,0,none⟩),.pointer (some ⟨gd,0,none⟩)] w (vM w g X P (bF num c)):=by
 have HL:=aj (ach X P g gd Qd d num c ff w h hw hd hup hf hn hc ho hxl)
 have HT:=aj ht
 have HA:=aj hl
 clear h hw hd hup hf hn hc ho hxl ht hl
 generalize bF num c=f at *
 go_enter Tryz.func120,Tryz.ntmps120
 go_wp2_with fail
 (with_reducible refine Calls.mono HL.out ?_)
 rintro e w1 ⟨rfl,hx⟩
 have HX:=aj hx
 obtain ⟨X',P',hld⟩:=hx
 obtain ⟨Ar,cr,Aa,ca,m1,-⟩:=hld.fs.mem
 obtain ⟨b0,b1,b2,b3,b4⟩:=jH m1
 rw [HT.out] at b4
 have e1:decide ((f.all.length:Int)<64)=false:=decide_eq_false (by have:=HA.out;omega)
 have e2:decide (f.all.length<64)=false:=decide_eq_false (by have:=HA.out;omega)
 clear hld m1
 go_wp2_with fail
 go_ret
 exact ⟨rfl,HX.out⟩
set_option maxRecDepth 20000 in
set_option maxHeartbeats 4000000 in
theorem abL (X P X1 P1:Nat→Prop) (g g1:Nat) (f f1:FS) (w:World) (h:dO w X P g f) (h1:dO w X1 P1 g1 f1) (hn:aO f1<18446744073709551616) (hr:f1.recs.length≤9223372036854775807) (ho:f.all=[]∨f.first=aO f1) :
  Calls Tryz.prog 122 #[.pointer (some ⟨g,0,none⟩),.pointer (some ⟨g1,0,none⟩)] w (fun e w'=>e = .returned (.bool true)∧Below w.heap.size w w'):=by
 have HN:=aj (fun (W:World) (hb:Below w.heap.size w W)=>Calls.mono (xA X1 P1 g1 f1 W (h1.below hb) hn hr) (R':=fun e w'=>e = .returned (.int .u64 (aO f1:Nat))∧Below W.heap.size W w') (fun e w' hq=>⟨hq.1,by obtain ⟨_,q,e2⟩:=hq;rw [e2];exact below_drewN (Below.refl _ _) q⟩))
 obtain ⟨Ar,cr,Aa,ca,m1,-⟩:=h.mem
 obtain ⟨b0,b1,b2,b3,b4⟩:=jH m1
 clear h h1 hn hr m1
 rcases Nat.eq_zero_or_pos f.all.length with h0 | h0
 ·rw [h0] at b3
  clear ho h0
  go_enter Tryz.func122,Tryz.ntmps122
  go_wp2_with fail
  go_quiet (fail)
  go_wp2_with fail
  go_ret
  exact ⟨rfl,below_drewN (Below.refl _ _) _⟩
 ·have ho2:f.first=aO f1:=by
   rcases ho with e | e
   ·rw [e] at h0;simp at h0
   ·exact e
  rw [ho2] at b1
  have e0:((f.all.length:Int)==0)=false:=by rw [beq_eq_false_iff_ne];omega
  have e1:(f.all.length==0)=false:=by rw [beq_eq_false_iff_ne];omega
  have h0':¬ f.all.length=0:=by omega
  have hne:¬ f.all=[]:=by intro e;rw [e] at h0;simp at h0
  have S0:kF w g 3 (.slice Aa f.all.length ca) g 1 (.int .u64 (aO f1:Nat)) w:=⟨Below.refl _ _,b3,b1⟩
  generalize aO f1=N at *
  clear ho ho2 b3 b1 b0 b2 b4
  go_enter Tryz.func122,Tryz.ntmps122
  go_wp2_with fail
  go_region_held3 (kF w g 3 (.slice Aa f.all.length ca) g 1 (.int .u64 (N:Nat))) (first | assumption | (refine qw (by assumption) (by assumption)) | (refine qw (by assumption) (Below.drew (Below.refl _ _))))
   (first | (go_at_call 74;(with_reducible refine Calls.mono (HN.out _ (And.left (by assumption))) ?_);rintro e w' ⟨rfl,hb'⟩) | fail)
  have hS:kF w g 3 (.slice Aa f.all.length ca) g 1 (.int .u64 (N:Nat)) w':=by assumption
  have HB1:=aj hS.1
  clear hb' hS
  go_wp2_with fail
  go_ret
  exact ⟨rfl,HB1.out⟩
end Wl
end Go.Proofs.YtpcmlopbkehffaaGreat
