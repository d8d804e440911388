/-
  Compact.
-/
import Derived.Test.YtpcmlopbkehffaaGreatOGAO
import Derived.Test.YtpcmlopbkehffaaGreatOGAQ
import Derived.Test.YtpcmlopbkehffaaGreatOGBF
import Derived.Test.YtpcmlopbkehffaaGreatOGDA
import Derived.Test.YtpcmlopbkehffaaGreatOGDI
import Derived.Deep.RegionHeld3
import Derived.Deep.Slices
import Derived.Deep.DrawnRows
import Derived.OpenShut
set_option linter.unusedSimpArgs false
set_option linter.unusedVariables false
namespace Go.Proofs.YtpcmlopbkehffaaGreat
open Go.RowKit Rg Bl Re Wl Dsk Fm Vw
namespace Rp
theorem lK.down {d:ak} {most:Int} {R S os1:List au} {N:Nat} (h:lK d most R os1 N) (hS:∀ j,j≤os1.length→bN R (os1.take j)=R∨bN R (os1.take j)=S):nH d most R S N:=by
 obtain ⟨hd,base,M,c,os,s,h1,h2,h3,h4,h5,h6⟩:=h
 refine ⟨hd,base,M,c,os++os1,s,h1,h2,h3,h4,fun t t1 t2=>?_⟩
 obtain ⟨j,hj,e⟩:=aly (os1:=os1) h5 h6 t1 t2
 rw [e]
 exact hS j hj
theorem zi {L:List FS} {os:List au} (h:aC L=os.map aU):(aC L).length=os.length:=by rw [h,List.length_map]
theorem abr {n:Nat} : ∀ {L:List FS} {f:FS},f∈cK n L→f∈L
 | [],f,h=>h
 | [g],f,h=>by rwa [drop_one] at h
 | g :: g2::L,f,h=>by
   by_cases hx:aO g≤n
   ·rw [wZ hx] at h
    exact List.mem_cons_of_mem _ (abr h)
   ·rwa [wY hx] at h
theorem aH.ahw {d:ak} {most:Int} {base N U:Nat} (h:aH d most base [] N U):aH d most 0 [] N U :=
 ⟨h.ok,h.up,fun j _=>h.rest j (fun i hi=>absurd hi (Nat.not_lt_zero i)),fun i hi=>absurd hi (Nat.not_lt_zero i),fun i hi=>absurd hi (Nat.not_lt_zero i),fun i hi=>absurd hi (Nat.not_lt_zero i),fun i hi=>absurd hi (Nat.not_lt_zero i),fun i hi=>absurd hi (Nat.not_lt_zero i),fun i hi=>absurd hi (Nat.not_lt_zero _),fun i hi=>absurd hi (Nat.not_lt_zero _),fun i hi=>absurd hi (Nat.not_lt_zero i),h.n63,by decide,h.used,h.big⟩
theorem yw {d:ak} {most:Int} {base N U:Nat} {L:List FS} (h:aH d most base L N U):gI L=aS L+(aC L).length:=by
 rcases L with _ | ⟨f,L⟩
 ·rfl
 ·exact acG L f h.chain
theorem afP {d d':ak} {most:Int} {base base' N U:Nat} {L:List FS} {n:Nat} (ok:aH d most base L N U) (k:iR d base L) (ok':aH d' most base' (cK n L) N U) (hs:∀ i,i<(cK n L).length→d'.F (rg base' i)=d.F (rg base' i)):iR d' base' (cK n L):=fun i hi=>by
 rw [hs i hi]
 obtain ⟨j,hj,e⟩:=List.mem_iff_getElem.1 (abr (List.getElem_mem hi))
 have h1:=ok'.num i hi
 have h2:=ok.num j hj
 rw [e] at h2
 rw [← h1,h2,k j hj,e]
theorem afJ {d d2 d':ak} {most:Int} {L L2:List FS} {R:List au} {N N2 base base':Nat} (hu:RUp d most L R N) (hr:aC L2=aC L++R.map aU) (hf:aS L2=aS L) (ok:aH d2 most base L2 N2 1048576) (h0:L2=[]→base=0) (k:iR d2 base L2)
  (ok':aH d' most base' (cK (aS L+(aC L).length) L2) N2 1048576) (hs:∀ i,i<(cK (aS L+(aC L).length) L2).length→d'.F (rg base' i)=d2.F (rg base' i)) :
  RUp d' most (cK (aS L+(aC L).length) L2) R N2∧R.length≤(aC (cK (aS L+(aC L).length) L2)).length∧(aC (cK (aS L+(aC L).length) L2)).length≤R.length+(aC L).length:=by
 have hfacts:=hu.facts
 obtain ⟨b1,c,os,s,h1,h2,h3,h4,h5,h6,h7,h8⟩:=hu
 have hT:=h7 os.length h6 (Nat.le_refl _)
 rw [List.take_length] at hT
 have hlen:=zi h4
 have hfast:=afP ok k ok' hs
 have key:∃ j,j≤os.length∧aC (cK (aS L+(aC L).length) L2)=(os.drop j++R).map aU:=by
  rcases L2 with _ | ⟨f,L2⟩
  ·rw [drop_nil]
   refine ⟨0,Nat.zero_le _,?_⟩
   rw [hr,h4,List.drop_zero,List.map_append]
  ·obtain ⟨k1,k2,k3,k4⟩:=abv (aS L+(aC L).length) L2 f ok.chain
   have hf2:f.first=aS L:=hf
   generalize aS (cK (aS L+(aC L).length) (f::L2))=a at *
   refine ⟨a-f.first,by omega,?_⟩
   rw [k1,hr,h4,← List.map_append,List.map_append,List.map_append,List.drop_append,List.map_drop,show a-f.first-(os.map aU).length=0 by rw [List.length_map];omega,List.drop_zero]
 obtain ⟨j,hj,hk⟩:=key
 obtain ⟨b9,ok9,h09,hfast9⟩:∃ b,aH d' most b (cK (aS L+(aC L).length) L2) N2 1048576∧(cK (aS L+(aC L).length) L2=[]→b=0)∧iR d' b (cK (aS L+(aC L).length) L2):=by
  by_cases e:cK (aS L+(aC L).length) L2=[]
  ·rw [e] at ok' ⊢
   exact ⟨0,Rp.aH.ahw ok',fun _=>rfl,fun i hi=>absurd hi (Nat.not_lt_zero i)⟩
  ·exact ⟨base',ok',fun h=>absurd h e,hfast⟩
 have h9:=RUp.yD ok9 h09 hfast9 hk (fun o ho=>by
  rcases List.mem_append.1 ho with h | h
  ·exact h5 o (List.mem_of_mem_drop h)
  ·exact hfacts.2.2 o h)
 rw [alP hT (fun o ho=>(h5 o ho).nz)] at h9
 have hl2:=zi hk
 rw [List.length_append,List.length_drop] at hl2
 exact ⟨h9,by omega,by omega⟩
def aeg (B:Nat) (w0 W0:World) (X0 E0:Nat→Prop) (gr gl gd bm:Nat) (most:Int) (L:List FS) (R:List au) (N:Nat) (d:ak) (z:Int→Prop) (e:Ending) (w':World):Prop :=
 ∃ (k : Int) (d':ak) (L':List FS),e = .returned (.int .i64 k)∧Rm d d' z k ∧
   ((k=0∧dh B w0 W0 X0 E0 gr gl gd bm d' most L' R false (N+R.length) w'∧RUp d' most L' R (N+R.length)∧R.length≤(aC L').length∧(aC L').length≤R.length+(aC L).length) ∨
    (k=9∧dh B w0 W0 X0 E0 gr gl gd bm d' most L' R false (N+R.length) w'∧RUp d' most L' R (N+R.length)) ∨
    (k=10∧dh B w0 W0 X0 E0 gr gl gd bm d' most L' R true (N+R.length) w'∧nH d' most R R (N+R.length)))
section
variable {B:Nat} {w0 w w':World} {gr gl gd bm:Nat} {X F E:Nat→Prop} {d d':ak} {most:Int} {L L':List FS} {R R':List au} {dn dn':Bool} {N N':Nat}
theorem bO.drop {base U:Nat} (h:bO B w0 w gr gl gd bm X F E d most L R dn N) (ok:aH d most base L N' U) (n:Nat) (hn:n≤9223372036854775807) (hle:n≤gI L) :
  Calls Tryz.prog 49 #[.pointer (some ⟨gl,0,none⟩),.int .i64 (n:Nat)] w (fun e w'=>∃ d' base',aH d' most base' (cK n L) N' U∧d'.armed=d.armed∧d'.room=d.room∧(∀ i,i<(cK n L).length→d'.F (rg base' i)=d.F (rg base' i))∧fH w gl gd X F (.int .i64 0) d' most (cK n L) e w'):=by
 refine Calls.mono (afH h.lg.lg ok n hn hle) ?_
 rintro e w' ⟨rfl,d',base',X',hm⟩
 exact ⟨d',base',hm.ok,hm.ar,hm.ro,hm.same,rfl,X',hm.lg,hm.tn,hm.x1,hm.x2⟩
theorem ajq {W:World} {b:Nat} {Z:Nat→Prop} {A:Option Addr} {n c:Nat} {os:List au} (h:iV b W A n c (os.map aU)) (hZ:∀ q,Z q→q<b):nI W Z A n c os :=
 ⟨h.1.more (fun q hq => .inl (hq.imp (fun hq=>hZ q hq) id)),fun k hk hz=>by have:=h.2 k hk;have:=hZ k hz;omega⟩
theorem dh.trans {W1 W2:World} (hb:Below w.heap.size w W1) (hS:dh B w0 W1 X E gr gl gd bm d most L R dn N W2):dh B w0 w X E gr gl gd bm d most L R dn N W2:=by
 obtain ⟨X5,F5,E5,r1,r2,r3,r4,r5,r6⟩:=hS
 have hz:=hb.size
 refine ⟨X5,F5,E5,r1,(Tn.of_below hb).trans r2 (fun q hq => .inl hq),fun q hq=>?_,r4,fun q hq=>?_,r6⟩
 ·rcases r3 q hq with h1 | h1
  ·exact .inl h1
  ·right;omega
 ·rcases r5 q hq with h1 | h1
  ·exact .inl h1
  ·right;omega
theorem dh.mk2 {W0:World} {X0 E0 X' F' E':Nat→Prop} (s:Tn E0 W0 w∧(∀ q,E q→E0 q∨W0.heap.size≤q)∧(∀ q,X0 q→X q)∧(∀ q,X q→X0 q∨W0.heap.size≤q)∧∀ q,E0 q→E q) (k:bO B w0 w' gr gl gd bm X' F' E' d' most L' R' dn' N') (t:Tn E w w'∧(∀ q,E' q→E q∨w.heap.size≤q)∧(∀ q,X q→X' q)∧(∀ q,X' q→X q∨w.heap.size≤q)∧∀ q,E q→E' q):dh B w0 W0 X0 E0 gr gl gd bm d' most L' R' dn' N' w':=by
 obtain ⟨s1,s2,s3,s4,s5⟩:=s
 obtain ⟨t1,t2,t3,t4,t5⟩:=t
 have hz:=s1.size
 refine ⟨X',F',E',k,s1.trans t1 s2,fun q hq=>?_,fun q hq=>t3 q (s3 q hq),fun q hq=>?_,fun q hq=>t5 q (s5 q hq)⟩
 ·rcases t2 q hq with h1 | h1
  ·exact s2 q h1
  ·right;omega
 ·rcases t4 q hq with h1 | h1
  ·exact s4 q h1
  ·right;omega
set_option maxRecDepth 100000 in
set_option maxHeartbeats 8000000 in
theorem afk (h:bO B w0 w gr gl gd bm X F E d most L R false N) (hu:RUp d most L R N) (hN:N+R.length≤1000000) (hM:R.length≤Ns.lZ) :
  Calls Tryz.prog 14 #[.pointer (some ⟨gr,0,none⟩)] w (aeg B w0 w X E gr gl gd bm most L R N d (fun _=>True)):=by
 have H:=aj h
 have HU:=aj hu
 have HN:=aj hN
 have HNo:=aj (qh h)
 have HUp:=aj (qy h)
 rw [hu.up] at HUp
 have hf:=hu.facts
 have hRN:R.length≤1000000:=by omega
 have HT:=aj (zT h hf.1 hf.2.1 hM)
 have HF:=aj hf
 clear h hu hf hN hM
 go_enter Tryz.func14,Tryz.ntmps14
 go_wp2_with fail
 (with_reducible refine Calls.mono HNo.out ?_)
 rintro e w1 ⟨rfl,rfl⟩
 go_wp2_with fail
 (with_reducible refine Calls.mono HUp.out ?_)
 rintro e w1 (⟨-,-,rfl,rfl⟩ | ⟨h9 | h9,-⟩)
 ·go_wp2_with fail
  (with_reducible refine Calls.mono HT.out ?_)
  rintro e w1 ⟨A,c,rfl,hrow,-,hb1⟩
  have HB1:=aj hb1
  have HRow:=aj hrow
  have hcp:=hrow.cap
  have hmx:=hrow.max
  have H1:=aj (H.out.later hb1)
  have HXE:=aj (show ∀ q,(X q∨E q)→q<w1.heap.size from fun q hq=>hq.elim (fun h=>H1.out.lg.xlt q h) (fun h=>H1.out.elt q h))
  clear hb1 hrow HNo HUp HT
  go_wp2_with fail
  have hRi:(R.length:Int)≤1000000:=by omega
  go_loopw [4,19] (fun vo vi wr=>∃ (i:Nat) (A4:Option Addr) (c4:Nat),i≤R.length∧vi = .int .i64 (i:Nat)∧vo = .slice A4 i c4∧Hid (iV w1.heap.size wr A4 i c4 ((R.take i).map aU))∧Hid (Below w1.heap.size w1 wr)) (fun _ vi _=>R.length-(intOf vi).toNat)
  case atStart=>exact ⟨0,none,0,Nat.zero_le _,rfl,rfl,aj (iV.none _ _),aj (Below.refl _ _)⟩
  case round =>
   obtain ⟨i,A4,c4,hi,rfl,rfl,HO,HB⟩:=hrel
   by_cases hlt:i<R.length
   ·obtain ⟨b,off,hA,hc⟩:=yB (HRow.out.below HB.out) (k:=i) (by rw [List.length_map];exact hlt)
    rw [List.getElem_map] at hc
    subst hA
    have Hr:=aj (H1.out.later HB.out)
    have ho:=HF.out.2.2 _ (List.getElem_mem hlt)
    have hg:=get_mem HF.out.1 (List.getElem_mem hlt)
    have HTk:=aj (show (R.take i).map aU++[aU R[i]]=(R.take (i+1)).map aU by rw [List.take_succ_eq_append_getElem hlt,List.map_append];rfl)
    have HOk:=aj ho
    obtain ⟨n,D,hn,hm⟩:=Hr.out.map
    have hlk:=hm.look ho.t1
    rw [hg] at hlk
    obtain ⟨c0,c1,c2,c3,-⟩:=jr Hr.out.whole
    have HRc:=aj (fun (W:World)=>adg R[i].trace R[i].r W HOk.out)
    have HK:=aj hlt
    have HRe:=aj (show jd R[i].trace R[i].r=aU R[i] from rfl)
    generalize R[i]=o at *
    have x1:(i:Int)<(R.length:Int):=by omega
    have x2:(0:Int)≤(i:Int):=by omega
    clear hlt hi hm hg ho
    obtain ⟨⟨vs,r1,r2,r3⟩,rB⟩:=HO.out
    have HRw:=aj r1
    have HRl:=aj (And.intro r2 (And.intro r3 rB))
    clear r1 r2 r3 rB
    go_wp2_with (first
     | (go_at_call 45;(with_reducible refine Calls.mono (HRc.out _) ?_);rintro e w3 ⟨A5,c5,rfl,ho',hb'⟩;have Ho3:=aj ho';have Hb3:=aj hb';clear ho' hb')
     | (at_builtin;refine sU (e:=109) rfl (.tmp 23) (.tmp 32) 85 rfl _ 24 Tryz.underlying85 ab0 rfl A4 i c4 vs rfl ((HRw.out.below Hb3.out).below ((Below.refl _ _).alloc (Nat.le_refl _) _)) w3.heap.size (.slice A5 41 c5) rfl rfl (at_new _ _ _) (by omega) (by omega) ?_;intro A6 c6 w4 ht' hg' ha';have H4:=aj (And.intro ht' (And.intro hg' ha'));clear ht' hg' ha')
     | fail)
    have Ho4:=aj (show iV w1.heap.size w4 A6 (i+1) c6 ((R.take (i+1)).map aU) by
     rw [← HTk.out,← HRe.out]
     exact iV.app HRl.out.2.2 HRw.out HRl.out.1 HRl.out.2.1 Hb3.out Ho3.out HB.out.size ((Below.refl _ _).alloc (Nat.le_refl _) _) H4.out.2.1 H4.out.1 H4.out.2.2)
    have Hb4:=aj (((HB.out.trans (Hb3.out.mono HB.out.size)).alloc (Nat.le_trans HB.out.size Hb3.out.size) (.cells #[.slice A5 41 c5] 109)).grown H4.out.2.1 (Nat.le_trans (Nat.le_trans HB.out.size Hb3.out.size) ((Below.refl _ _).alloc (Nat.le_refl _) _).size) (fun x hx=>HRl.out.2.2 x hx))
    go_roundw
    case rel=>exact ⟨i+1,A6,c6,by have:=HK.out;omega,by go_num,rfl,Ho4,Hb4⟩
    case measure=>have:=HK.out;simp [intOf];omega
   ·obtain rfl:i=R.length:=by omega
    have HRc:=aj (ajq (Z:=fun q=>X q∨E q) (os:=R) (by have:=HO.out;rwa [List.take_length] at this) HXE.out)
    have Hr:=aj (H1.out.later HB.out)
    have HNx:=aj (ahv Hr.out HU.out)
    have x1:¬ (R.length:Int)<(R.length:Int):=by omega
    have HB2:=aj (HB1.out.trans (HB.out.mono HB1.out.size))
    have HAh:=aj (yw (HU.out.gY.choose_spec.1))
    have hal:aS L+(aC L).length≤1000000:=by
     obtain ⟨base,hl,-⟩:=HU.out.gY
     have h1:=hl.xw.1
     have h2:=hl.big
     rw [yw hl] at h1
     omega
    have HAl:=aj hal
    generalize hah:aS L+(aC L).length=ah at HNx
    have HAhh:=aj hah
    clear hlt hi hal hah
    go_wp2_with fail
    (with_reducible refine Calls.mono HNx.out ?_)
    rintro e w3 ⟨rfl,hb3⟩
    have H3:=aj (Hr.out.later hb3)
    have HRc3:=aj (show nI w3 (fun q=>X q∨E q) A4 R.length c4 R from (HRc.out.step (F:=fun _=>False) (X':=fun q=>X q∨E q) (Tn.of_below hb3) (fun _ e=>e.elim) (fun q hq => .inl hq) (fun q hq=>hq)))
    have HB3:=aj (HB2.out.trans (hb3.mono HB2.out.size))
    have HWr:=aj (aec H3.out HU.out A4 c4 R HRc3.out HF.out.2.2 HN.out)
    clear hb3
    go_wp2_with fail
    (with_reducible refine Calls.mono HWr.out ?_)
    rintro e w4 ⟨k,d2,L2,rfl,hrm,hp⟩
    have HRm:=aj hrm
    clear hrm
    rcases hp with ⟨rfl,hS,hU2,hr2,hf2,base2,hl2,h02,hk2⟩ | ⟨rfl,i,hi,hS,hU2⟩ | ⟨rfl,i,hi,hS,hU2⟩
    ·have HS:=aj (dh.trans HB3.out hS)
     obtain ⟨X5,F5,E5,r1,r2⟩:=dh.trans HB3.out hS
     have HR5:=aj r1
     have HS5:=aj r2
     obtain ⟨c0,c1,c2,c3,-⟩:=jr r1.whole
     have hnx:aS L+(aC L).length≤gI L2:=by
      rw [yw hl2,hf2,hr2,List.length_append]
      omega
     have HDr:=aj (r1.drop hl2 (aS L+(aC L).length) (by have:=HAl.out;omega) hnx)
     have HFin:=aj (fun (d':ak) (base':Nat) (ok':aH d' most base' (cK (aS L+(aC L).length) L2) (N+R.length) 1048576) (hs:∀ i,i<(cK (aS L+(aC L).length) L2).length→d'.F (rg base' i)=d2.F (rg base' i))=>afJ HU.out hr2 hf2 hl2 h02 hk2 ok' hs)
     rw [HAhh.out] at HDr HFin
     clear hS hU2 hr2 hf2 hl2 h02 hk2 r1 r2 hnx
     go_wp2_with fail
     (with_reducible refine Calls.mono HDr.out ?_)
     rintro e w5 ⟨d6,base6,ok6,ar6,ro6,sm6,hp6⟩
     obtain ⟨rfl,X6,F6,E6,hb6,ht6,hE6,hX6,hX6',hEE6⟩:=HR5.out.logged hp6
     have HU6:=aj (HFin.out d6 base6 ok6 sm6)
     have HR6:=aj hb6
     have HTn6:=aj (And.intro ht6 (And.intro hE6 (And.intro hX6 (And.intro hX6' hEE6))))
     have HAr6:=aj (And.intro ar6 ro6)
     have HNt:=aj (rT hb6.whole 0)
     clear ok6 ar6 ro6 sm6 hp6 hb6 ht6 hE6 hX6 hX6' hEE6
     go_wp2_with fail
     (with_reducible refine Calls.mono HNt.out ?_)
     rintro e w7 ⟨rfl,rfl⟩
     go_wp2_with fail
     go_ret
     refine ⟨0,d6,_,rfl,⟨HAr6.out.2.trans HRm.out.1,HAr6.out.1.trans HRm.out.2.1,fun _=>by decide,trivial⟩,.inl ⟨rfl,?_,HU6.out⟩⟩
     have h9:=HR6.out.noted (false||decide ((0:Int)=10))
     have k6:=HTn6.out
     exact dh.mk2 HS5.out (h9.1.more (N':=N+R.length) (by omega)) ⟨k6.1.trans h9.2 k6.2.1,k6.2⟩
    ·have HS:=aj (dh.trans HB3.out hS)
     have HU2:=aj (hU2.up (fun j hj=>by rw [List.take_take];exact ad5 HF.out.1 HF.out.2.1 _))
     clear hS hU2
     go_wp2_with fail
     go_ret
     exact ⟨9,d2,L2,rfl,HRm.out.mono (fun _=>trivial),.inr (.inl ⟨rfl,HS.out,HU2.out⟩)⟩
    ·have HS:=aj (dh.trans HB3.out hS)
     have HU2:=aj (hU2.down (S:=R) (fun j hj=>by rw [List.take_take];exact .inl (ad5 HF.out.1 HF.out.2.1 _)))
     clear hS hU2
     go_wp2_with fail
     go_ret
     exact ⟨10,d2,L2,rfl,HRm.out.mono (fun _=>trivial),.inr (.inr ⟨rfl,HS.out,HU2.out⟩)⟩
 ·cases h9
 ·cases h9
end
end Rp
end Go.Proofs.YtpcmlopbkehffaaGreat
namespace Go.Proofs.YtpcmlopbkehffaaGreat
open Go.RowKit
namespace Enc
variable {α:Type} {E:Enc α} {e:TypeId}
theorem jh {w:World} {ops:Array Oper} {o:Oper} {a:Act} {K:Act→World→Prop} {Q:Exit→Act→World→Prop} {F:Prop} (hgd:Region.wanted o (yielded ops a.tmps)=true) (s x:Operand) (t:TypeId)
  (ho:o.op = .call {callee := .builtin .append,args:=#[s,x],argTypes:=#[t,t] })
  (z:Value) (by_:Nat) (ht:Tryz.prog.underlying t=some (.slice e)) (hinfo:(Tryz.prog.info? e).map (fun i=>(i.zero,i.size,i.bytes))=some (some z,E.K,by_)) (hz:z.cells.size=E.K)
  (B:Nat) (A0:Option Addr) (n0 c0:Nat) (l0:List α) (hs:a.eval s = .slice A0 n0 c0) (hown:E.Own e B w A0 n0 c0 l0)
  (A:Option Addr) (m c:Nat) (l:List α) (hx:a.eval x = .slice A m c) (hl:E.Row w A m c l)
  (N:Nat) (ys:List α) (hN:n0+m=N) (hys:l0++l=ys) (hroom:N*by_≤140737488355328) (hlen:N≤1000000000000) (hB:B≤w.heap.size)
  (h:∀ A' c' w',E.Own e B w' A' N c' ys→Below B w w'→w.grownBy w' (Value.slice A0 n0 c0).ownBlock→K (a.put o.dst (.slice A' N c')) w') :
  if Region.wanted o (yielded ops a.tmps)=true then Oper.wp Tryz.prog o a w K Q else F:=by
 subst hys
 rw [if_pos hgd]
 obtain ⟨i0,hi0,hz0,hz1,hz2⟩:=info_parts hinfo
 obtain ⟨A',c',w',hrun,h2,h3,_⟩:=zA (P:=Tryz.prog) w B t o.type e i0 _ E.K by_ ht hi0 hz0 hz1 hz2 hz E.pos (.slice A0 n0 c0) n0 (E.all l0) hown A m c (E.all l)
  (by rw [pq,hl.len]) hl.holds hl.nil (E.aaO l) N (E.all (l0++l)) hN (E.all_append l0 l).symm (by unfold maxLen;omega) hroom hB
 unfold Oper.wp execOp
 simp only [ho,resolve,invoke,builtin,Sem.run_bind,Sem.run_pure,Result.andThen_ok,List.map_toArray,List.map_cons,List.map_nil,hs,hx,hrun]
 exact h A' c' w' h2 ((Below.refl B w).grown h3 hB (jY hown)) h3
theorem kR (w:World) (T:TypeId) (hT:T=e) (B:Nat) (hB:B≤w.heap.size):E.Own e B (w.alloc (.cells #[] T)) (some ⟨w.heap.size,0,.none⟩) 0 0 []:=by
 subst hT
 exact aiv w [] #[] rfl 0 rfl (by rw [Nat.zero_mul];omega) B hB
theorem mh (w:World) (g:Nat) (T:TypeId) (hT:T=e) (B:Nat) (hB:B≤w.heap.size) (h:g=w.heap.size):E.Own e B (w.alloc (.cells #[] T)) (some ⟨g,0,.none⟩) 0 0 []:=by
 subst h
 exact kR w T hT B hB
theorem Own.alloc {B:Nat} {w:World} {A:Option Addr} {n c:Nat} {l:List α} (h:E.Own e B w A n c l) (o:Obj):E.Own e B (w.alloc o) A n c l:=h.later ((Below.refl _ _).alloc (Nat.le_refl _) o)
theorem Row.place {w:World} {A A':Option Addr} {n c c':Nat} {ss:List α} (h:E.Row w A n c ss) (e1:A=A') (e2:c=c'):E.Row w A' n c' ss:=by subst e1 e2;exact h
theorem lY {W W':World} {gl:Nat} {s:α} {row:Option Nat} (h:E.Row W (some ⟨gl,0,.none⟩) 1 1 [s]) (hg:W.grownBy W' row) (hne:some gl≠row):E.Row W' (some ⟨gl,0,.none⟩) 1 1 [s]:=by
 refine ⟨fun hx=>?_,rfl,Nat.le_refl _,by omega,fun e=>by cases e⟩
 obtain ⟨b,off,e,hc⟩:=h.holds hx
 cases e
 refine ⟨gl,0,rfl,fun k u hu=>?_⟩
 have h1:=hc k u hu
 rw [World.cell?_of_block (hg.block gl (lt_of_cell h1) hne)]
 exact h1
end Enc
end Go.Proofs.YtpcmlopbkehffaaGreat
namespace Go.Proofs.YtpcmlopbkehffaaGreat
open Go.RowKit Rg Bl Re Wl Dsk Fm Vw
attribute [local go_sem ↓] Go.wp_at_zero Go.wp_at_succ
namespace Rp
def cfO (o:au):List Value:=[.int .u64 (o.trace:Nat),.int .u64 (o.r.p.pos:Nat),.int .u64 (o.r.p.id:Nat),.int .u64 (o.r.t.pos:Nat),.int .u64 (o.r.t.id:Nat),.int .i64 o.r.v]
def bA:Enc au:=⟨cfO,6,fun _=>rfl,by decide,fun p u hu=>by
 simp [cfO] at hu
 rcases hu with rfl | rfl | rfl | rfl | rfl | rfl <;> rfl⟩
abbrev uM (o:au):Value := .agg #[.int .u64 (o.trace:Nat),.int .u64 (o.r.p.pos:Nat),.int .u64 (o.r.p.id:Nat),.int .u64 (o.r.t.pos:Nat),.int .u64 (o.r.t.id:Nat),.int .i64 o.r.v]
theorem iY:(Tryz.prog.info? 116).map (fun i=>(i.zero,i.size,i.bytes))=some (some (.agg #[.int .u64 0,.int .u64 0,.int .u64 0,.int .u64 0,.int .u64 0,.int .i64 0]),bA.K,48):=by kernel_rfl
abbrev tF:=bA.Own 116
def jf (a b:au):Bool:=decide (a.trace=b.trace)&&dH a.r b.r
theorem akW (a b:au):jf a b=true ↔ a=b:=by
 obtain ⟨t,r⟩:=a
 obtain ⟨u,s⟩:=b
 unfold jf
 rw [Bool.and_eq_true,decide_eq_true_eq,zD]
 constructor
 ·rintro ⟨rfl,rfl⟩;rfl
 ·intro h;injection h with h1 h2;exact ⟨h1,h2⟩
theorem adI:∀ a b:List au,eqF jf a b=true ↔ a=b
 | [],[]=>by simp [eqF]
 | [],_::_=>by simp [eqF]
 | _::_,[]=>by simp [eqF]
 | a :: l,b::m=>by
   rw [eqF,Bool.and_eq_true,akW,adI l m,List.cons.injEq]
theorem oQ (a:List au):eqF jf a a=true:=(adI a a).2 rfl
set_option maxRecDepth 100000 in
theorem ah4 (a b:au) (w:World):(Op.equalIn 10000 116 (uM a) (uM b)).run Tryz.prog w = .ok (jf a b) w:=by
 rw [run_equalIn_agg w 9999 116 _ _ (by kernel_rfl) (by kernel_rfl)]
 simp [Program.fieldsOf,Tryz.underlying116,Tryz.underlying60,Tryz.underlying35,Op.eqFields,part,go_sem]
 simp only [Int.ofNat_inj]
 unfold jf dH fP
 repeat' split
 all_goals simp_all
theorem ah6 (a b:au) (w:World):(binOp .neq 116 (uM a) (uM b)).run Tryz.prog w = .ok (.bool (!jf a b)) w:=by
 rw [run_neq_struct,ah4]
 rfl
abbrev C6 (W:World) (b off:Nat) (o:au):Prop:=W.cell? ⟨b,off,none⟩=some (.int .u64 (o.trace:Nat))∧W.cell? ⟨b,off+1,none⟩=some (.int .u64 (o.r.p.pos:Nat))∧W.cell? ⟨b,off+2,none⟩=some (.int .u64 (o.r.p.id:Nat))∧W.cell? ⟨b,off+3,none⟩=some (.int .u64 (o.r.t.pos:Nat))∧W.cell? ⟨b,off+4,none⟩=some (.int .u64 (o.r.t.id:Nat))∧W.cell? ⟨b,off+5,none⟩=some (.int .i64 o.r.v)
theorem pW {w:World} {A:Option Addr} {n c:Nat} {l:List au} (h:bA.Row w A n c l) {k:Nat} (hk:k<l.length):∃ b off,A=some ⟨b,off,none⟩∧C6 w b (off+k*6) l[k]:=by
 obtain ⟨b,off,e,-,h1⟩:=h.at_ hk
 exact ⟨b,off,e,h1 0 _ rfl,h1 1 _ rfl,h1 2 _ rfl,h1 3 _ rfl,h1 4 _ rfl,h1 5 _ rfl⟩
set_option maxRecDepth 20000 in
set_option maxHeartbeats 4000000 in
theorem oK (A A':Option Addr) (n n' c c':Nat) (ss ts:List au) (w:World) (h1:bA.Row w A n c ss) (h2:bA.Row w A' n' c' ts) :
  Calls Tryz.prog 15 #[.slice A n c,.slice A' n' c'] w (bT w.heap.size w (.bool (eqF jf ss ts))):=by
 obtain rfl:=h1.len
 obtain rfl:=h2.len
 have hle:=Nat.le_trans h1.cap h1.max
 have hle2:=Nat.le_trans h2.cap h2.max
 have H1:=aj h1
 have H2:=aj h2
 clear h1 h2
 by_cases hl:ss.length=ts.length
 rotate_left
 ·have Hf:=aj (qV jf ss ts hl)
  have e1:((ss.length:Int) != (ts.length:Int))=true:=by rw [bne_iff_ne];omega
  clear hl
  go_enter Tryz.func15,Tryz.ntmps15
  go_wp2_with fail
  go_ret
  exact bH (by rw [Hf.out];rfl) (Below.refl _ _)
 have e1:((ss.length:Int) != (ts.length:Int))=false:=by rw [bne_eq_false_iff_eq];omega
 have Hl:=aj hl
 have kn:=fun (a b:au) (w:World)=>ah6 a b w
 have hl1:ss.length≤ts.length:=by omega
 have hl2:ts.length≤ss.length:=by omega
 clear hl
 go_enter Tryz.func15,Tryz.ntmps15
 go_wp2_with fail
 go_loopw [5] (fun vi wr=>∃ k:Nat,k≤ss.length∧vi = .int .i64 (k:Nat)∧Hid (∀ j (hj:j<ss.length) (hj2:j<ts.length),j<k→jf ss[j] ts[j]=true)∧Hid (Below w.heap.size w wr)) (fun vi _=>ss.length-(intOf vi).toNat)
 case atStart=>exact ⟨0,Nat.zero_le _,rfl,aj (fun j _ _ h=>absurd h (by omega)),aj (Below.refl _ _)⟩
 case round =>
  obtain ⟨k,hk,rfl,Hg,Hw⟩:=hrel
  by_cases hlt:k<ss.length
  ·have hlt2:k<ts.length:=by omega
   obtain ⟨b,off,rfl,a0,a1,a2,a3,a4,a5⟩:=pW (H1.out.below Hw.out) hlt
   obtain ⟨b',off',rfl,d0,d1,d2,d3,d4,d5⟩:=pW (H2.out.below Hw.out) hlt2
   have x1:(k:Int)<(ss.length:Int):=by omega
   have x3:(k:Int)<(ts.length:Int):=by omega
   have x2:(0:Int)≤(k:Int):=by omega
   have Hn:=aj (fun (h:jf ss[k] ts[k]=true)=>show ∀ j (hj:j<ss.length) (hj2:j<ts.length),j<k+1→jf ss[j] ts[j]=true from fun j hj hj2 h2=>by
    by_cases e:j=k
    ·subst e;exact h
    ·exact Hg.out j hj hj2 (by omega))
   have Hb:=aj (fun (h:jf ss[k] ts[k]=false)=>qR jf ss ts k hlt hlt2 h)
   generalize ss[k]=s at *
   generalize ts[k]=t at *
   have kq:=fun w=>kn s t w
   cases hq:jf s t
   ·have Hf:=aj (Hb.out hq)
    rw [hq] at kq
    clear hq Hn Hb kn
    go_wp2_with fail
    go_quiet (fail)
    go_wp2_with fail
    go_ret
    exact bH (by rw [Hf.out];rfl) (below_drewN Hw.out _)
   ·have Hn2:=aj (Hn.out hq)
    rw [hq] at kq
    clear hq Hn Hb kn
    go_wp2_with fail
    go_quiet (fail)
    go_wp2_with fail
    go_roundw
    case rel=>exact ⟨k+1,by omega,by go_num,Hn2,aj (below_drewN Hw.out _)⟩
    case measure=>simp [intOf] <;> omega
  ·obtain rfl:k=ss.length:=by omega
   have Hf:=aj (qU jf ss ts Hl.out fun j hj hj2=>Hg.out j hj hj2 hj)
   go_wp2_with fail
   go_ret
   exact bH (by rw [Hf.out];rfl) Hw.out
theorem acV (w:World) (g:Nat) (o:au) (T:TypeId) (h:g=w.heap.size):bA.Row (w.alloc (.cells #[.int .u64 (o.trace:Nat),.int .u64 (o.r.p.pos:Nat),.int .u64 (o.r.p.id:Nat),.int .u64 (o.r.t.pos:Nat),.int .u64 (o.r.t.id:Nat),.int .i64 o.r.v] T)) (some ⟨g,0,none⟩) 1 1 [o]:=by
 subst h
 exact Enc.adw (E:=bA) w o _ rfl T
abbrev qE (w1:World) (g o x:Nat) (W:World):Prop:=Below w1.heap.size w1 W∧W.cell? ⟨g,o,none⟩=some (.int .u64 (x:Nat))
theorem rU {w1 W:World} {g o x:Nat} (h:qE w1 g o x w1) (hb:Below w1.heap.size w1 W):qE w1 g o x W:=⟨hb,by rw [hb.cell (lt_of_cell h.2)];exact h.2⟩
theorem uZ {α:Type} {E:Enc α} {w w':World} {Q:Nat→Prop} {A:Option Addr} {n c:Nat} {ss:List α} (h:E.Row w A n c ss) (t:Tn Q w w') (hA:∀ a,A=some a→ss≠[]→¬ Q a.block):E.Row w' A n c ss:=by
 refine ⟨fun hne=>?_,h.len,h.cap,h.max,h.nil⟩
 obtain ⟨b,off,e,hc⟩:=h.holds hne
 refine ⟨b,off,e,fun k u hu=>?_⟩
 have h1:=hc k u hu
 have hss:ss≠[]:=by rintro rfl;exact hne rfl
 have hk:=t.block b (lt_of_cell h1) (hA _ e hss)
 rw [World.cell?_of_block hk]
 exact h1
theorem dI {w:World} {g:Nat} {T:TypeId} {a0 a1 a2 a3 a4 a5 a6 a7 a8 a9 a10:Value} (h:Whole w g T #[a0,a1,a2,a3,a4,a5,a6,a7,a8,a9,a10]):w.cell? ⟨g,0,none⟩=some a0∧w.cell? ⟨g,1,none⟩=some a1∧w.cell? ⟨g,2,none⟩=some a2∧w.cell? ⟨g,3,none⟩=some a3∧w.cell? ⟨g,4,none⟩=some a4∧w.cell? ⟨g,5,none⟩=some a5∧w.cell? ⟨g,6,none⟩=some a6∧w.cell? ⟨g,7,none⟩=some a7∧w.cell? ⟨g,8,none⟩=some a8∧w.cell? ⟨g,9,none⟩=some a9∧w.cell? ⟨g,10,none⟩=some a10:=⟨h.cell 0 _ rfl,h.cell 1 _ rfl,h.cell 2 _ rfl,h.cell 3 _ rfl,h.cell 4 _ rfl,h.cell 5 _ rfl,h.cell 6 _ rfl,h.cell 7 _ rfl,h.cell 8 _ rfl,h.cell 9 _ rfl,h.cell 10 _ rfl⟩
def oW (w:World) (R:List au) (e:Ending) (w':World):Prop:=∃ A c,e = .returned (.slice A R.length c)∧bA.Row w' A R.length c R∧(∀ a,A=some a→R≠[]→w.heap.size≤a.block)∧Below w.heap.size w w'
section
variable {B:Nat} {w0 w w':World} {gr gl gd bm:Nat} {X F E:Nat→Prop} {d d':ak} {most:Int} {L L':List FS} {R R':List au} {dn dn':Bool} {N N':Nat}
set_option maxRecDepth 100000 in
set_option maxHeartbeats 8000000 in
theorem vY (h:bO B w0 w gr gl gd bm X F E d most L R dn N) (hR:dS R) (hz:fA R) (hok:∀ o∈R,o.Ok) (hM:R.length≤Ns.lZ):Calls Tryz.prog 16 #[.pointer (some ⟨gr,0,none⟩)] w (oW w R):=by
 have H:=aj h
 have HT:=aj (zT h hR hz hM)
 have hN:=Nat.le_trans hM Ns.xR
 have HR:=aj (And.intro hR hok)
 clear h hR hz hok
 go_enter Tryz.func16,Tryz.ntmps16
 go_wp2_with fail
 (with_reducible refine Calls.mono HT.out ?_)
 rintro e w1 ⟨A,c,rfl,hrow,-,hb1⟩
 have HB1:=aj hb1
 have HRow:=aj hrow
 have hcp:=hrow.cap
 have hmx:=hrow.max
 have H1:=aj (H.out.later hb1)
 clear hb1 hrow HT
 go_wp2_with fail
 have hRi:(R.length:Int)≤1000000:=by omega
 go_loopw [3,5] (fun vo vi wr=>∃ (i:Nat) (A4:Option Addr) (c4:Nat),i≤R.length∧vi = .int .i64 (i:Nat)∧vo = .slice A4 i c4∧Hid (tF w1.heap.size wr A4 i c4 (R.take i))∧Hid (Below w1.heap.size w1 wr)) (fun _ vi _=>R.length-(intOf vi).toNat)
 case atStart=>exact ⟨0,none,0,Nat.zero_le _,rfl,rfl,aj (Enc.Own.none _ _),aj (Below.refl _ _)⟩
 case round =>
  obtain ⟨i,A4,c4,hi,rfl,rfl,HO,HB⟩:=hrel
  by_cases hlt:i<R.length
  ·obtain ⟨b,off,hA,hc⟩:=yB (HRow.out.below HB.out) (k:=i) (by rw [List.length_map];exact hlt)
   rw [List.getElem_map] at hc
   subst hA
   obtain ⟨b',off',hA',hc1⟩:=yB HRow.out (k:=i) (by rw [List.length_map];exact hlt)
   cases hA'
   rw [List.getElem_map] at hc1
   have Hr:=aj (H1.out.later HB.out)
   have hg:=get_mem HR.out.1 (List.getElem_mem hlt)
   have ht1:=(HR.out.2 _ (List.getElem_mem hlt)).t1
   have HTk:=aj (show R.take i++[R[i]]=R.take (i+1) from (List.take_succ_eq_append_getElem hlt).symm)
   have HRg:=aj (fun (W:World) (hb:Below wr.heap.size wr W)=>adl (Hr.out.later hb) (t:=R[i].trace) ht1)
   rw [hg] at HRg
   have HK:=aj hlt
   generalize R[i]=o at *
   have HBk:=aj (fun (W:World)=>aeN o.r W)
   have x1:(i:Int)<(R.length:Int):=by omega
   have x2:(0:Int)≤(i:Int):=by omega
   have S0:qE w1 b (off+i) o.trace w1:=⟨Below.refl _ _,hc1⟩
   have HS0:=aj S0
   have HBr:=aj (Below.refl wr.heap.size wr)
   have SW:qE w1 b (off+i) o.trace wr:=rU S0 HB.out
   have hnb:i+1≤1000001:=by omega
   have HRz:=aj (show (i+1)*48≤140737488355328∧i+1≤1000000000000 by omega)
   clear hlt hi hg ht1
   go_wp2_with fail
   go_region_held3 (qE w1 b (off+i) o.trace) (first | (with_reducible assumption) | (with_reducible exact rU HS0.out (jA HB.out hcb)) | (with_reducible exact rU HS0.out (Below.alloc (jA HB.out hcb) (Below.size (jA HB.out hcb)) _)) | (with_reducible exact rU HS0.out h6) | (with_reducible exact rU HS0.out (Below.drew HB.out)) | fail)
    (first
    | (go_at_call 17;(first | (with_reducible refine Calls.mono (HRg.out _ HBr.out) ?_) | (with_reducible refine Calls.mono (HRg.out _ (Below.drew HBr.out)) ?_));rintro e w' ⟨rfl,hcn⟩;(first | (with_reducible have hcb:=jA HBr.out hcn) | (with_reducible have hcb:=oF HBr.out hcn)))
    | (go_at_call 20;(with_reducible refine Calls.mono (HBk.out _) ?_);rintro e w' ⟨rfl,hcn⟩;(first | (with_reducible have hcb:=jA hcb hcn) | (with_reducible have hcb:=oF hcb hcn)))
    | (refine Enc.jh (E:=bA) (e:=116) (by rfl) (.tmp 14) (.tmp 27) 32 (by rfl) _ 48 Tryz.underlying32 iY rfl w1.heap.size A4 i c4 (R.take i) (by rfl) ?_ _ 1 1 [o] (by rfl) ?_ (i+1) (R.take (i+1)) (by rfl) HTk.out HRz.out.1 HRz.out.2 ?_ ?_;(exact (HO.out.later hcb).alloc _);(exact acV _ _ o _ rfl);(exact Below.size (Below.alloc (jA HB.out hcb) (Below.size (jA HB.out hcb)) _));(intro A6 c6 w6 ho6 hb6 hg6;have h6:=(Below.alloc (jA HB.out hcb) (Below.size (jA HB.out hcb)) _).trans hb6))
    | fail)
   all_goals
    have HO6:=aj ho6
    have HB6:=aj h6
    clear ho6 hb6 hg6 h6 hcb hcn
    go_wp2_with fail
    go_roundw
   case rel=>exact ⟨i+1,A6,c6,by have:=HK.out;omega,by go_num,rfl,HO6,HB6⟩
   case measure=>have:=HK.out;simp [intOf];omega
  ·obtain rfl:i=R.length:=by omega
   have HO2:=aj (show tF w1.heap.size wr A4 R.length c4 R by have:=HO.out;rwa [List.take_length] at this)
   have x1:¬ (R.length:Int)<(R.length:Int):=by omega
   clear hlt hi
   go_wp2_with fail
   go_ret
   exact ⟨A4,c4,rfl,HO2.out.row,fun a ea hne=>by
    obtain ⟨g,eg,hg,-⟩:=HO2.out.place (List.length_pos_iff.2 hne)
    rw [ea] at eg
    injection eg with eg
    rw [eg]
    exact Nat.le_trans HB1.out.size hg,HB1.out.trans (HB.out.mono HB1.out.size)⟩
end
end Rp
end Go.Proofs.YtpcmlopbkehffaaGreat
