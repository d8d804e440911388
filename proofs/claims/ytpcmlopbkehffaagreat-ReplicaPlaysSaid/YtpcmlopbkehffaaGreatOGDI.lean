/-
  The number of the record that comes next.
-/
import Derived.Test.YtpcmlopbkehffaaGreatOGCC
import Derived.Test.YtpcmlopbkehffaaGreatORepHandle3
set_option linter.unusedSimpArgs false
set_option linter.unusedVariables false
namespace Go.Proofs.YtpcmlopbkehffaaGreat
open Go.RowKit Rg Bl Re Wl Dsk Fm
namespace Rp
theorem aH.af0 {d:ak} {most:Int} {base N U:Nat} {L:List FS} (h:aH d most base L N U):aS L≤N:=by
 rcases L with _ | ⟨f,L⟩
 ·exact Nat.zero_le _
 ·have:=h.bnd 0 (by simp)
  have h2:f.first≤aO f:=by unfold aO;omega
  exact Nat.le_trans h2 this
section
variable {B:Nat} {w0 w w':World} {gr gl gd bm:Nat} {X F E:Nat→Prop} {d d':ak} {most:Int} {L L':List FS} {R R':List au} {dn dn':Bool} {N N':Nat}
set_option maxRecDepth 100000 in
set_option maxHeartbeats 4000000 in
theorem ahv (h:bO B w0 w gr gl gd bm X F E d most L R dn N) (hu:RUp d most L R N):Calls Tryz.prog 46 #[.pointer (some ⟨gr,0,none⟩)] w (bT w.heap.size w (.int .i64 ((aS L+(aC L).length:Nat):Int))):=by
 obtain ⟨c0,c1,c2,c3,-⟩:=jr h.whole
 have HRc:=aj (fun (W:World) (hb:Below w.heap.size w W)=>ajs (h.later hb) hu)
 have hrl:=hu.adh
 obtain ⟨base,hl,-⟩:=hu.gY
 have hfl:=aH.af0 hl
 have hN:=hl.big
 obtain ⟨Qd,Pl,P,g,Af,cf,hlg,-⟩:=h.lg.lg
 have HFi:=aj (afX hlg hl.known hl.lok.num (by omega))
 have HS:=aj (show ((aS L+(aC L).length:Nat):Int)=(aS L:Int)+((aC L).length:Int) by omega)
 rw [HS.out]
 generalize aS L=a at *
 generalize (aC L).length=b at *
 clear h hu hl hlg
 have x1:((b:Nat):Int)<9223372036854775807-(a:Int):=by omega
 have x2:((b:Nat):Int)≤9223372036854775807-(a:Int):=by omega
 have HM:=aj (show min ((b:Nat):Int) (9223372036854775807-(a:Int))=(b:Int) by omega)
 go_enter Tryz.func46,Tryz.ntmps46
 go_wp2_with fail
 (with_reducible refine Calls.mono HFi.out ?_)
 rintro e w1 ⟨rfl,hb1⟩
 have HB1:=aj hb1
 clear hb1
 go_wp2_with fail
 (with_reducible refine Calls.mono (HRc.out _ HB1.out) ?_)
 rintro e w2 ⟨rfl,hb2⟩
 have HB2:=aj (HB1.out.trans (hb2.mono HB1.out.size))
 clear hb2
 go_wp2_with fail
 go_ret
 exact bH (by
  show Value.int IntKind.i64 ((a:Int)+(b:Int))=Value.int IntKind.i64 ((a:Int)+min ((b:Nat):Int) (9223372036854775807-(a:Int)))
  rw [HM.out]) HB2.out
end
end Rp
end Go.Proofs.YtpcmlopbkehffaaGreat
namespace Go.Proofs.YtpcmlopbkehffaaGreat
open Go.RowKit Rg Bl Re Wl Dsk Fm Vw
namespace Rp
theorem agn:(Tryz.prog.info? 33).map (fun i=>(i.zero,i.size,i.bytes))=some (some (.int .u64 0),1,8):=by kernel_rfl
theorem ahG (W:World) (g x:Nat) (T:TypeId) (h:g=W.heap.size):iI.Row (W.alloc (.cells #[.int .u64 (x:Nat)] T)) (some ⟨g,0,none⟩) 1 1 [x]:=by
 subst h
 exact Enc.adw (E:=iI) W x _ rfl T
theorem yB {w:World} {A:Option Addr} {n c:Nat} {ids:List Nat} (h:iI.Row w A n c ids) {k:Nat} (hk:k<ids.length):∃ b off,A=some ⟨b,off,none⟩∧w.cell? ⟨b,off+k,none⟩=some (.int .u64 (ids[k]:Nat)):=by
 obtain ⟨b,off,e,-,h1⟩:=h.at_ hk
 refine ⟨b,off,e,?_⟩
 have:=h1 0 _ rfl
 simpa [iI] using this
theorem uo {R:List au} (h:dS R) (hz:fA R) (x:Nat):x∈R.map au.trace ↔ aA R x≠bK:=by
 constructor
 ·intro hx
  obtain ⟨o,ho,rfl⟩:=List.mem_map.1 hx
  rw [get_mem h ho]
  exact hz o ho
 ·intro hx
  obtain ⟨o,ho,h1,-⟩:=abV hx
  exact List.mem_map.2 ⟨o,ho,h1⟩
theorem dS.nums {R:List au} (h:dS R):(R.map au.trace).Pairwise (· < ·):=List.pairwise_map.2 h
theorem ad6 {R:List au} (h:dS R) (hz:fA R) {ss ids:List Nat} (hn:ss.Nodup) (hm:∀ x,x∈ss ↔ aA R x≠bK) (hp:ids.Perm ss) (hs:ids.Pairwise (· ≤ ·)):ids=R.map au.trace:=by
 have h1:=h.nums
 have hn2:(R.map au.trace).Nodup:=h1.imp (fun h=>by omega)
 have hp2:ss.Perm (R.map au.trace):=(List.perm_ext_iff_of_nodup hn hn2).2 (fun x=>by rw [hm,uo h hz])
 exact List.Perm.eq_of_pairwise (fun a b _ _ h1 h2=>by omega) hs (h1.imp (fun h=>by omega)) (hp.trans hp2)
theorem acK:∀ (l m:List Nat),l.Nodup→(∀ x∈l,x∈m)→l.length≤m.length
 | [],_,_,_=>Nat.zero_le _
 | a :: t,m,hn,h=>by
   obtain ⟨h1,h2⟩:=List.nodup_cons.1 hn
   have h3:=acK t (m.erase a) h2 (fun x hx=>(List.mem_erase_of_ne (fun e=>by rw [e] at hx;exact h1 hx)).2 (h x (by simp [hx])))
   rw [List.length_erase_of_mem (h a (by simp))] at h3
   have h4:=List.length_pos_of_mem (h a (by simp))
   rw [List.length_cons]
   omega
def aaw (w:World) (R:List au) (e:Ending) (w':World):Prop:=∃ A c,e = .returned (.slice A R.length c)∧iI.Row w' A R.length c (R.map au.trace)∧(∀ k,(Value.slice A R.length c).ownBlock=some k→w.heap.size≤k)∧Below w.heap.size w w'
section
variable {B:Nat} {w0 w w':World} {gr gl gd bm:Nat} {X F E:Nat→Prop} {d d':ak} {most:Int} {L L':List FS} {R R':List au} {dn dn':Bool} {N N':Nat}
set_option maxRecDepth 100000 in
set_option maxHeartbeats 8000000 in
theorem zT (h:bO B w0 w gr gl gd bm X F E d most L R dn N) (hR:dS R) (hz:fA R) (hM:R.length≤Ns.lZ):Calls Tryz.prog 25 #[.pointer (some ⟨gr,0,none⟩)] w (aaw w R):=by
 obtain ⟨c0,c1,c2,c3,-⟩:=jr h.whole
 have HNo:=aj (qh h)
 obtain ⟨n,D,hn,hm⟩:=h.map
 have hown:=hm.own
 have HM:=aj hm
 have HMx:=aj hM
 have HNn:=aj (Nat.le_trans hM Ns.xR)
 have HR:=aj (And.intro hR hz)
 have hbm:bm<w.heap.size:=hm.lt
 clear h hm hR hz hn hM
 go_enter Tryz.func25,Tryz.ntmps25
 go_wp2_with fail
 (with_reducible refine Calls.mono HNo.out ?_)
 rintro e w1 ⟨rfl,rfl⟩
 go_wp2_with (first
  | (at_range;refine wpList_range_own _ rfl _ 82 rfl 33 54 rG Tryz.underlying82 _ bm n D rfl hown ?_;intro w0 hrg0 hg0 hs0)
  | fail)
 go_frame
 go_loopw [3] (fun v wr=>∃ (left:Lit→Bool) (cnt:Nat) (ss:List Nat) (A:Option Addr) (c:Nat),wr.ranges Tryz.prog 33 Vw.eu bm w.heap.size n D left cnt∧ss.length+cnt≤Maps.size D∧v = .slice A ss.length c∧Hid (og D left ss)∧Hid (iI.Own 33 (w.heap.size+1) wr A ss.length c ss)∧Hid (Below w.heap.size w wr)) (fun _ wr=>wr.rangeLeft bm w.heap.size)
 case atStart=>exact ⟨_,_,[],none,0,hrg0,by simp,rfl,aj (og.start D),aj (Enc.Own.none _ _),aj ⟨hg0.os,hg0.tape,hg0.output,hg0.size,fun i hi=>hg0.block i hi (by simp)⟩⟩
 case round =>
  obtain ⟨left,cnt,ss,A,c,hrg,hcs,rfl,HC,HO,Hb⟩:=hrel
  clear hrg0 hg0 hs0
  go_wp2_with (first
   | (at_next;refine wpList_next_ranges _ rfl _ rfl 33 rG Vw.eu pF id (fun key kl hk=>by obtain ⟨x,hx,_⟩:=ab4 hk;exact ⟨x,hx⟩) (fun v y _=>⟨v,rfl⟩) bm w.heap.size n D left cnt rfl hrg ?_ ?_)
   | fail)
  ·intro _ hl0
   have HC2:=aj (show ss.Nodup∧∀ x,x∈ss ↔ aA R x≠bK from ⟨HC.out.1,fun x=>by rw [HC.out.2,hl0,HM.out.has];simp⟩)
   have hle:ss.length≤1000000:=by
    have h1:(R.map au.trace).Nodup:=HR.out.1.nums.imp (fun h=>by omega)
    have h2:ss.Perm (R.map au.trace):=(List.perm_ext_iff_of_nodup HC2.out.1 h1).2 (fun x=>by rw [HC2.out.2,uo HR.out.1 HR.out.2])
    have h3:=h2.length_eq
    rw [List.length_map] at h3
    rw [h3];exact HNn.out
   have HLe2:=aj (show ss.length≤Ns.lZ by
    have h1:(R.map au.trace).Nodup:=HR.out.1.nums.imp (fun h=>by omega)
    have h2:ss.Perm (R.map au.trace):=(List.perm_ext_iff_of_nodup HC2.out.1 h1).2 (fun x=>by rw [HC2.out.2,uo HR.out.1 HR.out.2])
    have h3:=h2.length_eq
    rw [List.length_map] at h3
    rw [h3];exact HMx.out)
   clear hl0 hcs hrg
   by_cases h0:ss.length=0
   ·have hs:ss=[]:=List.eq_nil_of_length_eq_zero h0
    have HZ:=aj (fun W=>Ns.ak5 A c W)
    have HE:=aj (show R.map au.trace=[] from (ad6 HR.out.1 HR.out.2 HC2.out.1 HC2.out.2 (List.Perm.refl _) (by rw [hs];exact List.Pairwise.nil)).symm.trans hs)
    have HO2:=aj (show iI.Own 33 (w.heap.size+1) wr A 0 c [] by have:=HO.out;rw [hs] at this;exact this)
    rw [h0]
    clear hs h0
    go_wp2_with fail
    (with_reducible refine Calls.mono (HZ.out _) ?_)
    rintro e w2 ⟨rfl,rfl⟩
    go_wp2_with fail
    go_ret
    have hR0:R.length=0:=by rw [← List.length_map (f:=au.trace),HE.out];rfl
    exact ⟨A,c,congrArg (fun m=>Ending.returned (Value.slice A m c)) hR0.symm,by rw [HE.out,hR0];exact HO2.out.row,fun k hk=>by rw [hR0] at hk;have:=(HO2.out.from_ k hk).1;omega,Hb.out⟩
   ·obtain ⟨q,rfl,hq1,hq2,hq3⟩:=HO.out.place (by omega)
    have hf:∀ o,wr.frozen? ⟨q,o,none⟩=false:=by
     intro o
     rcases HO.out.2 with ⟨e',_⟩ | ⟨gg,cap,cur,e',_,hh,_⟩
     ·cases e'
     ·injection e' with e1
      injection e1 with e1
      injection e1 with e1
      subst e1
      simp [World.frozen?,hh]
    have hmx:=HO.out.row.max
    have Hs:=aj (Ns.ak4 w.heap.size wr q 0 ss.length c ss wr (Ns.ahC HO.out.row (by omega) hq2 hf) rfl HLe2.out hq3)
    have HQ:=aj (And.intro hq1 (And.intro hq3 hmx))
    clear hf h0 hq1 hq2 hq3 hmx
    go_wp2_with fail
    (with_reducible refine Calls.mono Hs.out ?_)
    rintro e w6 ⟨rfl,ks,hp,hpw,hst⟩
    have HP:=aj (And.intro hp (And.intro hpw hst))
    clear hp hpw hst
    go_wp2_with fail
    go_ret
    have he:=ad6 HR.out.1 HR.out.2 HC2.out.1 HC2.out.2 HP.out.1 HP.out.2.1
    have hl:R.length=ss.length:=by rw [← List.length_map (f:=au.trace),← he,HP.out.1.length_eq]
    have hst:=HP.out.2.2
    refine ⟨some ⟨q,0,none⟩,c,congrArg (fun m=>Ending.returned (Value.slice (some ⟨q,0,none⟩) m c)) hl.symm,?_,fun k hk=>?_,Hb.out.trans (hst.bel)⟩
    ·rw [← he,hl]
     exact Ns.row_of hst HP.out.1.length_eq HQ.out.2.1 HQ.out.2.2
    ·have hk2:q=k:=Option.some.inj hk
     have:=HQ.out.1
     omega
  ·intro x c' kl y ps w1 cnt1 hkey hlx hry hat hrg1 hlt hg1 hs1 hen
   obtain ⟨x',ex,rfl,hx'⟩:=ab4 hkey
   obtain rfl:x=x':=afN ex
   have hhx:=Maps.has_true_of_atKey hat
   have hne:=(HM.out.has x).1 hhx
   have hc':c'=aK (aA R x):=by
    have h1:=HM.out.at_ x hne .nil
    rw [hat] at h1
    unfold Vw.eu at hry
    injection hry with hry
    injection hry with hry _
    rw [← hry] at h1
    injection h1
   have hsm:dH (aA R x) bK=false:=by
    rcases hb:dH (aA R x) bK with _ | _
    ·rfl
    ·exact absurd ((zD _ _).1 hb) hne
   have HCs:=aj (HC.out.step hlx hat)
   have hb1:Below w.heap.size w w1:=Hb.out.trans ⟨hg1.os,hg1.tape,hg1.output,hg1.size,fun i hi=>hg1.block i (by have:=Hb.out.size;omega) (by intro e;injection e with e;omega)⟩
   have HO1:=aj (HO.out.kept hg1 (by
    rcases hA:(Value.slice A ss.length c).ownBlock with _ | k
    ·exact .inl rfl
    ·refine .inr fun e=>?_
     have:=(HO.out.from_ k hA).1
     injection e with e
     omega))
   have Hb2:=aj (hb1.alloc hb1.size (.cells (aQ (aA R x)) 54))
   have HO2:=aj (HO1.out.later ((Below.refl _ _).alloc (Nat.le_refl _) (.cells (aQ (aA R x)) 54)))
   have Hrg:=aj (hrg1.alloc (.cells (aQ (aA R x)) 54))
   have hnq:∀ w:World,(binOp .neq 54 (aK (aA R x)) (.agg #[.int .u64 0,.int .u64 0,.int .u64 0,.int .u64 0,.int .i64 0])).run Tryz.prog w = .ok (.bool true) w:=fun w=>by
    have:=nW (aA R x) bK w
    rw [hsm] at this
    exact this
   subst hc'
   generalize aA R x=r at *
   have HLt:=aj hlt
   have HLe:=aj (hrg.left_eq)
   have hz2:w.heap.size+1≤(w1.alloc (.cells (aQ r) 54)).heap.size:=by
    have:=hrg1.lt
    simp
    omega
   have HZ2:=aj hz2
   have Hb3:=aj (Hb2.out.alloc (by omega) (.cells #[.int .u64 (x:Nat)] 33))
   have HO3:=aj (HO2.out.later ((Below.refl _ _).alloc (Nat.le_refl _) (.cells #[.int .u64 (x:Nat)] 33)))
   have Hrg3:=aj (Hrg.out.alloc (.cells #[.int .u64 (x:Nat)] 33))
   have HLit:=aj (show iI.Row ((w1.alloc (.cells (aQ r) 54)).alloc (.cells #[.int .u64 (x:Nat)] 33)) (some ⟨w1.heap.size+1,0,none⟩) 1 1 [x] from ahG (w1.alloc (.cells (aQ r) 54)) (w1.heap.size+1) x 33 (by simp))
   have HB3:=aj (show w.heap.size+1≤((w1.alloc (.cells (aQ r) 54)).alloc (.cells #[.int .u64 (x:Nat)] 33)).heap.size by simp only [World.size_alloc] at hz2 ⊢;omega)
   have HLen:=aj (show ss.length+1≤1000001 by
    have h1:(R.map au.trace).Nodup:=HR.out.1.nums.imp (fun h=>by omega)
    have h2:ss ⊆ R.map au.trace:=fun y hy=>(uo HR.out.1 HR.out.2 y).2 ((HM.out.has y).1 ((HC.out.2 y).1 hy).1)
    have h3:=acK _ _ HC.out.1 h2
    rw [List.length_map] at h3
    have:=HNn.out
    omega)
   have hsl:ss.length+1≤1000001:=HLen.out
   have hbz:w.heap.size+1≤((w1.alloc (.cells (aQ r) 54)).alloc (.cells #[.int .u64 (x:Nat)] 33)).heap.size:=HB3.out
   have hrw:=Hrg.out.ne
   clear hat hry hkey hrg1 hg1 hs1 hlx hne hhx hsm hb1
   unfold Vw.pF at hen ⊢
   go_wp2_with (at_builtin;refine Enc.amf (E:=iI) (e:=33) rfl (.tmp 21) (.tmp 23) 39 rfl _ 8 Tryz.underlying39 agn rfl (w.heap.size+1) A ss.length c _ rfl HO3.out (some ⟨(w1.heap.size+1),0,none⟩) 1 1 [x] rfl HLit.out (ss.length+1) _ rfl rfl (by omega) (by omega) HB3.out ?_;intro A5 c5 w5 ho5 hb5 hg5 hat5;have HX:=aj (And.intro ho5 (And.intro hb5 (And.intro hg5 hat5)));clear ho5 hb5 hg5 hat5)
   have HK:=aj (Hrg3.out.kept HX.out.2.2.1 (fun e=>by
    have:=(HO3.out.from_ bm e.symm).1
    omega) (fun e=>by
    have:=(HO3.out.from_ w.heap.size e.symm).1
    omega))
   go_roundw
   case rel=>exact ⟨_,cnt1,ss++[x],A5,c5,HK.out,by have:=HLt.out;simp;omega,by rw [List.length_append];rfl,HCs,aj (HX.out.1.at_ (by simp) rfl),aj (Hb3.out.trans (HX.out.2.1.mono (by omega)))⟩
   case measure=>rw [HK.out.left_eq,HLe.out];exact HLt.out
end
end Rp
end Go.Proofs.YtpcmlopbkehffaaGreat
