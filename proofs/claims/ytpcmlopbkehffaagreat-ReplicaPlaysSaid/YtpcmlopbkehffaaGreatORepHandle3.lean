/-
  Handle of a replica that is up.
-/
import Derived.Test.YtpcmlopbkehffaaGreatOGDE
set_option linter.unusedSimpArgs false
set_option linter.unusedVariables false
namespace Go.Proofs.YtpcmlopbkehffaaGreat
open Go.RowKit Rg Bl Re Wl Dsk Fm
namespace Rp
section
variable {B:Nat} {w0 w w':World} {gr gl gd bm:Nat} {X F E:Nat→Prop} {d d':ak} {most:Int} {L L':List FS} {R R':List au} {dn dn':Bool} {N N':Nat}
set_option maxRecDepth 100000 in
set_option maxHeartbeats 16000000 in
theorem af9 (h:bO B w0 w gr gl gd bm X F E d most L R false N) (hu:RUp d most L R N) (p:av) (s:aT) (hp:bP w p s) (hw:p.Wf) (hm:p.spans.length≤1000∧p.members.length≤1000∧p.ids.length≤1000) (hr:dU p=true) (hN:N+2≤1000000) (K:Int→Prop) (hK:K (if dH (dD R p) (aA R p.trace) then 0 else (aL d most L (aU ⟨p.trace,dD R p⟩)).1)) :
  Calls Tryz.prog 11 #[.pointer (some ⟨gr,0,none⟩),aM p s] w (aei B w0 w X E gr gl gd bm most R p N d K):=by
 have HU:=aj hu
 have HNn:=aj hN
 have HKk:=aj hK
 clear hK
 have HOk:=aj (af7 hu.facts.2.2 hw hr)
 have HD:=aj hu.up
 clear hu hN
 obtain ⟨hb,hw1,hw2,hsz⟩:=oU w p s
 obtain ⟨wa,hwa⟩:∃ wa:World,wa=((w.alloc (.cells #[.int .i64 p.kind,.int .u64 (p.trace:Nat),.int .u64 (p.bn:Nat),.int .u64 (p.aZ:Nat),.int .u64 (p.sn:Nat),.int .u64 (p.bM:Nat),.int .i64 p.v,.bool p.ok,.slice s.a1 p.spans.length s.c1,.slice s.a2 p.members.length s.c2,.slice s.a3 p.ids.length s.c3] 41)).alloc (.cells #[.int .i64 0,.int .u64 0,.int .u64 0,.int .u64 0,.int .u64 0,.int .u64 0,.int .i64 0,.bool false,.slice none 0 0,.slice none 0 0,.slice none 0 0] 41)):=⟨_,rfl⟩
 rw [← hwa] at hb hw1 hw2 hsz
 have HWa:=aj hwa
 have HB:=aj hb
 have H1:=aj hw1
 have H2:=aj hw2
 have H:=aj h
 have HN:=aj (qh (h.later hb))
 have HOf:=aj (ahY p s wa (hp.below hb) hw hm hr)
 have HAsk:=aj (And.intro hw (ow hr))
 have e1:=fun (v:Value) (w:World)=>agt v w
 have x0:=hw1.cell 0 (.int .i64 p.kind) rfl
 have x1:=hw1.cell 1 (.int .u64 (p.trace:Nat)) rfl
 have x2:=hw1.cell 2 (.int .u64 (p.bn:Nat)) rfl
 have x3:=hw1.cell 3 (.int .u64 (p.aZ:Nat)) rfl
 have x4:=hw1.cell 4 (.int .u64 (p.sn:Nat)) rfl
 have x5:=hw1.cell 5 (.int .u64 (p.bM:Nat)) rfl
 have x6:=hw1.cell 6 (.int .i64 p.v) rfl
 have x7:=hw1.cell 7 (.bool p.ok) rfl
 have x8:=hw1.cell 8 (.slice s.a1 p.spans.length s.c1) rfl
 have x9:=hw1.cell 9 (.slice s.a2 p.members.length s.c2) rfl
 have x10:=hw1.cell 10 (.slice s.a3 p.ids.length s.c3) rfl
 clear h hp hw hm hr hb hw1 hw2 hsz hwa
 go_enter Tryz.func11,Tryz.ntmps11
 go_wp2_with fail
 try rw [← HWa.out]
 (with_reducible refine Calls.mono HN.out ?_)
 rintro e w1 ⟨rfl,rfl⟩
 go_wp2_with fail
 (with_reducible refine Calls.mono HOf.out ?_)
 rintro e w1 ⟨rfl,hb1⟩
 have hs1:w.heap.size+1<w1.heap.size:=Nat.lt_of_lt_of_le H2.out.lt hb1.size
 have HB1:=aj (show Below w.heap.size w (w1.alloc (.cells #[.int .u64 (p.trace:Nat),.int .u64 (p.bn:Nat),.int .u64 (p.aZ:Nat),.int .i64 p.v] 92)) from (HB.out.trans (hb1.mono HB.out.size)).alloc (by omega) _)
 have H21:=aj ((H2.out.below hb1 H2.out.lt).alloc (.cells #[.int .u64 (p.trace:Nat),.int .u64 (p.bn:Nat),.int .u64 (p.aZ:Nat),.int .i64 p.v] 92))
 have HA1:=aj (aP w1 92 #[.int .u64 (p.trace:Nat),.int .u64 (p.bn:Nat),.int .u64 (p.aZ:Nat),.int .i64 p.v])
 have HL1:=aj (And.intro hs1 (show (w1.alloc (.cells #[.int .u64 (p.trace:Nat),.int .u64 (p.bn:Nat),.int .u64 (p.aZ:Nat),.int .i64 p.v] 92)).heap.size=w1.heap.size+1 by simp))
 clear hb1 x0 x1 x2 x3 x4 x5 x6 x7 x8 x9 x10
 go_wp2_with fail
 generalize hga:w1.heap.size=ga at *
 obtain ⟨wb,hwb⟩:∃ wb:World,wb=w1.alloc (.cells #[.int .u64 (p.trace:Nat),.int .u64 (p.bn:Nat),.int .u64 (p.aZ:Nat),.int .i64 p.v] 92):=⟨_,rfl⟩
 rw [← hwb] at HB1 H21 HA1 HL1 ⊢
 clear hwb hga e1
 have HUp:=aj (qy (H.out.later HB1.out))
 (with_reducible refine Calls.mono HUp.out ?_)
 rintro e w2 (⟨-,-,rfl,rfl⟩ | ⟨e1 | e2,-⟩)
 rotate_left
 ·cases e1
 ·rw [HD.out] at e2;cases e2
 -- what the ask makes of the register
 have HHx:=aj (show dD R p=dD R p from rfl)
 have HAf:=aj (fun (W:World)=>show Calls Tryz.prog 34 #[aK (aA R p.trace),.agg #[.int .u64 (p.trace:Nat),.int .u64 (p.bn:Nat),.int .u64 (p.aZ:Nat),.int .i64 p.v]] W (bT W.heap.size W (.tuple #[aK (dD R p),.bool (iC R p)])) from aew (aA R p.trace) p.trace (gF p) p.v W)
 have HAc:=aj (fun (W:World)=>show Calls Tryz.prog 37 #[.agg #[.int .u64 (p.trace:Nat),.int .u64 (p.bn:Nat),.int .u64 (p.aZ:Nat),.int .i64 p.v]] W (bT W.heap.size W (.bool (decide (p.v≠0)))) from aaB p.trace (gF p) p.v W)
 have HAn:=aj (fun (W:World)=>show Calls Tryz.prog 36 #[aK (dD R p),.int .u64 (p.trace:Nat),.agg #[.int .u64 (p.bn:Nat),.int .u64 (p.aZ:Nat)],.bool (iC R p),.bool (decide (p.v≠0))] W (bT W.heap.size W (wm (eZ (dD R p) p.trace (gF p) (iC R p) (decide (p.v≠0))))) from aeF (dD R p) p.trace (gF p) (iC R p) (decide (p.v≠0)) W)
 have HQ:=aj (show aM (eZ (dD R p) p.trace (gF p) (iC R p) (decide (p.v≠0))) noS=wm (eZ (dD R p) p.trace (gF p) (iC R p) (decide (p.v≠0))) from rfl)
 have S0:aae wb gr bm ga p (aA R p.trace):=⟨(jr (H.out.later HB1.out).whole).2.2.1,HA1.out,fun W hW=>by
  obtain ⟨n,D,hn,hm⟩:=((H.out.later HB1.out).later hW).map
  exact hm.look HAsk.out.1.trace⟩
 have HS0:=aj S0
 have HBr:=aj (Below.refl wb.heap.size wb)
 have c0:=(jr (H.out.later HB1.out).whole).1
 clear S0
 generalize hx:dD R p=x at *
 generalize hg:iC R p=gn at *
 generalize htk:decide (p.v≠0)=tk at *
 generalize hq:eZ x p.trace (gF p) gn tk=q at *
 generalize hold:aA R p.trace=old at *
 have HE:=aj (And.intro hx (And.intro hg (And.intro htk (And.intro hq hold))))
 clear hx hg htk hq hold
 go_upto_region 10 with (fail)
 go_cut [11,12] from 36 to 47 (fun v11 v12 wx=>aah wb 54 x gn v11 v12 wx)
 case first =>
  go_region_held3 (aaf wb gr bm ga p old) (first | (with_reducible assumption) | (with_reducible exact oJ HS0.out hbv) | (with_reducible exact oJ HS0.out (eT hbv (Nat.le_refl _) _ _ _ _ _)) | (with_reducible exact oJ HS0.out (Below.alloc hbv (Below.size hbv) _)) | (with_reducible exact oJ HS0.out (Below.drew (Below.refl _ _))) | (with_reducible exact oJ HS0.out (Below.alloc (Below.drew (Below.refl _ _)) (Nat.le_refl _) _)) | (with_reducible exact oJ HS0.out (Below.drew (Below.alloc (Below.refl _ _) (Nat.le_refl _) _))) | (with_reducible exact oJ HS0.out (Below.alloc (Below.refl _ _) (Nat.le_refl _) _)) | fail)
   (first
    | (go_at_call 34;(with_reducible refine Calls.mono (HAf.out _) ?_);rintro e wp ⟨rfl,hbp⟩;(first | (with_reducible have hbv:=jA HBr.out hbp) | (with_reducible have hbv:=oF HBr.out hbp) | (with_reducible have hbv:=afc HBr.out hbp;with_reducible have hz2:=ad7 hbp;have n0:=hz2.cell 0 (.int .u64 0) rfl;have n1:=hz2.cell 1 (.int .u64 0) rfl;have n2:=hz2.cell 2 (.int .u64 0) rfl;have n3:=hz2.cell 3 (.int .u64 0) rfl;have n4:=hz2.cell 4 (.int .i64 0) rfl;have f0:=hz2.free 0;have f1:=hz2.free 1;have f2:=hz2.free 2;have f3:=hz2.free 3;have f4:=hz2.free 4) | (with_reducible have hbv:=afd HBr.out hbp;with_reducible have hz2:=al8 hbp;have n0:=hz2.cell 0 (.int .u64 0) rfl;have n1:=hz2.cell 1 (.int .u64 0) rfl;have n2:=hz2.cell 2 (.int .u64 0) rfl;have n3:=hz2.cell 3 (.int .u64 0) rfl;have n4:=hz2.cell 4 (.int .i64 0) rfl;have f0:=hz2.free 0;have f1:=hz2.free 1;have f2:=hz2.free 2;have f3:=hz2.free 3;have f4:=hz2.free 4) | (with_reducible have hbv:=afe HBr.out hbp;with_reducible have hz2:=ad7 hbp;have n0:=hz2.cell 0 (.int .u64 0) rfl;have n1:=hz2.cell 1 (.int .u64 0) rfl;have n2:=hz2.cell 2 (.int .u64 0) rfl;have n3:=hz2.cell 3 (.int .u64 0) rfl;have n4:=hz2.cell 4 (.int .i64 0) rfl;have f0:=hz2.free 0;have f1:=hz2.free 1;have f2:=hz2.free 2;have f3:=hz2.free 3;have f4:=hz2.free 4)))
    | fail)
  all_goals
   go_wp2_with fail
   go_meet
   first
    | (with_reducible exact ab3 rfl (Below.size hbv) (aP _ _ _) (Below.alloc hbv (Below.size hbv) _))
    | (with_reducible exact ab3 rfl (Nat.le_refl _) (kD hz2 _ _ _ _ _) (eT hbv (Nat.le_refl _) _ _ _ _ _))
    | fail
 case rest =>
  obtain ⟨gx,rfl,rfl,hgx,hwx,hb⟩:=hcut
  obtain ⟨w2,rfl⟩:∃ w2:World,w2=wc:=⟨_,rfl⟩
  have HB2:=aj (HB1.out.trans (hb.mono HB1.out.size))
  have HW2:=aj hwx
  have HA2:=aj (HA1.out.below hb HA1.out.lt)
  have H22:=aj (H21.out.below hb H21.out.lt)
  have HG:=aj (show w.heap.size+1<ga∧ga<wb.heap.size∧wb.heap.size≤gx from ⟨HL1.out.1,by rw [HL1.out.2];omega,hgx⟩)
  have H2R:=aj (H.out.grown HB2.out)
  obtain ⟨a0,a1,a2,a3⟩:=tT HA2.out
  obtain ⟨k0,k1,k2,k3,k4⟩:=jE hwx
  have HK:=aj (agw H2R.out HU.out p.trace x HOk.out HNn.out K (by rw [HE.out.2.2.2.2];exact HKk.out))
  clear hwx hgx hb c0 HBr HS0 HAf
  go_wp2_with fail
  (with_reducible refine Calls.mono HK.out ?_)
  rintro e w3 ⟨k,d',L',rfl,hro,hp⟩
  clear a0 a1 a2 a3 k0 k1 k2 k3 k4
  have HRo:=aj hro
  have key:∀ {R2:List au} {dn:Bool} {N2:Nat},dh B w0 w2 (dQ X w w2) E gr gl gd bm d' most L' R2 dn N2 w3→Whole w3 (w.heap.size+1) 41 zeroCells∧Whole w3 ga 92 #[.int .u64 (p.trace:Nat),.int .u64 (p.bn:Nat),.int .u64 (p.aZ:Nat),.int .i64 p.v]∧Whole w3 gx 54 (aQ x):=fun hS=>by
   obtain ⟨X5,F5,E5,r1,r2,r3,r4,r5,r6⟩:=hS
   have hz:=HG.out
   exact ⟨H22.out.tn r2 (fun hq=>by have:=H.out.elt _ hq;omega),HA2.out.tn r2 (fun hq=>by have:=H.out.elt _ hq;omega),HW2.out.tn r2 (fun hq=>by have:=H.out.elt _ hq;have:=HB1.out.size;omega)⟩
  have fin:∀ {R2:List au} {dn:Bool} {N2:Nat} {w5 w6:World},dh B w0 w2 (dQ X w w2) E gr gl gd bm d' most L' R2 dn N2 w3→Below w3.heap.size w3 w5→Tn (fun q=>q=w.heap.size+1) w5 w6→dh B w0 w X E gr gl gd bm d' most L' R2 dn N2 w6:=fun hS hb5 t =>
   aj2 hS hb5 t HB2.out (Nat.le_succ _) H22.out.lt H.out.elt H.out.size
  rcases hp with ⟨rfl,hS,hU⟩ | ⟨rfl,hS,hU⟩ | ⟨rfl,hS,hsm,hos⟩
  ·have HS:=aj hS
   have HU3:=aj hU
   have HFi:=aj (fun (w5 w6:World) (hb5:Below w3.heap.size w3 w5) (t:Tn (fun q=>q=w.heap.size+1) w5 w6)=>fin hS hb5 t)
   obtain ⟨z1,z2,z3⟩:=key hS
   have S0:vL w3 (w.heap.size+1) gx x ga p:=⟨z3,z2,z1,by have:=HG.out;omega,by have:=HG.out;omega⟩
   have HS0:=aj S0
   have HBr:=aj (Below.refl w3.heap.size w3)
   clear S0 z1 z2 z3 hS hU key fin hro
   generalize hgq:w.heap.size+1=gq at *
   go_upto_region 14 with (fail)
   go_cut [5] from 57 to 65 (fun v5 wx=>aac w3 gq q v5 wx)
   case first =>
    go_region_held3 (tq w3 gq gx x ga p) (first | (with_reducible assumption) | ((fail_if_success (have hh:=hbw));with_reducible exact xg HS0.out (Below.drew (Below.refl _ _))) | (with_reducible exact hset _ _ _ _ _ _ _ _ _ _ _) | fail)
     (first
      | (go_at_call 37;(with_reducible refine Calls.mono (HAc.out _) ?_);rintro e wo ⟨rfl,hbo⟩;(first | (with_reducible have hbw:=jA HBr.out hbo) | (with_reducible have hbw:=oF HBr.out hbo));have hk0:=xg HS0.out hbw)
      | (go_at_call 36;(with_reducible refine Calls.mono (HAn.out _) ?_);rintro e wp ⟨rfl,hbp⟩;(first | (with_reducible have hbv:=jA hbw hbp) | (with_reducible have hbv:=oF hbw hbp));have hz3:=al6 HS0.out.zero hbv;have m0:=hz3.cell 0 (.int .i64 0) rfl;have m1:=hz3.cell 1 (.int .u64 0) rfl;have m2:=hz3.cell 2 (.int .u64 0) rfl;have m3:=hz3.cell 3 (.int .u64 0) rfl;have m4:=hz3.cell 4 (.int .u64 0) rfl;have m5:=hz3.cell 5 (.int .u64 0) rfl;have m6:=hz3.cell 6 (.int .i64 0) rfl;have m7:=hz3.cell 7 (.bool false) rfl;have m8:=hz3.cell 8 (.slice none 0 0) rfl;have m9:=hz3.cell 9 (.slice none 0 0) rfl;have m10:=hz3.cell 10 (.slice none 0 0) rfl;have g1:=fun i=>hz3.free i;have hk1:=xg HS0.out hbv;have hset:=fun (v0 v1 v2 v3 v4 v5 v6 v7 v8 v9 v10:Value)=>(show tq w3 gq gx x ga p (((((((((((wp.setCell ⟨gq,0,none⟩ v0).setCell ⟨gq,1,none⟩ v1).setCell ⟨gq,2,none⟩ v2).setCell ⟨gq,3,none⟩ v3).setCell ⟨gq,4,none⟩ v4).setCell ⟨gq,5,none⟩ v5).setCell ⟨gq,6,none⟩ v6).setCell ⟨gq,7,none⟩ v7).setCell ⟨gq,8,none⟩ v8).setCell ⟨gq,9,none⟩ v9).setCell ⟨gq,10,none⟩ v10) from afR HS0.out hbv (vw wp gq v0 v1 v2 v3 v4 v5 v6 v7 v8 v9 v10)))
      | fail)
    all_goals
     go_wp2_with fail
     go_meet
     exact afF (vE hz3 _ _ _ _ _ _ _ _ _ _ _) hbv (vw _ _ _ _ _ _ _ _ _ _ _ _ _)
   case rest =>
    obtain ⟨rfl,hwq,w5,hb5,ht5⟩:=hcut
    have HZ:=aj (And.intro hb5 ht5)
    have k0:=hwq.cell 0 (.int .i64 q.kind) rfl
    have k1:=hwq.cell 1 (.int .u64 (q.trace:Nat)) rfl
    have k2:=hwq.cell 2 (.int .u64 (q.bn:Nat)) rfl
    have k3:=hwq.cell 3 (.int .u64 (q.aZ:Nat)) rfl
    have k4:=hwq.cell 4 (.int .u64 (q.sn:Nat)) rfl
    have k5:=hwq.cell 5 (.int .u64 (q.bM:Nat)) rfl
    have k6:=hwq.cell 6 (.int .i64 q.v) rfl
    have k7:=hwq.cell 7 (.bool q.ok) rfl
    have k8:=hwq.cell 8 (.slice none 0 0) rfl
    have k9:=hwq.cell 9 (.slice none 0 0) rfl
    have k10:=hwq.cell 10 (.slice none 0 0) rfl
    clear hwq hb5 ht5
    go_wp2_with fail
    refine bodyPost_ret (v := .tuple #[wm q,.int .i64 0]) (by simp [results,Tryz.results11,go_sem,k0,k1,k2,k3,k4,k5,k6,k7,k8,k9,k10]) rfl ?_
    obtain ⟨rfl,rfl,rfl,rfl,rfl⟩:=HE.out
    exact ⟨0,_,d',L',rfl,HRo.out,.inl ⟨rfl,rfl,HFi.out _ _ HZ.out.1 HZ.out.2,HU3.out⟩⟩
  ·have HS:=aj hS
   have HFi:=aj (fun (w5 w6:World) (hb5:Below w3.heap.size w3 w5) (t:Tn (fun q=>q=w.heap.size+1) w5 w6)=>fin hS hb5 t)
   have HU3:=aj hU
   have H24:=aj (key hS).1
   clear hS hU key fin hro
   have f1:=fun i=>H24.out.free i
   have u0:=H24.out.cell 0 (.int .i64 0) rfl
   have u1:=H24.out.cell 1 (.int .u64 0) rfl
   have u2:=H24.out.cell 2 (.int .u64 0) rfl
   have u3:=H24.out.cell 3 (.int .u64 0) rfl
   have u4:=H24.out.cell 4 (.int .u64 0) rfl
   have u5:=H24.out.cell 5 (.int .u64 0) rfl
   have u6:=H24.out.cell 6 (.int .i64 0) rfl
   have u7:=H24.out.cell 7 (.bool false) rfl
   have u8:=H24.out.cell 8 (.slice none 0 0) rfl
   have u9:=H24.out.cell 9 (.slice none 0 0) rfl
   have u10:=H24.out.cell 10 (.slice none 0 0) rfl
   go_wp2_with fail
   obtain ⟨wz,hz,hwz,htz⟩:=abE H24.out (.int .i64 0) (.int .u64 0) (.int .u64 0) (.int .u64 0) (.int .u64 0) (.int .u64 0) (.int .i64 0) (.bool false) (.slice none 0 0) (.slice none 0 0) (.slice none 0 0)
   rw [← hz]
   have k0:=hwz.cell 0 (.int .i64 0) rfl
   have k1:=hwz.cell 1 (.int .u64 0) rfl
   have k2:=hwz.cell 2 (.int .u64 0) rfl
   have k3:=hwz.cell 3 (.int .u64 0) rfl
   have k4:=hwz.cell 4 (.int .u64 0) rfl
   have k5:=hwz.cell 5 (.int .u64 0) rfl
   have k6:=hwz.cell 6 (.int .i64 0) rfl
   have k7:=hwz.cell 7 (.bool false) rfl
   have k8:=hwz.cell 8 (.slice none 0 0) rfl
   have k9:=hwz.cell 9 (.slice none 0 0) rfl
   have k10:=hwz.cell 10 (.slice none 0 0) rfl
   have HZ:=aj htz
   clear hz hwz htz
   refine bodyPost_ret (v := .tuple #[aM fU noS,.int .i64 9]) (by simp [results,Tryz.results11,go_sem,k0,k1,k2,k3,k4,k5,k6,k7,k8,k9,k10]) rfl ?_
   obtain ⟨rfl,rfl,rfl,rfl,rfl⟩:=HE.out
   exact ⟨9,fU,d',L',rfl,HRo.out,.inr (.inl ⟨rfl,rfl,HFi.out _ _ (Below.refl _ _) HZ.out,HU3.out⟩)⟩
  ·have HS:=aj hS
   have HFi:=aj (fun (w5 w6:World) (hb5:Below w3.heap.size w3 w5) (t:Tn (fun q=>q=w.heap.size+1) w5 w6)=>fin hS hb5 t)
   have HU3:=aj (And.intro hsm hos)
   have H24:=aj (key hS).1
   clear hS hsm hos key fin hro
   have f1:=fun i=>H24.out.free i
   have u0:=H24.out.cell 0 (.int .i64 0) rfl
   have u1:=H24.out.cell 1 (.int .u64 0) rfl
   have u2:=H24.out.cell 2 (.int .u64 0) rfl
   have u3:=H24.out.cell 3 (.int .u64 0) rfl
   have u4:=H24.out.cell 4 (.int .u64 0) rfl
   have u5:=H24.out.cell 5 (.int .u64 0) rfl
   have u6:=H24.out.cell 6 (.int .i64 0) rfl
   have u7:=H24.out.cell 7 (.bool false) rfl
   have u8:=H24.out.cell 8 (.slice none 0 0) rfl
   have u9:=H24.out.cell 9 (.slice none 0 0) rfl
   have u10:=H24.out.cell 10 (.slice none 0 0) rfl
   go_wp2_with fail
   obtain ⟨wz,hz,hwz,htz⟩:=abE H24.out (.int .i64 0) (.int .u64 0) (.int .u64 0) (.int .u64 0) (.int .u64 0) (.int .u64 0) (.int .i64 0) (.bool false) (.slice none 0 0) (.slice none 0 0) (.slice none 0 0)
   rw [← hz]
   have k0:=hwz.cell 0 (.int .i64 0) rfl
   have k1:=hwz.cell 1 (.int .u64 0) rfl
   have k2:=hwz.cell 2 (.int .u64 0) rfl
   have k3:=hwz.cell 3 (.int .u64 0) rfl
   have k4:=hwz.cell 4 (.int .u64 0) rfl
   have k5:=hwz.cell 5 (.int .u64 0) rfl
   have k6:=hwz.cell 6 (.int .i64 0) rfl
   have k7:=hwz.cell 7 (.bool false) rfl
   have k8:=hwz.cell 8 (.slice none 0 0) rfl
   have k9:=hwz.cell 9 (.slice none 0 0) rfl
   have k10:=hwz.cell 10 (.slice none 0 0) rfl
   have HZ:=aj htz
   clear hz hwz htz
   refine bodyPost_ret (v := .tuple #[aM fU noS,.int .i64 10]) (by simp [results,Tryz.results11,go_sem,k0,k1,k2,k3,k4,k5,k6,k7,k8,k9,k10]) rfl ?_
   obtain ⟨rfl,rfl,rfl,rfl,rfl⟩:=HE.out
   exact ⟨10,fU,d',L',rfl,HRo.out,.inr (.inr ⟨rfl,rfl,HFi.out _ _ (Below.refl _ _) HZ.out,HU3.out⟩)⟩
end
end Rp
end Go.Proofs.YtpcmlopbkehffaaGreat
