/-
  A map of registers by their traces.
-/
import Derived.Test.YtpcmlopbkehffaaGreatOGAP
import Derived.Test.YtpcmlopbkehffaaGreatOGBD
import Derived.Test.YtpcmlopbkehffaaGreatOGBL
import Derived.Test.YtpcmlopbkehffaaGreatOGDA
import Derived.Test.YtpcmlopbkehffaaGreatOGDB
import Derived.Test.YtpcmlopbkehffaaGreatOSls
import Derived.Maps.OwnSet
set_option linter.unusedSimpArgs false
set_option linter.unusedVariables false
namespace Go.Proofs.YtpcmlopbkehffaaGreat
open Go.RowKit Rg Bl Re Wl Vw
namespace Rp
theorem aml (w:World):(zeroValue 54).run Tryz.prog w = .ok (aK bK) w:=by kernel_rfl
structure gL (W:World) (b:Nat) (R:List au) (n:Nat) (D:DataW Value):Prop where
 own:W.ownsMap Tryz.prog 33 eu b n D
 has:∀ t:Nat,Maps.has D (ku t)=true ↔ aA R t≠bK
 at_:∀ t:Nat,aA R t≠bK→∀ z,D.atKey (ku t) z = .held (aK (aA R t))
theorem ajW (w:World):gL (w.alloc (.map #[] 0)) w.heap.size [] 0 (.map []) :=
 ⟨World.ownsMap_made _ _ _ _,fun t=>by simp [Maps.has,aA],fun t h=>absurd rfl h⟩
theorem gL.below {W W':World} {b n:Nat} {R:List au} {D:DataW Value} (h:gL W b R n D) (hb:Below W.heap.size W W'):gL W' b R n D:=⟨aiz h.own hb,h.has,h.at_⟩
theorem gL.lt {W:World} {b n:Nat} {R:List au} {D:DataW Value} (h:gL W b R n D):b<W.heap.size:=h.own.lt
theorem aby {v:Value} {ps:List MemPlace} {x:Value} (h:eu v=some (.held x,ps)):v=x:=by
 unfold eu at h
 injection h with h
 injection h with h _
 injection h
theorem gL.look {W:World} {b n:Nat} {R:List au} {D:DataW Value} (h:gL W b R n D) {t:Nat} (ht:t<18446744073709551616) :
  (Instr.lookup 82 (.map (some b)) (.int .u64 (t:Nat)) false).run Tryz.prog W = .ok (aK (aA R t)) W:=by
 obtain ⟨v,ps,hrun,hv⟩:=h.own.lookup (t:=82) rG Tryz.underlying82 (aml W) (zd := .held (aK bK)) (zp:=[]) rfl (xH ht)
 by_cases hz:aA R t=bK
 ·have hf:Maps.has D (ku t)=false:=by
   rcases hb:Maps.has D (ku t) with _ | _
   ·rfl
   ·exact absurd hz ((h.has t).1 hb)
  rw [Maps.atKey_of_not_has hf] at hv
  rw [hrun,aby hv,hz]
 ·rw [h.at_ t hz] at hv
  rw [hrun,aby hv]
theorem gL.put {W W2:World} {b n n2:Nat} {R:List au} {D:DataW Value} {t:Nat} {r:aF} (h:gL W b R n D) (hR:dS R) (hr:r≠bK)
  (ho:W2.ownsMap Tryz.prog 33 eu b n2 (D.put (ku t) (.held (aK r)))):gL W2 b (bJ R t r) n2 (D.put (ku t) (.held (aK r))):=by
 have hkl:Go.WideAt.IsKeyLit (ku t):=by trivial
 refine ⟨ho,fun u=>?_,fun u hu z=>?_⟩
 ·rw [get_put hR]
  by_cases e:t=u
  ·subst e
   rw [Maps.has_put_same h.own.isMap hkl,if_pos rfl]
   exact ⟨fun _=>hr,fun _=>rfl⟩
  ·rw [Maps.has_put_other (xI (fun e'=>e e'.symm)),if_neg e]
   exact h.has u
 ·rw [get_put hR] at hu ⊢
  by_cases e:t=u
  ·subst e
   rw [if_pos rfl]
   exact Maps.atKey_put_same h.own.isMap hkl _ _
  ·rw [if_neg e] at hu ⊢
   rw [Maps.atKey_put_other (xI (fun e'=>e e'.symm))]
   exact h.at_ u hu z
def aeo (w:World) (os:List au) (e:Ending) (w':World):Prop:=∃ b n D,e = .returned (.tuple #[.map (some b),.int .i64 0])∧w.heap.size≤b∧n≤os.length∧gL w' b (bN [] os) n D∧Below w.heap.size w w'
set_option maxRecDepth 100000 in
set_option maxHeartbeats 8000000 in
theorem alO (A:Option Addr) (c:Nat) (os:List au) (w:World) (hok:∀ o∈os,o.Ok) (hs:Sls w A os.length c (os.map aU)) (hm:os.length≤1000000):Calls Tryz.prog 28 #[.slice A os.length c] w (aeo w os):=by
 have hmm:=@run_makeMap Tryz.prog
 have HO:=aj hok
 have HS:=aj hs
 have hcap:=hs.cap
 have hmax:=hs.max
 have HM:=aj hm
 have HB0:=aj ((Below.refl w.heap.size w).alloc (Nat.le_refl _) (.map #[] 0))
 have HR0:=aj (ajW w)
 clear hok hs hm
 go_enter Tryz.func28,Tryz.ntmps28
 go_wp2_with fail
 have hL:(os.length:Int)≤1000000:=by have:=HM.out;omega
 go_loopw [13] (fun vi wr=>∃ (i n:Nat) (D:DataW Value),i≤os.length∧vi = .int .i64 (i:Nat)∧n≤i∧Hid (gL wr w.heap.size (bN [] (os.take i)) n D)∧Hid (Below w.heap.size w wr)) (fun vi _=>os.length-(intOf vi).toNat)
 case atStart=>exact ⟨0,0,_,Nat.zero_le _,rfl,Nat.le_refl _,HR0,HB0⟩
 case round =>
  obtain ⟨i,n,D,hi,rfl,hn,HR,HB⟩:=hrel
  by_cases hlt:i<os.length
  ·obtain ⟨b,off,Ar,nr,cr,rfl,hcell,hsl,-⟩:=(HS.out.below HB.out).at_ (k:=i) (by rw [List.length_map];exact hlt)
   rw [List.getElem_map] at hsl
   have hok:=HO.out _ (List.getElem_mem hlt)
   have HT:=aj (zS [] (os.take i) os[i])
   rw [← List.take_succ_eq_append_getElem hlt] at HT
   have hnr:nr=41:=by rw [← hsl.len];exact yZ _ _
   subst hnr
   have HP:=aj (pY Ar cr os[i].trace os[i].r wr hok hsl)
   have HZ:=aj hok.nz
   have HKey:=aj (xH hok.t1)
   generalize os[i].trace=t at *
   generalize os[i].r=r at *
   have x1:(i:Int)<(os.length:Int):=by omega
   have x2:(0:Int)≤(i:Int):=by omega
   have HK:=aj hlt
   have HN:=aj hn
   clear hlt hok hsl hi
   go_wp2_with fail
   (with_reducible refine Calls.mono HP.out ?_)
   rintro e w3 ⟨rfl,hb3⟩
   have HR3:=aj (HR.out.below hb3)
   have HB3:=aj (HB.out.trans (hb3.mono HB.out.size))
   have HR4:=aj (HR3.out.below ((Below.refl _ _).alloc (Nat.le_refl _) (.cells (aQ r) 54)))
   have HB4:=aj (HB3.out.alloc HB3.out.size (.cells (aQ r) 54))
   have HOw:=aj HR4.out.own
   have hnm:n≤1000000:=by have:=HK.out;have:=HM.out;omega
   clear hb3
   go_wp2_with (first
    | (at_mapUpdate;refine wpList_mapUpdate_own _ rfl _ _ _ 82 rfl 33 54 rG Tryz.underlying82 _ w.heap.size n _ rfl HOw.out (by unfold maxLen;omega) _ _ _ rfl rfl HKey.out (.held (aK r)) [] rfl ?_;intro w6 hm hg;have HX:=aj (And.intro hm hg);clear hm hg)
    | fail)
   have HR6:=aj (HR4.out.put (dS.told List.Pairwise.nil _) HZ.out HX.out.1)
   rw [← HT.out] at HR6
   have HB6:=aj (HB4.out.grown HX.out.2 HB4.out.size (fun k e=>by cases e;exact Nat.le_refl _))
   go_roundw
   case rel=>exact ⟨i+1,n+1,_,by have:=HK.out;omega,by go_num,by have:=HN.out;omega,HR6,HB6⟩
   case measure=>have:=HK.out;simp [intOf];omega
  ·obtain rfl:i=os.length:=by omega
   have HR2:=aj (show gL wr w.heap.size (bN [] os) n D by have:=HR.out;rwa [List.take_of_length_le (Nat.le_refl _)] at this)
   have HN:=aj hn
   clear hlt hi hn
   go_wp2_with fail
   go_ret2
   exact ⟨_,n,D,rfl,Nat.le_refl _,HN.out,HR2.out,HB.out⟩
end Rp
end Go.Proofs.YtpcmlopbkehffaaGreat
namespace Go.Proofs.YtpcmlopbkehffaaGreat
open Go.RowKit Rg Bl Re Wl Dsk Fm Vw
namespace Rp
theorem gL.stands {W W':World} {b n:Nat} {R:List au} {D:DataW Value} (h:gL W b R n D) (hk:W'.heap[b]? = W.heap[b]?):gL W' b R n D:=by
 obtain ⟨es,clock,hb,r⟩:=h.own
 exact ⟨⟨es,clock,hk.trans hb,r⟩,h.has,h.at_⟩
abbrev oO (gd gl bm:Nat) (dn:Bool):Array Value:=#[.pointer (some ⟨gd,0,none⟩),.pointer (some ⟨gl,0,none⟩),.map (some bm),.bool dn]
structure bO (B:Nat) (w0 W:World) (gr gl gd bm:Nat) (X F E:Nat→Prop) (d:ak) (most:Int) (L:List FS) (R:List au) (dn:Bool) (N:Nat):Prop where
 lg:LgB B w0 W gl gd X F d most L
 whole:Whole W gr 88 (oO gd gl bm dn)
 map:∃ n D,n≤N∧gL W bm R n D
 fe:∀ q,F q→E q
 fr:¬ F gr
 fm:¬ F bm
 er:E gr
 em:E bm
 xr:X gr
 xm:X bm
 elt:∀ q,E q→q<W.heap.size
 own:∀ q,E q→B≤q
 ox:∀ q,X q→B≤q
 ne:gr≠bm
section
variable {B:Nat} {w0 w w':World} {gr gl gd bm:Nat} {X F E:Nat→Prop} {d d':ak} {most:Int} {L L':List FS} {R:List au} {dn:Bool} {N N':Nat}
theorem bO.size (h:bO B w0 w gr gl gd bm X F E d most L R dn N):B≤w.heap.size:=h.lg.size
theorem bO.later (h:bO B w0 w gr gl gd bm X F E d most L R dn N) (k:Below w.heap.size w w'):bO B w0 w' gr gl gd bm X F E d most L R dn N:=by
 obtain ⟨n,D,hn,hm⟩:=h.map
 exact ⟨h.lg.later k,h.whole.below k h.whole.lt,⟨n,D,hn,hm.below k⟩,h.fe,h.fr,h.fm,h.er,h.em,h.xr,h.xm,fun q hq=>Nat.lt_of_lt_of_le (h.elt q hq) k.size,h.own,h.ox,h.ne⟩
theorem bO.more (h:bO B w0 w gr gl gd bm X F E d most L R dn N) (hN:N≤N'):bO B w0 w gr gl gd bm X F E d most L R dn N':=by
 obtain ⟨n,D,hn,hm⟩:=h.map
 exact ⟨h.lg,h.whole,⟨n,D,Nat.le_trans hn hN,hm⟩,h.fe,h.fr,h.fm,h.er,h.em,h.xr,h.xm,h.elt,h.own,h.ox,h.ne⟩
def dh (B:Nat) (w0 W0:World) (X0 E0:Nat→Prop) (gr gl gd bm:Nat) (d:ak) (most:Int) (L:List FS) (R:List au) (dn:Bool) (N:Nat) (W:World):Prop :=
 ∃ X F E,bO B w0 W gr gl gd bm X F E d most L R dn N∧Tn E0 W0 W∧(∀ q,E q→E0 q∨W0.heap.size≤q)∧(∀ q,X0 q→X q)∧(∀ q,X q→X0 q∨W0.heap.size≤q)∧∀ q,E0 q→E q
variable {W0:World} {X0 E0:Nat→Prop}
theorem dh.later (h:dh B w0 W0 X0 E0 gr gl gd bm d most L R dn N w) (k:Below w.heap.size w w'):dh B w0 W0 X0 E0 gr gl gd bm d most L R dn N w':=by
 obtain ⟨X,F,E,h1,h2,h3,h4,h5⟩:=h
 exact ⟨X,F,E,h1.later k,h2.iQ k,h3,h4,h5⟩
theorem dh.more (h:dh B w0 W0 X0 E0 gr gl gd bm d most L R dn N w) (hN:N≤N'):dh B w0 W0 X0 E0 gr gl gd bm d most L R dn N' w:=by
 obtain ⟨X,F,E,h1,h2⟩:=h
 exact ⟨X,F,E,h1.more hN,h2⟩
theorem bO.logged {v:Value} {e:Ending} (h:bO B w0 w gr gl gd bm X F E d most L R dn N) (k:fH w gl gd X F v d' most L' e w'):e = .returned v∧∃ X' F' E',bO B w0 w' gr gl gd bm X' F' E' d' most L' R dn N∧Tn E w w'∧(∀ q,E' q→E q∨w.heap.size≤q)∧(∀ q,X q→X' q)∧(∀ q,X' q→X q∨w.heap.size≤q)∧∀ q,E q→E' q:=by
 obtain ⟨he,⟨X',h1,h2,h3⟩,t⟩:=h.lg.post k
 obtain ⟨n,D,hn,hm⟩:=h.map
 have hB:=h.size
 have hs:=t.size
 refine ⟨he,X',_,dQ E w w',⟨h1,h.whole.tn t h.fr,⟨n,D,hn,hm.stands (t.block bm hm.lt h.fm)⟩,fun q hq=>hq.imp (h.fe q) id,fun hq=>?_,fun hq=>?_,.inl h.er,.inl h.em,h3 _ h.xr,h3 _ h.xm,rC h.elt hs,fun q hq=>?_,fun q hq=>?_,h.ne⟩,t.sub h.fe,fun q hq=>hq.imp id And.left,h3,h2,fun q hq => .inl hq⟩
 ·rcases hq with hq | hq
  ·exact h.fr hq
  ·have:=h.whole.lt;omega
 ·rcases hq with hq | hq
  ·exact h.fm hq
  ·have:=hm.lt;omega
 ·rcases hq with hq | hq
  ·exact h.own q hq
  ·omega
 ·rcases h2 q hq with h5 | h5
  ·exact h.ox q h5
  ·omega
theorem dh.on (h:dh B w0 W0 X0 E0 gr gl gd bm d most L R dn N w) {R':List au} {dn':Bool} (k:∀ X F E,bO B w0 w gr gl gd bm X F E d most L R dn N→∃ X' F' E',bO B w0 w' gr gl gd bm X' F' E' d' most L' R' dn' N'∧Tn E w w'∧(∀ q,E' q→E q∨w.heap.size≤q)∧(∀ q,X q→X' q)∧(∀ q,X' q→X q∨w.heap.size≤q)∧∀ q,E q→E' q):dh B w0 W0 X0 E0 gr gl gd bm d' most L' R' dn' N' w':=by
 obtain ⟨X,F,E,h1,h2,h3,h4,h5,h6⟩:=h
 obtain ⟨X',F',E',k1,k2,k3,k4,k5,k6⟩:=k X F E h1
 have hs:=h2.size
 refine ⟨X',F',E',k1,h2.trans k2 h3,fun q hq=>?_,fun q hq=>k4 q (h4 q hq),fun q hq=>?_,fun q hq=>k6 q (h6 q hq)⟩
 ·rcases k3 q hq with h6 | h6
  ·exact h3 q h6
  ·right;omega
 ·rcases k5 q hq with h6 | h6
  ·exact h5 q h6
  ·right;omega
theorem bO.noted (h:bO B w0 w gr gl gd bm X F E d most L R dn N) (dn':Bool):bO B w0 (w.setCell ⟨gr,3,none⟩ (.bool dn')) gr gl gd bm X F E d most L R dn' N∧Tn E w (w.setCell ⟨gr,3,none⟩ (.bool dn')):=by
 obtain ⟨n,D,hn,hm⟩:=h.map
 have t:Tn (fun q=>q=gr) w (w.setCell ⟨gr,3,none⟩ (.bool dn')):=(Tn.refl (fun q=>q=gr) w).set (g:=gr) (.inl rfl) 3 _
 have hw:=h.whole.store 3 (.bool dn')
 obtain ⟨Qd,Pl,P,g,Af,cf,hl,hf⟩:=h.lg.lg
 have hl2:=hl.aside t (fun q hq=>by rw [hq];exact h.xr) (fun q hq hq2=>h.fr (by rw [← hq];exact hf.d q hq2)) (fun q hq hq2=>h.fr (by rw [← hq];exact hf.l q hq2)) (fun i hi q hq hq2=>h.fr (by rw [← hq2];exact hf.p i hi q hq))
 have hs:=t.size
 refine ⟨⟨⟨⟨Qd,Pl,P,g,Af,cf,hl2,hf⟩,t.below h.lg.below (fun q hq=>by rw [hq];exact h.own _ h.er) h.size,h.lg.own,h.lg.base,fun q hq=>Nat.lt_of_lt_of_le (h.lg.flt q hq) hs⟩,hw,⟨n,D,hn,hm.stands (t.block bm hm.lt (Ne.symm h.ne))⟩,h.fe,h.fr,h.fm,h.er,h.em,h.xr,h.xm,fun q hq=>Nat.lt_of_lt_of_le (h.elt q hq) hs,h.own,h.ox,h.ne⟩,t.sub (fun q hq=>by rw [hq];exact h.er)⟩
theorem bO.kept {t:Nat} {r:aF} {n2:Nat} {wl:World} {D:DataW Value} {n:Nat} (h:bO B w0 w gr gl gd bm X F E d most L R dn N) (hR:dS R) (hr:r≠bK) (hm:gL wl bm R n D) (b:Below w.heap.size w wl) (ho:w'.ownsMap Tryz.prog 33 Vw.eu bm n2 (D.put (ku t) (.held (aK r)))) (hg:wl.grownBy w' (some bm)) (hn:n2≤N'):bO B w0 w' gr gl gd bm X F E d most L (bJ R t r) dn N'∧Tn E w w':=by
 have tt:Tn (fun q=>q=bm) w w':=(Tn.of_below b).grown hg (fun j hj=>by injection hj with hj;exact .inl hj.symm)
 obtain ⟨Qd,Pl,P,g,Af,cf,hl,hf⟩:=h.lg.lg
 have hl2:=hl.aside tt (fun q hq=>by rw [hq];exact h.xm) (fun q hq hq2=>h.fm (by rw [← hq];exact hf.d q hq2)) (fun q hq hq2=>h.fm (by rw [← hq];exact hf.l q hq2)) (fun i hi q hq hq2=>h.fm (by rw [← hq2];exact hf.p i hi q hq))
 have hs:=tt.size
 exact ⟨⟨⟨⟨Qd,Pl,P,g,Af,cf,hl2,hf⟩,tt.below h.lg.below (fun q hq=>by rw [hq];exact h.own _ h.em) h.size,h.lg.own,h.lg.base,fun q hq=>Nat.lt_of_lt_of_le (h.lg.flt q hq) hs⟩,h.whole.tn tt h.ne,⟨n2,_,hn,hm.put hR hr ho⟩,h.fe,h.fr,h.fm,h.er,h.em,h.xr,h.xm,fun q hq=>Nat.lt_of_lt_of_le (h.elt q hq) hs,h.own,h.ox,h.ne⟩,tt.sub (fun q hq=>by rw [hq];exact h.em)⟩
theorem jr (h:Whole w gr 88 (oO gd gl bm dn)):w.cell? ⟨gr,0,none⟩=some (.pointer (some ⟨gd,0,none⟩))∧w.cell? ⟨gr,1,none⟩=some (.pointer (some ⟨gl,0,none⟩))∧w.cell? ⟨gr,2,none⟩=some (.map (some bm))∧w.cell? ⟨gr,3,none⟩=some (.bool dn)∧w.frozen? ⟨gr,3,none⟩=false:=⟨h.cell 0 _ rfl,h.cell 1 _ rfl,h.cell 2 _ rfl,h.cell 3 _ rfl,h.free 3⟩
def aao (B:Nat) (w0 w:World) (gd:Nat) (Q G0:Nat→Prop) (most:Int) (L:List FS) (R:List au) (N room:Nat) (e:Ending) (w':World):Prop :=
 ∃ gr gl bm X F E d,e = .returned (.tuple #[.pointer (some ⟨gr,0,none⟩),.int .i64 0])∧bO B w0 w' gr gl gd bm X F E d most L R false N∧RUp d most L R N∧d.armed=false∧d.room=room∧Tn Q w w'∧(∀ q,E q→Q q∨w.heap.size≤q)∧(∀ q,G0 q→X q)∧∀ q,X q→Q q∨G0 q∨w.heap.size≤q
end
end Rp
end Go.Proofs.YtpcmlopbkehffaaGreat
namespace Go.Proofs.YtpcmlopbkehffaaGreat
open Go.RowKit Rg Bl Re Wl Dsk Fm
namespace Rp
theorem aj3 {B:Nat} {w0 w w4 w5 w6:World} {gd gl bm n:Nat} {Q G0 X5 X6:Nat→Prop} {d:ak} {most:Int} {L:List FS} {R:List au} {N:Nat} {D:DataW Value} (h:DkB B w0 w gd Q d) {d1 d6:ak}
  (hb4:Below w.heap.size w w4) (hbm:w.heap.size≤bm) (hm:gL w4 bm R n D) (hn:n≤N) (hGB:∀ q,G0 q→B≤q)
  (l5:LgB B w0 w5 gl gd X5 (dQ Q w4 w5) d1 most L) (t5:Tn Q w4 w5) (x5:∀ q,X5 q→Q q∨(G0 q∨q=bm)∨w4.heap.size≤q) (gx5:∀ q,(G0 q∨q=bm)→X5 q)
  (l6:LgB B w0 w6 gl gd X6 (dQ (dQ Q w4 w5) w5 w6) d6 most L) (t6:Tn (dQ Q w4 w5) w5 w6) (x6:∀ q,X6 q→X5 q∨w5.heap.size≤q) (xx6:∀ q,X5 q→X6 q) :
  ∃ X F E,bO B w0 (w6.alloc (.cells (oO gd gl bm false) 88)) w6.heap.size gl gd bm X F E d6 most L R false N∧Tn Q w (w6.alloc (.cells (oO gd gl bm false) 88))∧(∀ q,E q→Q q∨w.heap.size≤q)∧(∀ q,G0 q→X q)∧∀ q,X q→Q q∨G0 q∨w.heap.size≤q:=by
 have s4:=hb4.size
 have s5:=t5.size
 have s6:=t6.size
 have hB:=h.size
 have hbm4:=hm.lt
 have hQ:∀ q,Q q→q<w.heap.size:=fun q hq=>h.dk.qlt q hq
 have hf5:¬ dQ Q w4 w5 bm:=fun hq=>by
  rcases hq with hq | hq
  ·have:=hQ bm hq;omega
  ·omega
 have hf6:∀ q,dQ (dQ Q w4 w5) w5 w6 q→Q q∨(w4.heap.size≤q∧q<w6.heap.size):=fun q hq=>by
  rcases hq with (hq | hq) | hq
  ·exact .inl hq
  ·right;omega
  ·right;omega
 have hm6:gL w6 bm R n D:=(hm.stands (t5.block bm hbm4 (fun hq=>by have:=hQ bm hq;omega))).stands (t6.block bm (by omega) hf5)
 obtain ⟨o,ho⟩:∃ o,o=Obj.cells (oO gd gl bm false) 88:=⟨_,rfl⟩
 have hba:Below w6.heap.size w6 (w6.alloc o):=(Below.refl _ _).alloc (Nat.le_refl _) o
 have hsa:(w6.alloc o).heap.size=w6.heap.size+1:=by simp
 have hW:=aP w6 88 (oO gd gl bm false)
 rw [← ho] at hW ⊢
 have l7:=l6.later hba
 obtain ⟨Qd,Pl,P,g,Af,cf,hl,hf⟩:=l6.lg
 have hl7:=hl.grow (X2:=fun q=>X6 q∨q=w6.heap.size) hba (fun q hq => .inl hq) (fun q hq=>by
  rcases hq with hq | hq
  ·exact .inl hq
  ·right;rw [hq,hsa];exact ⟨Nat.le_refl _,Nat.lt_succ_self _⟩)
 have hX:∀ q,X6 q→Q q∨G0 q∨w.heap.size≤q:=fun q hq=>by
  rcases x6 q hq with h1 | h1
  ·rcases x5 q h1 with h2 | (h2 | h2) | h2
   ·exact .inl h2
   ·exact .inr (.inl h2)
   ·right;right;omega
   ·right;right;omega
  ·right;right;omega
 have hE:∀ q,(dQ (dQ Q w4 w5) w5 w6 q∨q=w6.heap.size∨q=bm)→Q q∨w.heap.size≤q:=fun q hq=>by
  rcases hq with hq | hq | hq
  ·rcases hf6 q hq with h1 | h1
   ·exact .inl h1
   ·right;omega
  ·right;omega
  ·right;omega
 refine ⟨_,dQ (dQ Q w4 w5) w5 w6,fun q=>dQ (dQ Q w4 w5) w5 w6 q∨q=w6.heap.size∨q=bm,⟨⟨⟨Qd,Pl,P,g,Af,cf,hl7,hf⟩,l7.below,l7.own,l7.base,l7.flt⟩,hW,⟨n,D,hn,hm6.below hba⟩,fun q hq => .inl hq,fun hq=>?_,fun hq=>?_,.inr (.inl rfl),.inr (.inr rfl),.inr rfl,.inl (xx6 _ (gx5 _ (.inr rfl))),fun q hq=>?_,fun q hq=>?_,fun q hq=>?_,?_⟩,?_,hE,fun q hq => .inl (xx6 q (gx5 q (.inl hq))),fun q hq=>?_⟩
 ·rcases hf6 _ hq with h1 | h1
  ·have:=hQ _ h1;omega
  ·omega
 ·rcases hf6 _ hq with h1 | h1
  ·have:=hQ _ h1;omega
  ·omega
 ·rw [hsa]
  rcases hq with hq | hq | hq
  ·rcases hf6 q hq with h1 | h1
   ·have:=hQ q h1;omega
   ·omega
  ·omega
  ·omega
 ·rcases hE q hq with h1 | h1
  ·exact h.own q h1
  ·omega
 ·rcases hq with hq | hq
  ·rcases hX q hq with h1 | h1 | h1
   ·exact h.own q h1
   ·exact hGB q h1
   ·omega
  ·omega
 ·omega
 ·have t4:Tn Q w w4:=Tn.of_below hb4
  have t45:=t4.trans t5 (fun q hq => .inl hq)
  have t456:=t45.trans t6 (fun q hq=>by
   rcases hq with h1 | h1
   ·exact .inl h1
   ·right;omega)
  exact t456.iQ hba
 ·rcases hq with hq | hq
  ·exact hX q hq
  ·right;right;omega
set_option maxRecDepth 20000 in
set_option maxHeartbeats 8000000 in
theorem zo {B:Nat} {w0 w:World} {gd:Nat} {Q:Nat→Prop} {d:ak} (h:DkB B w0 w gd Q d) (hup:d.down=false) {most:Int} (h64:64≤most) (hmx:most≤1048576) {base n base' N U:Nat} {C:Nat→List UInt8} (hd:lI d base n C) {L:List FS} {d1:ak} (eL:jX base n C=L) (eD:gZ d base n C=d1)
  (hl:aH d1 most base' L N U) (h0:L=[]→base'=0) {os:List au} (hr:aC L=os.map aU) (hok:∀ o∈os,o.Ok) (ha:d1.armed=false) (G0:Nat→Prop) (hG:∀ q,G0 q→q<w.heap.size) (hGB:∀ q,G0 q→B≤q) :
  Calls Tryz.prog 10 #[.pointer (some ⟨gd,0,none⟩),.int .i64 most] w (aao B w0 w gd Q G0 most L (bN [] os) N d1.room):=by
 have HTw:=aj (alQ gd Q d w h.dk hup)
 have HH:=aj h
 have HD:=aj hd
 have HL:=aj hl
 have hlen:(aC L).length=os.length:=by rw [hr,List.length_map]
 have HLn:=aj hlen
 have hle:=hl.zl
 have hbig:=hl.big
 have HN:=aj (show os.length≤N∧N≤1000000 by omega)
 have HR:=aj hr
 have HOk:=aj hok
 have HM:=aj (And.intro h64 hmx)
 have HU:=aj hup
 have HG:=aj (And.intro hG hGB)
 have HE:=aj (And.intro eL eD)
 have HA:=aj ha
 have H0:=aj h0
 clear h hd hl hr hok h64 hmx hup hG hGB hlen hle hbig eL eD ha h0
 go_enter Tryz.func10,Tryz.ntmps10
 go_wp2_with fail
 (with_reducible refine Calls.mono HTw.out ?_)
 rintro e w1 ⟨⟨g2,Q2,d2,rfl,hk2,hq2,hu2,hf2⟩,hb1⟩
 have HB1:=aj hb1
 have HS:=aj (gD.twin hk2.ok hu2 HU.out hf2)
 have HK2:=aj (show DkB w.heap.size w w1 g2 Q2 d2 from ⟨hk2,hb1,hq2,Nat.le_refl _⟩)
 have HSo:=aj (HS.out.open_ (base:=base) (n:=n) (C:=C) HH.out.dk.ok)
 rw [HE.out.2] at HSo
 have HLo:=aj (HSo.out.log HL.out)
 have HOp:=aj (acX g2 Q2 (fun _=>False) d2 most HM.out.1 HM.out.2 base n C w1 hk2 (HS.out.disk HD.out) (fun _ h=>h.elim))
 rw [HE.out.1] at HOp
 clear hk2 hq2 hu2 hf2 hb1
 go_wp2_with fail
 (with_reducible refine Calls.mono HOp.out ?_)
 intro e w2 hp
 obtain ⟨gl2,rfl,⟨X2,l2,-⟩,-⟩:=acY HK2.out hp
 have HL2:=aj l2
 have HRe:=aj (l2.records HLo.out)
 rw [HR.out] at HRe
 clear hp l2
 go_wp2_with fail
 (with_reducible refine Calls.mono HRe.out ?_)
 rintro e w3 ⟨A3,c3,rfl,ho3,hb3⟩
 have HB3:=aj (HL2.out.below.trans (hb3.mono HL2.out.size))
 have hml:(os.map aU).length=os.length:=List.length_map _
 rw [hml] at ho3 ⊢
 have HTo:=aj (alO A3 c3 os w3 HOk.out ho3.sls (by have:=HN.out;omega))
 clear ho3 hb3 hml
 go_wp2_with fail
 (with_reducible refine Calls.mono HTo.out ?_)
 rintro e w4 ⟨bm,nm,D,rfl,hbm,hnm,hm,hb4⟩
 have HB4:=aj (HB3.out.trans (hb4.mono HB3.out.size))
 have HMp:=aj (And.intro hbm (And.intro hnm hm))
 have HK4:=aj (HH.out.later (show Below w.heap.size w w4 from HB4.out))
 have HOp4:=aj (acX gd Q (fun q=>G0 q∨q=bm) d most HM.out.1 HM.out.2 base n C w4 HK4.out.dk HD.out (fun q hq=>by
  rcases hq with hq | hq
  ·have:=HG.out.1 q hq;have:=HB4.out.size;omega
  ·rw [hq];exact hm.lt))
 rw [HE.out.1,HE.out.2] at HOp4
 clear hbm hnm hm hb4
 go_wp2_with fail
 (with_reducible refine Calls.mono HOp4.out ?_)
 intro e w5 hp
 obtain ⟨gl,rfl,⟨X5,l5,x5,gx5⟩,t5⟩:=acY HK4.out hp
 have HL5:=aj (And.intro l5 (And.intro x5 (And.intro gx5 t5)))
 have HSy:=aj (l5.sync HL.out)
 clear hp l5 x5 gx5 t5
 go_wp2_with fail
 (with_reducible refine Calls.mono HSy.out ?_)
 rintro e w6 ⟨d6,ok6,ar6,ro6,fast6,hp⟩
 obtain ⟨rfl,⟨X6,l6,x6,xx6⟩,t6⟩:=HL5.out.1.post hp
 have HL6:=aj (And.intro l6 (And.intro x6 (And.intro xx6 t6)))
 have HO6:=aj (And.intro ok6 (And.intro ar6 (And.intro ro6 fast6)))
 clear hp l6 x6 xx6 t6 ok6 ar6 ro6 fast6
 go_wp2_with fail
 go_ret2
 obtain ⟨X,F,E,r1,r2,r3,r4,r5⟩:=aj3 HH.out HB4.out (Nat.le_trans HB3.out.size HMp.out.1) HMp.out.2.2 (Nat.le_trans HMp.out.2.1 HN.out.1) HG.out.2 HL5.out.1 HL5.out.2.2.2 HL5.out.2.1 HL5.out.2.2.1 HL6.out.1 HL6.out.2.2.2 HL6.out.2.1 HL6.out.2.2.1
 have hrup:=RUp.yD HO6.out.1 H0.out HO6.out.2.2.2 HR.out HOk.out
 exact ⟨_,gl,bm,X,F,E,d6,rfl,r1,hrup,HO6.out.2.1.trans HA.out,HO6.out.2.2.1,r2,r3,r4,r5⟩
end Rp
end Go.Proofs.YtpcmlopbkehffaaGreat
namespace Go.Proofs.YtpcmlopbkehffaaGreat
open Go.RowKit Rg Bl Re Wl Dsk Fm
namespace Rp
def tL (w:World) (gr:Nat) (dn dw:Bool) (e:Ending) (w':World):Prop:=(dn=false∧dw=false∧e = .returned (.int .i64 0)∧w=w')∨((dn=true∨dw=true)∧e = .returned (.int .i64 10)∧w'=w.setCell ⟨gr,3,none⟩ (.bool true))
theorem alX {w:World} {gr:Nat} : tL w gr false false (.returned (.int .i64 0)) w := .inl ⟨rfl,rfl,rfl,rfl⟩
theorem alV {w:World} {gr:Nat} {dw:Bool} : tL w gr true dw (.returned (.int .i64 10)) (w.setCell ⟨gr,3,none⟩ (.bool true)) := .inr ⟨.inl rfl,rfl,rfl⟩
theorem alW {w:World} {gr:Nat} {dn:Bool} : tL w gr dn true (.returned (.int .i64 10)) (w.setCell ⟨gr,3,none⟩ (.bool true)) := .inr ⟨.inr rfl,rfl,rfl⟩
section
variable {B:Nat} {w0 w:World} {gr gl gd bm:Nat} {X F E:Nat→Prop} {d:ak} {most:Int} {L:List FS} {R:List au} {dn:Bool} {N:Nat}
set_option maxRecDepth 20000 in
set_option maxHeartbeats 4000000 in
theorem qh (h:bO B w0 w gr gl gd bm X F E d most L R dn N):Calls Tryz.prog 31 #[.pointer (some ⟨gr,0,none⟩)] w (fun e w'=>e = .returned (.bool false)∧w=w'):=by
 obtain ⟨c0,c1,c2,c3,-⟩:=jr h.whole
 clear h
 go_enter Tryz.func31,Tryz.ntmps31
 go_wp2_with fail
 go_ret
 exact ⟨rfl,rfl⟩
set_option maxRecDepth 20000 in
set_option maxHeartbeats 4000000 in
theorem rT (h:Whole w gr 88 (oO gd gl bm dn)) (k:Int):Calls Tryz.prog 48 #[.pointer (some ⟨gr,0,none⟩),.int .i64 k] w (fun e w'=>e = .returned (.int .i64 k)∧w'=w.setCell ⟨gr,3,none⟩ (.bool (dn||decide (k=10)))):=by
 obtain ⟨c0,c1,c2,c3,y3⟩:=jr h
 clear h
 cases dn
 ·by_cases hk:k=10
  ·subst hk
   go_enter Tryz.func48,Tryz.ntmps48
   go_wp2_with fail
   go_ret
   exact ⟨rfl,rfl⟩
  ·have e1:(k==10)=false:=beq_eq_false_iff_ne.2 hk
   have HD:=aj (show (false||decide (k=10))=false by rw [decide_eq_false hk];rfl)
   clear hk
   go_enter Tryz.func48,Tryz.ntmps48
   go_wp2_with fail
   go_ret
   exact ⟨rfl,by rw [HD.out]⟩
 ·go_enter Tryz.func48,Tryz.ntmps48
  go_wp2_with fail
  go_ret
  exact ⟨rfl,rfl⟩
set_option maxRecDepth 20000 in
set_option maxHeartbeats 4000000 in
theorem qy (h:bO B w0 w gr gl gd bm X F E d most L R dn N):Calls Tryz.prog 33 #[.pointer (some ⟨gr,0,none⟩)] w (tL w gr dn d.down):=by
 obtain ⟨c0,c1,c2,c3,y3⟩:=jr h.whole
 have HNo:=aj (rT h.whole 10)
 rw [show (dn||decide ((10:Int)=10))=true by cases dn <;> rfl] at HNo
 obtain ⟨Qd,Pl,P,g,Af,cf,hl,-⟩:=h.lg.lg
 have HDn:=aj (oG gd Qd d w hl.dk)
 clear h hl
 cases dn
 ·cases hd:d.down
  ·rw [hd] at HDn
   clear hd
   go_enter Tryz.func33,Tryz.ntmps33
   go_wp2_with fail
   (with_reducible refine Calls.mono HDn.out ?_)
   rintro e w1 ⟨rfl,rfl⟩
   go_wp2_with fail
   go_ret
   exact alX
  ·rw [hd] at HDn
   clear hd
   go_enter Tryz.func33,Tryz.ntmps33
   go_wp2_with fail
   (with_reducible refine Calls.mono HDn.out ?_)
   rintro e w1 ⟨rfl,rfl⟩
   go_wp2_with fail
   (with_reducible refine Calls.mono HNo.out ?_)
   rintro e w1 ⟨rfl,rfl⟩
   go_wp2_with fail
   go_ret
   exact alW
 ·go_enter Tryz.func33,Tryz.ntmps33
  go_wp2_with fail
  (with_reducible refine Calls.mono HNo.out ?_)
  rintro e w1 ⟨rfl,rfl⟩
  go_wp2_with fail
  go_ret
  exact alV
set_option maxRecDepth 20000 in
set_option maxHeartbeats 4000000 in
theorem adl (h:bO B w0 w gr gl gd bm X F E d most L R dn N) {t:Nat} (ht:t<18446744073709551616):Calls Tryz.prog 17 #[.pointer (some ⟨gr,0,none⟩),.int .u64 (t:Nat)] w (bT w.heap.size w (aK (aA R t))):=by
 have hb:Below w.heap.size w (w.alloc (.cells #[.int .u64 0,.int .u64 0,.int .u64 0,.int .u64 0,.int .i64 0] 54)):=(Below.refl _ _).alloc (Nat.le_refl _) _
 have HN:=aj (qh (h.later hb))
 obtain ⟨c0,c1,c2,c3,-⟩:=jr (h.later hb).whole
 obtain ⟨n,D,hn,hm⟩:=(h.later hb).map
 have hlk:=hm.look ht
 have HW:=aj (aP w 54 #[.int .u64 0,.int .u64 0,.int .u64 0,.int .u64 0,.int .i64 0])
 have HB:=aj hb
 generalize aA R t=r at *
 obtain ⟨wa,hwa⟩:∃ wa:World,wa=w.alloc (.cells #[.int .u64 0,.int .u64 0,.int .u64 0,.int .u64 0,.int .i64 0] 54):=⟨_,rfl⟩
 rw [← hwa] at HN c0 c1 c2 c3 hlk HW HB
 have HWa:=aj hwa
 clear h hm ht hb
 go_enter Tryz.func17,Tryz.ntmps17
 go_wp2_with fail
 try rw [← HWa.out]
 clear hwa
 (with_reducible refine Calls.mono HN.out ?_)
 rintro e w1 ⟨rfl,rfl⟩
 have f1:=fun i=>HW.out.free i
 have u0:=HW.out.cell 0 (.int .u64 0) rfl
 have u1:=HW.out.cell 1 (.int .u64 0) rfl
 have u2:=HW.out.cell 2 (.int .u64 0) rfl
 have u3:=HW.out.cell 3 (.int .u64 0) rfl
 have u4:=HW.out.cell 4 (.int .i64 0) rfl
 go_wp2_with fail
 have HW2:=aj (kD HW.out (.int .u64 (r.p.pos:Nat)) (.int .u64 (r.p.id:Nat)) (.int .u64 (r.t.pos:Nat)) (.int .u64 (r.t.id:Nat)) (.int .i64 r.v))
 have k0:=HW2.out.cell 0 (.int .u64 (r.p.pos:Nat)) rfl
 have k1:=HW2.out.cell 1 (.int .u64 (r.p.id:Nat)) rfl
 have k2:=HW2.out.cell 2 (.int .u64 (r.t.pos:Nat)) rfl
 have k3:=HW2.out.cell 3 (.int .u64 (r.t.id:Nat)) rfl
 have k4:=HW2.out.cell 4 (.int .i64 r.v) rfl
 exact bodyPost_ret (v:=aK r) (by simp [results,Tryz.results17,go_sem,k0,k1,k2,k3,k4]) rfl (bH rfl (eT HB.out (Nat.le_refl _) _ _ _ _ _))
theorem RUp.adh {d:ak} {most:Int} {L:List FS} {R:List au} {N:Nat} (h:RUp d most L R N):(aC L).length≤N:=by
 obtain ⟨base,hl,-⟩:=h.gY
 exact hl.zl
set_option maxRecDepth 20000 in
set_option maxHeartbeats 4000000 in
theorem ajs (h:bO B w0 w gr gl gd bm X F E d most L R dn N) (hu:RUp d most L R N):Calls Tryz.prog 71 #[.pointer (some ⟨gr,0,none⟩)] w (bT w.heap.size w (.int .i64 ((aC L).length:Nat))):=by
 have HN:=aj (qh h)
 obtain ⟨c0,c1,c2,c3,-⟩:=jr h.whole
 obtain ⟨base,hl,-⟩:=hu.gY
 have HR:=aj (h.lg.records hl)
 clear h hl hu
 go_enter Tryz.func71,Tryz.ntmps71
 go_wp2_with fail
 (with_reducible refine Calls.mono HN.out ?_)
 rintro e w1 ⟨rfl,rfl⟩
 go_wp2_with fail
 (with_reducible refine Calls.mono HR.out ?_)
 rintro e w1 ⟨A,c,rfl,ho,hb⟩
 have HB:=aj hb
 clear ho hb
 go_wp2_with fail
 go_ret
 exact bH rfl HB.out
abbrev aaV (t:Nat) (b:aY) (v:Int):Value := .agg #[.int .u64 (t:Nat),.int .u64 (b.pos:Nat),.int .u64 (b.id:Nat),.int .i64 v]
set_option maxRecDepth 20000 in
set_option maxHeartbeats 4000000 in
theorem aaB (t:Nat) (b:aY) (v:Int) (w:World):Calls Tryz.prog 37 #[aaV t b v] w (bT w.heap.size w (.bool (decide (v≠0)))):=by
 have HB:=aj ((Below.refl w.heap.size w).alloc (Nat.le_refl _) (.cells #[.int .u64 (t:Nat),.int .u64 (b.pos:Nat),.int .u64 (b.id:Nat),.int .i64 v] 92))
 have e1:(v != 0)=decide (v≠0):=acE v 0
 go_enter Tryz.func37,Tryz.ntmps37
 go_wp2_with fail
 go_ret
 exact bH (by simp [e1]) HB.out
def iW (r:aF) (b:aY) (v:Int):aF:=if v=0 then jZ r b else jO r b v
def jB (r:aF) (b:aY) (v:Int):Bool:=if v=0 then !fE r b else fu r b v
end
end Rp
end Go.Proofs.YtpcmlopbkehffaaGreat
namespace Go.Proofs.YtpcmlopbkehffaaGreat
open Go.RowKit Rg Bl Re Wl Dsk Fm
namespace Rp
def iy (d:ak) (most:Int) (L:List FS) (R os1:List au) (N:Nat):Prop :=
 ∃ (base c:Nat) (os:List au) (s:Nat),Lay d most base L c s N∧jN L c∧(L=[]→base=0)∧aC L=(os++os1).map aU∧(∀ o∈os++os1,o.Ok)∧s≤os.length∧o8 os s R∧d.down=false
def lK (d:ak) (most:Int) (R os1:List au) (N:Nat):Prop :=
 d.down=true∧∃ (base:Nat) (M:List FS) (c:Nat) (os:List au) (s:Nat),Lay d most base M c s N∧(M=[]→base=0)∧aC M=(os++os1).map aU∧(∀ o∈os++os1,o.Ok)∧s≤os.length∧o8 os s R
theorem RUp.l {d:ak} {most:Int} {L:List FS} {R:List au} {N:Nat} (h:RUp d most L R N):iy d most L R [] N:=by
 obtain ⟨base,c,os,s,h1,h2,h3,h4,h5,h6,h7,h8⟩:=h
 exact ⟨base,c,os,s,h1,h2,h3,by rw [List.append_nil];exact h4,by rw [List.append_nil];exact h5,h6,h7,h8⟩
theorem iy.up {d:ak} {most:Int} {L:List FS} {R os1:List au} {N:Nat} (h:iy d most L R os1 N) (hT:∀ j,j≤os1.length→bN R (os1.take j)=R):RUp d most L R N:=by
 obtain ⟨base,c,os,s,h1,h2,h3,h4,h5,h6,h7,h8⟩:=h
 refine ⟨base,c,os++os1,s,h1,h2,h3,h4,h5,by rw [List.length_append];omega,fun t t1 t2=>?_,h8⟩
 rw [List.length_append] at t2
 by_cases e:t≤os.length
 ·rw [List.take_append_of_le_length e]
  exact h7 t t1 e
 ·rw [List.take_append,List.take_of_length_le (by omega),zR]
  have h9:=h7 os.length h6 (Nat.le_refl _)
  rw [List.take_length] at h9
  rw [h9]
  exact hT _ (by omega)
theorem iy.gY {d:ak} {most:Int} {L:List FS} {R os1:List au} {N:Nat} (h:iy d most L R os1 N):∃ base,aH d most base L N 1048576∧(L=[]→base=0):=by
 obtain ⟨base,c,os,s,h1,h2,h3,h4,h5,h6,h7,h8⟩:=h
 exact ⟨base,h1.gY h8 h2,h3⟩
inductive tJ (d:ak) (most:Int) (R os1:List au) (N:Nat) (o:au) (L:List FS):Int→ak→List FS→Prop
 | full {d':ak} : iy d' most L R os1 N→d'.room=d.room→tJ d most R os1 N o L 9 d' L
 | came {d':ak} {L':List FS} : iy d' most L' R (os1++[o]) (N+1)→d'.room=d.room→aC L'=aC L++[aU o]→aS L'=aS L→tJ d most R os1 N o L 0 d' L'
 | fell {d':ak} : lK d' most R (os1++[o]) (N+1)→d'.room=d.room→tJ d most R os1 N o L 10 d' L
theorem abH {d:ak} {L:List FS} {num first:Nat} {r:List UInt8} (hf:L=[]→first=0):aS (dK d L num first r).2.2=aS L:=by
 unfold dK
 rcases L with _ | ⟨f,L⟩
 ·rw [hf rfl]
  simp only
  split <;> rfl
 ·simp only
  split <;> rfl
theorem afY {d:ak} {most:Int} {L:List FS} {r:List UInt8} : aS (aL d most L r).2.2=aS L:=by
 have hb:aS (cB d L r).2.2=aS L:=by
  unfold cB
  split
  ·rfl
  ·rcases hg:L.getLast? with _ | f
   ·exact abH (fun _=>rfl)
   ·simp only
    split
    ·exact abH (fun e=>by rw [e] at hg;cases hg)
    ·rfl
 unfold aL
 rcases hg:L.getLast? with _ | f
 ·exact hb
 ·simp only
  split
  ·exact hb
  ·simp only
   split
   ·rcases L with _ | ⟨f0,L⟩
    ·cases hg
    ·rcases L with _ | ⟨f1,L⟩
     ·have e:f0=f:=by simpa using hg
      subst e
      rfl
     ·rfl
   ·rfl
theorem wu (d:ak) (x:Int) (b:List UInt8):(bX d x b).armed=d.armed:=by
 unfold bX
 repeat' split
 all_goals rfl
theorem adZ (d:ak) (x:Int):(eF d x).armed=d.armed:=by
 unfold eF
 split <;> rfl
theorem aeH (d:ak) (most:Int) (L:List FS) (r:List UInt8):(aL d most L r).2.1.armed=d.armed:=by
 have hb:(cB d L r).2.1.armed=d.armed:=by
  unfold cB
  split
  ·rfl
  ·rcases L.getLast? with _ | f
   ·exact wu _ _ _
   ·simp only
    split
    ·exact (wu _ _ _).trans (adZ _ _)
    ·rfl
 unfold aL
 rcases L.getLast? with _ | f
 ·exact hb
 ·simp only
  split
  ·exact hb
  ·exact wu _ _ _
theorem wD {d:ak} (h:d.down=false) (ha:d.armed=false) (x:Int) (n:Nat):bU d x n≠10:=by
 unfold bU takeN
 rw [h,ha]
 repeat' split
 all_goals first | (intro e;omega) | simp_all
theorem aeK {d:ak} (h:d.down=false) (ha:d.armed=false) (most:Int) (L:List FS) (r:List UInt8):(aL d most L r).1≠10:=by
 have hb:(cB d L r).1≠10:=by
  unfold cB
  split
  ·exact (show (9:Int)≠10 by decide)
  ·rcases L.getLast? with _ | f
   ·exact wD h ha _ _
   ·simp only
    split
    ·refine wD ?_ ((adZ _ _).trans ha) _ _
     unfold eF
     split <;> exact h
    ·unfold bE
     rw [h]
     simp only [Bool.false_eq_true,if_false]
     split <;> decide
 unfold aL
 rcases L.getLast? with _ | f
 ·exact hb
 ·simp only
  split
  ·exact hb
  ·exact wD h ha _ _
def Rm (d d':ak) (K:Int→Prop) (k:Int):Prop:=d'.room=d.room∧d'.armed=d.armed∧(d.armed=false→k≠10)∧K k
theorem Rm.mono {d d':ak} {K K':Int→Prop} {k:Int} (h:Rm d d' K k) (hz:K k→K' k):Rm d d' K' k:=⟨h.1,h.2.1,h.2.2.1,hz h.2.2.2⟩
def qF (d:ak) (most:Int) (L:List FS) (os:List au) (k:Int):Prop:=∀ o,os=[o]→k=(aL d most L (aU o)).1
theorem iy.append {d:ak} {most:Int} {L:List FS} {R os1:List au} {N:Nat} (h:iy d most L R os1 N) (o:au) (ho:o.Ok) (hN:N<1000000):tJ d most R os1 N o L (aL d most L (aU o)).1 (aL d most L (aU o)).2.1 (aL d most L (aU o)).2.2:=by
 obtain ⟨base,c,os,s,h1,h2,h3,h4,h5,h6,h7,h8⟩:=h
 have ha:=h1.append h8 h2 h3 (aU o) (by rw [p9];omega) hN
 have hall:∀ x∈os++(os1++[o]),x.Ok:=fun x hx=>by
  rw [← List.append_assoc] at hx
  rcases List.mem_append.1 hx with hx | hx
  ·exact h5 x hx
  ·rw [List.mem_singleton.1 hx];exact ho
 have hmap:(os++(os1++[o])).map aU=(os++os1).map aU++[aU o]:=by rw [← List.append_assoc,List.map_append];rfl
 have hfst:=afY (d:=d) (most:=most) (L:=L) (r:=aU o)
 generalize aL d most L (aU o)=A at *
 obtain ⟨k,d',L'⟩:=A
 simp only at ha hfst ⊢
 cases ha with
 | full u1 u2 u3 u4=>exact .full ⟨base,_,os,s,u4,u3,h3,h4,h5,h6,h7,u1⟩ u2
 | came u1 u2 u3 u4 u5 u6=>exact .came ⟨base,_,os,s,u4,u3,fun e=>absurd e u6,by rw [u5,h4,hmap],hall,h6,h7,u1⟩ u2 u5 hfst
 | fell u1 u2 u3 u4 u5 u6 =>
   refine .fell ⟨u1,base,_,_,os,s,u3,fun e=>?_,by rw [u4,h4,hmap],hall,h6,h7⟩ u2
   rw [e] at u4
   have:=congrArg List.length u4
   simp [aC] at this
theorem iy.synced {d d':ak} {most:Int} {L:List FS} {R os1:List au} {N base U:Nat} (h:iy d most L R os1 N) (hl:aH d' most base L N U) (h0:L=[]→base=0) (k:iR d' base L):RUp d' most L (bN R os1) N:=by
 obtain ⟨base1,c,os,s,h1,h2,h3,h4,h5,h6,h7,h8⟩:=h
 have h9:=RUp.yD hl h0 k h4 h5
 rw [zR] at h9
 have e:=h7 os.length h6 (Nat.le_refl _)
 rw [List.take_length] at e
 rwa [e] at h9
theorem aly {os os1 R:List au} {s:Nat} (h6:s≤os.length) (h7:o8 os s R) {t:Nat} (t1:s≤t) (t2:t≤(os++os1).length):∃ j,j≤os1.length∧bN [] ((os++os1).take t)=bN R (os1.take j):=by
 rw [List.length_append] at t2
 by_cases e:t≤os.length
 ·exact ⟨0,Nat.zero_le _,by rw [List.take_append_of_le_length e,h7 t t1 e];rfl⟩
 ·refine ⟨t-os.length,by omega,?_⟩
  rw [List.take_append,List.take_of_length_le (by omega),zR]
  have h9:=h7 os.length h6 (Nat.le_refl _)
  rw [List.take_length] at h9
  rw [h9]
theorem ad5 {R:List au} (h:dS R) (hz:fA R) (j:Nat):bN R (R.take j)=R:=by
 refine uX (h.told _) h (fA.told hz _ (fun o ho=>hz o (List.mem_of_mem_take ho))) hz (fun t=>?_)
 rw [uw h]
 split
 ·rename_i o hf
  have h1:=List.mem_of_find?_eq_some hf
  have h2:=List.find?_some hf
  simp only [decide_eq_true_eq] at h2
  have h3:o∈R:=List.mem_of_mem_take (List.mem_reverse.1 h1)
  rw [← h2,get_mem h h3]
 ·rfl
theorem alP {R os:List au} (hR:bN [] os=R) (hz:∀ o∈os,o.r≠bK) (f:Nat):bN [] (os.drop f++R)=R:=by
 have hn:dS ([]:List au):=List.Pairwise.nil
 have h:dS R:=by rw [← hR];exact hn.told os
 have hzR:fA R:=by rw [← hR];exact fA.told (fun o ho=>by cases ho) os hz
 refine uX (hn.told _) h (fA.told (fun o ho=>by cases ho) _ (fun o ho=>?_)) hzR (fun t=>?_)
 ·rcases List.mem_append.1 ho with ho | ho
  ·exact hz o (List.mem_of_mem_drop ho)
  ·exact hzR o ho
 ·rw [uw hn,List.reverse_append,List.find?_append]
  cases hf:R.reverse.find? (fun o=>decide (o.trace=t)) with
  | none =>
    have hR0 : aA R t=bK:=by
     have h1:=uw hn t R
     rw [hf] at h1
     have h2 : bN [] R=R:=by
      have : ∀ (A S:List au),dS (A++S)→bN A S=A++S:=by
       intro A S
       induction S generalizing A with
       | nil=>intro _;simp [bN]
       | cons o S ih =>
         intro hr
         have e1:bJ A o.trace o.r=A++[o]:=by
          clear ih
          have hlt:∀ a∈A,a.trace<o.trace:=fun a ha=>by
           have:=(List.pairwise_append.1 hr).2.2 a ha o (by simp)
           exact this
          clear hr
          induction A with
          | nil=>cases o;rfl
          | cons a A ih2 =>
            unfold bJ
            rw [if_pos (hlt a (by simp)),ih2 (fun x hx=>hlt x (by simp [hx]))]
            rfl
         show bN (bJ A o.trace o.r) S=_
         rw [e1,ih _ (by rw [List.append_assoc];exact hr),List.append_assoc]
         rfl
      exact this [] R h
     rw [h2] at h1
     exact h1
    simp only [Option.none_or]
    rw [hR0]
    cases hg:(os.drop f).reverse.find? (fun o=>decide (o.trace=t)) with
    | none=>rfl
    | some o =>
      exfalso
      have h1:=List.mem_of_find?_eq_some hg
      have h2:=List.find?_some hg
      simp only [decide_eq_true_eq] at h2
      have h3:o∈os:=List.mem_of_mem_drop (List.mem_reverse.1 h1)
      have h4:=uw hn t os
      rw [hR,hR0] at h4
      cases hg2:os.reverse.find? (fun o=>decide (o.trace=t)) with
      | none =>
        have:=List.find?_eq_none.1 hg2 o (List.mem_reverse.2 h3)
        simp [h2] at this
      | some x =>
        rw [hg2] at h4
        have h5:=List.mem_of_find?_eq_some hg2
        exact hz x (List.mem_reverse.1 h5) h4.symm
  | some o =>
    simp only [Option.some_or]
    have h1:=List.mem_of_find?_eq_some hf
    have h2:=List.find?_some hf
    simp only [decide_eq_true_eq] at h2
    rw [← h2,get_mem h (List.mem_reverse.1 h1)]
end Rp
end Go.Proofs.YtpcmlopbkehffaaGreat
