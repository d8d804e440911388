/-
  A log whose last file was written to, or that has one file more.
-/
import Derived.Test.YtpcmlopbkehffaaGreatOGAF
import Derived.Test.YtpcmlopbkehffaaGreatOGAI
set_option linter.unusedSimpArgs false
set_option linter.unusedVariables false
namespace Go.Proofs.YtpcmlopbkehffaaGreat
open Go.RowKit Fm Dsk
namespace Wl
def lu (P:Nat→Nat→Prop) (m:Nat) (Q:Nat→Prop):Nat→Nat→Prop:=fun i=>if i=m then Q else P i
def mE (g:Nat→Nat) (m x:Nat):Nat→Nat:=fun i=>if i=m then x else g i
theorem iK (P:Nat→Nat→Prop) (m:Nat) (Q:Nat→Prop):lu P m Q m=Q:=by simp [lu]
theorem gP (P:Nat→Nat→Prop) {m i:Nat} (Q:Nat→Prop) (h:i≠m):lu P m Q i=P i:=by simp [lu,h]
theorem oV (g:Nat→Nat) (m x:Nat):mE g m x m=x:=by simp [mE]
theorem nZ (g:Nat→Nat) {m i:Nat} (x:Nat) (h:i≠m):mE g m x i=g i:=by simp [mE,h]
theorem dO.wrote {w w':World} {X P0 Pi Qd Qd' X' P':Nat→Prop} {g0 gd gi:Nat} {d':ak} {f' fi:FS} (h:dO w X Pi gi fi) (hw:Wr w w' g0 gd Qd X P0 d' f' Qd' X' P') (hp:∀ q,Pi q→¬ P0 q) (hq:∀ q,Pi q→¬ Qd q) (h0:∀ q,P0 q→X q) (hx:∀ q,Qd q→X q):dO w' X' Pi gi fi :=
 (h.more hw.x (fun q hq2=>hw.xx q (h.px q hq2))).tn hw.tn (fun q hq2 hq3=>by
  rcases hq3 with h1 | h1
  ·exact hp q hq2 h1
  ·exact hq q hq2 h1) (fun q hq3=>by
  rcases hq3 with h1 | h1
  ·exact .inl (hw.xx q (h0 q h1))
  ·exact .inl (hw.xx q (hx q h1)))
theorem d9.snoc {F Qd Pl Pl' P0:Nat→Prop} {P:Nat→Nat→Prop} {L:List FS} (h:d9 F Qd Pl P L) (k:∀ q,P0 q→F q) (k2:∀ q,Pl' q→F q) (f:FS):d9 F Qd Pl' (lu P L.length P0) (L++[f]):=by
 refine ⟨h.d,k2,fun i hi q hq=>?_⟩
 rw [List.length_append,List.length_singleton] at hi
 by_cases e:i=L.length
 ·subst e
  rw [iK] at hq
  exact k q hq
 ·rw [gP _ _ e] at hq
  exact h.p i (by omega) q hq
theorem d9.set {F Qd Pl P0:Nat→Prop} {P:Nat→Nat→Prop} {L:List FS} (h:d9 F Qd Pl P L) (k:∀ q,P0 q→F q) (m:Nat) (f:FS):d9 F Qd Pl (lu P m P0) (L.set m f):=by
 refine ⟨h.d,h.l,fun i hi q hq=>?_⟩
 rw [List.length_set] at hi
 by_cases e:i=m
 ·subst e
  rw [iK] at hq
  exact k q hq
 ·rw [gP _ _ e] at hq
  exact h.p i hi q hq
section
variable {w w':World} {gl gd:Nat} {Qd X Pl Qd' X' P':Nat→Prop} {P:Nat→Nat→Prop} {g:Nat→Nat} {Af:Option Addr} {cf:Nat} {d d':ak} {most:Int} {L:List FS}
theorem bB.aed (h:bB w gl gd Qd X Pl P g Af cf d most L) {m:Nat} (hm:m<L.length) {f':FS} (hw:Wr w w' (g m) gd Qd X (P m) d' f' Qd' X' P'):bB w' gl gd Qd' X' Pl (lu P m P') g Af cf d' most (L.set m f'):=by
 have hplm:∀ q,Pl q→¬ (P m q∨Qd q):=fun q h1 h2=>by
  rcases h2 with h2 | h2
  ·exact h.plp m hm q h2 h1
  ·exact h.pld q h1 h2
 have hPX:∀ q,P m q→X q:=(h.fs m hm).px
 have hnew:∀ q,P' q→P m q∨w.heap.size≤q:=hw.p
 refine ⟨hw.dk,hw.qx,hw.xlt,?_,?_,?_,h.plg,h.pla,fun q hq=>hw.xx q (h.plx q hq),fun q hq hq2=>?_,?_,?_,?_⟩
 ·rw [List.length_set]
  exact h.whole.tn hw.tn (hplm gl h.plg)
 ·rw [List.length_set]
  exact h.row.stands (fun k hk=>hw.tn.block k (h.row.dB k hk) (hplm k (h.pla k hk)))
 ·intro i hi
  rw [List.length_set] at hi
  by_cases e:i=m
  ·subst e
   rw [iK]
   simpa using hw.fs
  ·rw [gP _ _ e,List.getElem_set_ne (Ne.symm e)]
   exact (h.fs i hi).wrote hw (h.pp i m hi hm e) (h.pd i hi) hPX h.dx
 ·rcases hw.q q hq2 with h1 | h1
  ·exact h.pld q hq h1
  ·have:=h.xlt q (h.plx q hq);omega
 ·intro i hi q hq hq2
  rw [List.length_set] at hi
  by_cases e:i=m
  ·subst e
   rw [iK] at hq
   rcases hnew q hq with h1 | h1
   ·exact h.plp i hi q h1 hq2
   ·have:=h.xlt q (h.plx q hq2);omega
  ·rw [gP _ _ e] at hq
   exact h.plp i hi q hq hq2
 ·intro i hi q hq hq2
  rw [List.length_set] at hi
  by_cases e:i=m
  ·subst e
   rw [iK] at hq
   exact hw.ap q hq hq2
  ·rw [gP _ _ e] at hq
   rcases hw.q q hq2 with h1 | h1
   ·exact h.pd i hi q hq h1
   ·have:=h.xlt q ((h.fs i hi).px q hq);omega
 ·intro i j hi hj hne q h1 h2
  rw [List.length_set] at hi hj
  by_cases e:i=m
  ·subst e
   rw [iK] at h1
   rw [gP _ _ (Ne.symm hne)] at h2
   rcases hnew q h1 with h3 | h3
   ·exact h.pp i j hi hj hne q h3 h2
   ·have:=h.xlt q ((h.fs j hj).px q h2);omega
  ·rw [gP _ _ e] at h1
   by_cases e2:j=m
   ·subst e2
    rw [iK] at h2
    rcases hnew q h2 with h3 | h3
    ·exact h.pp i j hi hj hne q h1 h3
    ·have:=h.xlt q ((h.fs i hi).px q h1);omega
   ·rw [gP _ _ e2] at h2
    exact h.pp i j hi hj hne q h1 h2
theorem bB.aee (h:bB w gl gd Qd X Pl P g Af cf d most L) {g0:Nat} {P0:Nat→Prop} {f':FS} (hw:Wr w w' g0 gd Qd X P0 d' f' Qd' X' P') (h0:∀ q,P0 q→X q) (h1:∀ q,P0 q→¬ Pl q) (h2:∀ i,i<L.length→∀ q,P i q→¬ P0 q) :
  bB w' gl gd Qd' X' Pl P g Af cf d' most L∧(∀ q,P' q→¬ Pl q)∧(∀ i,i<L.length→∀ q,P i q→¬ P' q):=by
 have hplm:∀ q,Pl q→¬ (P0 q∨Qd q):=fun q h1' h2=>by
  rcases h2 with h2 | h2
  ·exact h1 q h2 h1'
  ·exact h.pld q h1' h2
 refine ⟨⟨hw.dk,hw.qx,hw.xlt,h.whole.tn hw.tn (hplm gl h.plg),h.row.stands (fun k hk=>hw.tn.block k (h.row.dB k hk) (hplm k (h.pla k hk))),fun i hi=>(h.fs i hi).wrote hw (h2 i hi) (h.pd i hi) h0 h.dx,h.plg,h.pla,fun q hq=>hw.xx q (h.plx q hq),fun q hq hq2=>?_,h.plp,fun i hi q hq hq2=>?_,h.pp⟩,fun q hq hq2=>?_,fun i hi q hq hq2=>?_⟩
 ·rcases hw.q q hq2 with h3 | h3
  ·exact h.pld q hq h3
  ·have:=h.xlt q (h.plx q hq);omega
 ·rcases hw.q q hq2 with h3 | h3
  ·exact h.pd i hi q hq h3
  ·have:=h.xlt q ((h.fs i hi).px q hq);omega
 ·rcases hw.p q hq with h3 | h3
  ·exact h1 q h3 hq2
  ·have:=h.xlt q (h.plx q hq2);omega
 ·rcases hw.p q hq2 with h3 | h3
  ·exact h2 i hi q hq h3
  ·have:=h.xlt q ((h.fs i hi).px q hq);omega
theorem bB.more (h:bB w gl gd Qd X Pl P g Af cf d most L) {g0:Nat} {P0:Nat→Prop} {f:FS} (hf:dO w X P0 g0 f) (h1:∀ q,P0 q→¬ Pl q) (h2:∀ i,i<L.length→∀ q,P i q→¬ P0 q) (h3:∀ q,P0 q→¬ Qd q)
  {w1 w2 w3:World} {A':Option Addr} {c':Nat} (b1:Below w.heap.size w w1) (g2:w1.grownBy w2 (aB Af)) (r2:bC 132 w2 A' (L.length+1) c' (ptrs g L.length++[dG g0])) (a2:∀ k,aB A'=some k→aB Af=some k∨w1.heap.size≤k)
  (e3:w3=w2.setCell ⟨gl,2,none⟩ (.slice A' (L.length+1) c')) :
  ∃ X' Pl',bB w3 gl gd Qd X' Pl' (lu P L.length P0) (mE g L.length g0) A' c' d most (L++[f])∧Tn Pl w w3∧(∀ q,X' q→X q∨w.heap.size≤q)∧(∀ q,X q→X' q)∧∀ q,Pl' q→Pl q∨w.heap.size≤q:=by
 have T1:Tn Pl w w1:=Tn.of_below b1
 have T2:Tn Pl w w2:=T1.grown g2 (fun j hj => .inl (h.pla j hj))
 have T3:Tn Pl w w3:=by rw [e3];exact T2.set (.inl h.plg) 2 _
 have hs1:=b1.size
 have hAg:aB Af≠some gl:=by
  intro hk
  obtain ⟨cur,hc⟩:=jG h.row hk
  exact absurd (kE hc h.whole) (by decide)
 have W2:Whole w2 gl 126 (mP gd most Af L.length cf):=kC (h.whole.below b1 h.whole.lt) g2 hAg
 have hAg2:aB A'≠some gl:=by
  intro hk
  obtain ⟨cur,hc⟩:=jG r2 hk
  exact absurd (kE hc W2) (by decide)
 have R3:bC 132 w3 A' (L.length+1) c' (ptrs g L.length++[dG g0]):=by
  rw [e3]
  exact r2.stands (fun k hk=>Below.heap_setCell w2 ⟨gl,2,none⟩ _ k (by rintro rfl;exact hAg2 hk))
 have hx:∀ q,(X q∨aB A'=some q)→X q∨w.heap.size≤q:=fun q hq=>by
  rcases hq with hq | hq
  ·exact .inl hq
  ·rcases a2 q hq with h4 | h4
   ·exact .inl (h.plx q (h.pla q h4))
   ·right;omega
 have hpl:∀ q,(Pl q∨aB A'=some q)→Pl q∨w.heap.size≤q:=fun q hq=>by
  rcases hq with hq | hq
  ·exact .inl hq
  ·rcases a2 q hq with h4 | h4
   ·exact .inl (h.pla q h4)
   ·right;omega
 refine ⟨(fun q=>X q∨aB A'=some q),(fun q=>Pl q∨aB A'=some q),⟨h.dk.tn T3 (fun q hq hq2=>h.pld q hq2 hq),fun q hq => .inl (h.dx q hq),?_,?_,?_,?_,.inl h.plg,fun k hk => .inr hk,?_,?_,?_,?_,?_⟩,T3,hx,fun q hq => .inl hq,hpl⟩
 ·rintro q (hq | hq)
  ·exact Nat.lt_of_lt_of_le (h.xlt q hq) T3.size
  ·exact R3.dB q hq
 ·rw [e3,List.length_append,List.length_singleton]
  have h4:=W2.store 2 (.slice A' (L.length+1) c')
  exact h4
 ·rw [List.length_append,List.length_singleton,ac5,oV]
  have e:ptrs (mE g L.length g0) L.length=ptrs g L.length:=by
   unfold ptrs
   refine List.map_congr_left (fun i hi=>?_)
   rw [nZ _ _ (by have:=List.mem_range.1 hi;omega)]
  rw [e]
  exact R3
 ·intro i hi
  rw [List.length_append,List.length_singleton] at hi
  by_cases e:i=L.length
  ·subst e
   rw [iK,oV]
   simp only [List.getElem_append_right (Nat.le_refl _),Nat.sub_self,List.getElem_cons_zero]
   exact (hf.more hx (fun q hq => .inl (hf.px q hq))).tn T3 h1 (fun q hq => .inl (.inl (h.plx q hq)))
  ·have hi2:i<L.length:=by omega
   rw [gP _ _ e,nZ _ _ e,List.getElem_append_left hi2]
   exact ((h.fs i hi2).more hx (fun q hq => .inl ((h.fs i hi2).px q hq))).tn T3 (h.plp i hi2) (fun q hq => .inl (.inl (h.plx q hq)))
 ·rintro q (hq | hq)
  ·exact .inl (h.plx q hq)
  ·exact .inr hq
 ·intro q hq hq2
  rcases hpl q hq with h4 | h4
  ·exact h.pld q h4 hq2
  ·have:=h.xlt q (h.dx q hq2);omega
 ·intro i hi q hq hq2
  rw [List.length_append,List.length_singleton] at hi
  by_cases e:i=L.length
  ·subst e
   rw [iK] at hq
   rcases hpl q hq2 with h4 | h4
   ·exact h1 q hq h4
   ·have:=hf.plt q hq;omega
  ·rw [gP _ _ e] at hq
   have hi2:i<L.length:=by omega
   rcases hpl q hq2 with h4 | h4
   ·exact h.plp i hi2 q hq h4
   ·have:=(h.fs i hi2).plt q hq;omega
 ·intro i hi q hq hq2
  rw [List.length_append,List.length_singleton] at hi
  by_cases e:i=L.length
  ·subst e
   rw [iK] at hq
   exact h3 q hq hq2
  ·rw [gP _ _ e] at hq
   exact h.pd i (by omega) q hq hq2
 ·intro i j hi hj hne q q1 q2
  rw [List.length_append,List.length_singleton] at hi hj
  by_cases e:i=L.length
  ·subst e
   rw [iK] at q1
   rw [gP _ _ (Ne.symm hne)] at q2
   exact h2 j (by omega) q q2 q1
  ·rw [gP _ _ e] at q1
   by_cases e2:j=L.length
   ·subst e2
    rw [iK] at q2
    exact h2 i (by omega) q q1 q2
   ·rw [gP _ _ e2] at q2
    exact h.pp i j (by omega) (by omega) hne q q1 q2
theorem bB.grow {X2:Nat→Prop} (h:bB w gl gd Qd X Pl P g Af cf d most L) (b:Below w.heap.size w w') (h1:∀ q,X q→X2 q) (h2:∀ q,X2 q→X q∨(w.heap.size≤q∧q<w'.heap.size)):bB w' gl gd Qd X2 Pl P g Af cf d most L :=
 ⟨h.dk.below b,fun q hq=>h1 q (h.dx q hq),fun q hq=>by
  rcases h2 q hq with h3 | h3
  ·exact Nat.lt_of_lt_of_le (h.xlt q h3) b.size
  ·exact h3.2,h.whole.below b h.whole.lt,h.row.below b,fun i hi=>((h.fs i hi).more (fun q hq=>(h2 q hq).imp id And.left) (fun q hq=>h1 q ((h.fs i hi).px q hq))).below b,h.plg,h.pla,fun q hq=>h1 q (h.plx q hq),h.pld,h.plp,h.pd,h.pp⟩
theorem bB.aside {Q:Nat→Prop} (h:bB w gl gd Qd X Pl P g Af cf d most L) (k:Tn Q w w') (h1:∀ q,Q q→X q) (h2:∀ q,Q q→¬ Qd q) (h3:∀ q,Q q→¬ Pl q) (h4:∀ i,i<L.length→∀ q,P i q→¬ Q q):bB w' gl gd Qd X Pl P g Af cf d most L :=
 ⟨h.dk.tn k (fun q hq hq2=>h2 q hq2 hq),h.dx,fun q hq=>Nat.lt_of_lt_of_le (h.xlt q hq) k.size,h.whole.tn k (fun hq=>h3 gl hq h.plg),h.row.stands (fun b hb=>k.block b (h.row.dB b hb) (fun hq=>h3 b hq (h.pla b hb))),fun i hi=>(h.fs i hi).tn k (h4 i hi) (fun q hq => .inl (h1 q hq)),h.plg,h.pla,h.plx,h.pld,h.plp,h.pd,h.pp⟩
end
end Wl
end Go.Proofs.YtpcmlopbkehffaaGreat
namespace Go.Proofs.YtpcmlopbkehffaaGreat
open Go.RowKit Fm Dsk
namespace Wl
def dK (d:ak) (L:List FS) (num first:Nat) (r:List UInt8):Int×ak×List FS :=
 (bU d (num:Nat) (framed (aG first)++framed r).length,bX d (num:Nat) (framed (aG first)++framed r),if bU d (num:Nat) (framed (aG first)++framed r).length=0 then L++[⟨num,first,[r],framed (aG first)++framed r,0⟩] else L)
def cB (d:ak) (L:List FS) (r:List UInt8):Int×ak×List FS :=
 if 63≤L.length then (9,d,L) else match L.getLast? with
 | none=>dK d L 0 0 r
 | some f=>if bE d (f.num:Nat)=0 then dK (eF d (f.num:Nat)) L ((f.num+1) % 64) (aO f) r else (bE d (f.num:Nat),d,L)
theorem nR {w w':World} {gl gd:Nat} {X F X' Qd' Pl':Nat→Prop} {P':Nat→Nat→Prop} {g':Nat→Nat} {Af':Option Addr} {cf':Nat} {v v':Value} {d d':ak} {most:Int} {L L':List FS} (hv:v'=v) (h:bB w' gl gd Qd' X' Pl' P' g' Af' cf' d' most L') (hf:d9 (fun q=>F q∨w.heap.size≤q) Qd' Pl' P' L') (hd:d'=d) (hL:L'=L) (ht:Tn F w w') (h1:∀ q,X' q→X q∨w.heap.size≤q) (h2:∀ q,X q→X' q):fH w gl gd X F v d most L (.returned v') w':=by
 subst hv hd hL
 exact ⟨rfl,X',h.upper hf,ht,h1,h2⟩
theorem acg {w w':World} {gl gd:Nat} {X F X':Nat→Prop} {v v':Value} {d d':ak} {most:Int} {L L':List FS} (hv:v'=v) (h:LgF w' gl gd X' (dQ F w w') d' most L') (hd:d'=d) (hL:L'=L) (ht:Tn F w w') (h1:∀ q,X' q→X q∨w.heap.size≤q) (h2:∀ q,X q→X' q):fH w gl gd X F v d most L (.returned v') w':=by
 subst hv hd hL
 exact ⟨rfl,X',h,ht,h1,h2⟩
theorem yt {w:World} {X:Nat→Prop} {gn num first:Nat} (h:Whole w gn 134 #[.int .i64 (num:Nat),.int .u64 (first:Nat),.slice none 0 0,.slice none 0 0,.int .i64 0]) (hx:X gn):dO w X (fun q=>q=gn) gn ⟨num,first,[],[],0⟩ :=
 ⟨rfl,fun q hq=>by rw [hq];exact h.lt,fun q hq=>by rw [hq];exact hx,none,0,none,0,h,dY.none _ _,Own.none _ _,(fun k hk=>by cases hk),(fun k hk=>by cases hk)⟩
theorem rF:(Tryz.prog.info? 132).map (fun i=>(i.zero,i.size,i.bytes))=some (some (.pointer none),1,8):=by kernel_rfl
section
variable {w:World} {gl gd:Nat} {Qd X Pl F:Nat→Prop} {P:Nat→Nat→Prop} {g:Nat→Nat} {Af:Option Addr} {cf:Nat} {d:ak} {most:Int} {L:List FS}
set_option maxRecDepth 20000 in
set_option maxHeartbeats 8000000 in
theorem aeT (Ar:Option Addr) (nr cr:Nat) (r:List UInt8) (h:bB w gl gd Qd X Pl P g Af cf d most L) (hF:d9 F Qd Pl P L) (hL:L=[]) (hr:SlN X w Ar nr cr r) (hnr:nr≤8192):Calls Tryz.prog 103 #[.pointer (some ⟨gl,0,none⟩),.slice Ar nr cr] w (fH w gl gd X F (.int .i64 (cB d L r).1) (cB d L r).2.1 most (cB d L r).2.2):=by
 have HNx:=aj (yu h (by rw [hL];decide) (by rw [hL];simp))
 have HBL:=aj (show cB d L r=dK d L 0 0 r by rw [hL];rfl)
 rw [show gI L=0 by rw [hL];rfl] at HNx
 obtain ⟨c0,c1,c2⟩:=fB h.whole
 have hl0:L.length=0:=by rw [hL];rfl
 have HL0:=aj hl0
 have HLB:=aj (show L.length≤63 by omega)
 rw [hl0] at c2
 have H:=aj h
 have HF:=aj hF
 have HF0:=aj (hF.wide (F':=fun q=>F q∨w.heap.size≤q) (fun q hq => .inl hq))
 have HR0:=aj hr
 have HNr:=aj hnr
 clear h hF hr hnr hL hl0
 go_enter Tryz.func103,Tryz.ntmps103
 go_wp2_with fail
 (with_reducible refine Calls.mono HNx.out ?_)
 rintro e w1 ⟨rfl,hb1⟩
 have HB2:=aj (hb1.alloc hb1.size (.cells #[.int .i64 0,.int .u64 0,.slice none 0 0,.slice none 0 0,.int .i64 0] 134))
 have GN0:=aj (aP w1 134 #[.int .i64 0,.int .u64 0,.slice none 0 0,.slice none 0 0,.int .i64 0])
 have hsz1:=hb1.size
 clear hb1 c0 c1 c2
 go_wp2_with fail
 obtain ⟨gn,hgn⟩:∃ gn,gn=w1.heap.size:=⟨_,rfl⟩
 have LG1:=aj (H.out.grow (X2:=fun q=>X q∨q=w1.heap.size) HB2.out (fun q hq => .inl hq) (fun q hq=>by
  rcases hq with hq | hq
  ·exact .inl hq
  ·right;rw [hq];exact ⟨hsz1,GN0.out.lt⟩))
 have HLa:=aj (rM LG1.out)
 rw [show gM g L.length=none by unfold gM;rw [if_pos HL0.out]] at HLa
 (with_reducible refine Calls.mono HLa.out ?_)
 rintro e w3 ⟨rfl,q,hw3⟩
 obtain ⟨wt,hwt⟩:∃ wt:World,wt=w3:=⟨_,rfl⟩
 subst hwt
 have LG:=aj (show bB wt gl gd Qd (fun q=>X q∨q=w1.heap.size) Pl P g Af cf d most L by rw [hw3];exact LG1.out.below (below_drewN (Below.refl _ _) q))
 have GN:=aj (show Whole wt w1.heap.size 134 #[.int .i64 ((0:Nat):Int),.int .u64 ((0:Nat):Int),.slice none 0 0,.slice none 0 0,.int .i64 0] by rw [hw3];exact GN0.out.drewN q)
 have HBt:=aj (show Below w.heap.size w wt by rw [hw3];exact below_drewN HB2.out q)
 clear hw3 hgn
 have HXn:=aj (show (fun q=>X q∨q=w1.heap.size) w1.heap.size from .inr rfl)
 have HGN:=aj (show ¬ Qd w1.heap.size∧¬ Pl w1.heap.size∧∀ i,i<L.length→¬ P i w1.heap.size from ⟨fun hq=>by have:=H.out.xlt _ (H.out.dx _ hq);omega,fun hq=>by have:=H.out.xlt _ (H.out.plx _ hq);omega,fun i hi hq=>by have:=(H.out.fs i hi).plt _ hq;omega⟩)
 have HT:=aj (show Tn F w wt from Tn.of_below HBt.out)
 have HX1:=aj (show ∀ q,(X q∨q=w1.heap.size)→X q∨w.heap.size≤q from fun q hq=>by
  rcases hq with hq | hq
  ·exact .inl hq
  ·right;omega)
 have HX2:=aj (show ∀ q,X q→(X q∨q=w1.heap.size) from fun q hq => .inl hq)
 have HR:=aj ((HR0.out.more HX1.out).tn (Q:=fun _=>False) (Tn.of_below HBt.out) (fun _ e=>e.elim))
 have HFB:=aj (show (0:Nat)<18446744073709551616 by decide)
 have gfirst:wt.cell? ⟨w1.heap.size,1,none⟩=some (.int .u64 (0:Nat)):=GN.out.cell 1 _ rfl
 have HHd:=aj (abZ 0 wt HFB.out)
 go_wp2_with fail
 (with_reducible refine Calls.mono HHd.out ?_)
 rintro e wa ⟨Aa,ca,rfl,hoa,hba⟩
 have LGa:=aj (LG.out.below hba)
 have GNa:=aj (GN.out.below hba GN.out.lt)
 have HRa:=aj (HR.out.tn (Q:=fun _=>False) (Tn.of_below hba) (fun _ e=>e.elim))
 have HTa:=aj (HT.out.iQ hba)
 have HPu:=aj (ada Aa 8 ca (aG 0) wa hoa.sl (by omega))
 have hwsa:=hba.size
 clear gfirst hoa hba
 go_wp2_with fail
 (with_reducible refine Calls.mono HPu.out ?_)
 rintro e wb ⟨Ab,cb,rfl,hob,hbb⟩
 have LGb:=aj (LGa.out.below hbb)
 have GNb:=aj (GNa.out.below hbb GNa.out.lt)
 have HRb:=aj (HRa.out.tn (Q:=fun _=>False) (Tn.of_below hbb) (fun _ e=>e.elim))
 have HTb:=aj (HTa.out.iQ hbb)
 obtain ⟨cl0,cl1,cl2⟩:=fB LGb.out.whole
 have HWr:=aj (zW (fun q=>X q∨q=w1.heap.size) (fun q=>q=w1.heap.size) w1.heap.size gd Qd d ⟨0,0,[],[],0⟩ Ab 16 cb (framed (aG 0)) Ar nr cr r wb (yt GNb.out (Or.inr rfl)) LGb.out.dk LGb.out.dx LGb.out.xlt (fun q hq=>by rw [hq];exact HGN.out.1) hob.sl HRb.out HNr.out (by omega) (by simp) (by simp))
 have hwsb:=hbb.size
 clear hob hbb
 go_wp2_with fail
 (with_reducible refine Calls.mono HWr.out ?_)
 rintro e wc ⟨rfl,Q2,X2,P2,hw⟩
 obtain ⟨lg2,np,nf⟩:=LGb.out.aee hw (fun q hq=>by rw [hq];exact (Or.inr rfl)) (fun q hq=>by rw [hq];exact HGN.out.2.1) (fun i hi q hq hq2=>HGN.out.2.2 i hi (by rw [← hq2];exact hq))
 have HFQ:=aj (show ∀ q,Qd q→F q∨w.heap.size≤q from fun q hq => .inl (HF.out.d q hq))
 have HTc:=aj (HTb.out.trans hw.tn (fun q hq=>by
  rcases hq with hq | hq
  ·rw [hq];right;omega
  ·exact HFQ.out q hq))
 have HFt:=aj (show d9 (fun q=>F q∨w.heap.size≤q) Q2 Pl P L from HF0.out.qd (fun q hq=>by
  rcases hw.q q hq with h1 | h1
  ·exact HFQ.out q h1
  ·right;have:=HTb.out.size;omega))
 have HFp:=aj (show ∀ q,P2 q→F q∨w.heap.size≤q from fun q hq=>by
  rcases hw.p q hq with h1 | h1
  ·rw [h1];right;omega
  ·right;have:=HTb.out.size;omega)
 have HXc:=aj (show ∀ q,X2 q→X q∨w.heap.size≤q from fun q hq=>by
  rcases hw.x q hq with h1 | h1
  ·exact HX1.out q h1
  ·right;have:=HTb.out.size;omega)
 have HXd:=aj (show ∀ q,X q→X2 q from fun q hq=>hw.xx q (HX2.out q hq))
 have LG2:=aj lg2
 have HFn:=aj hw.fs
 have HNp:=aj (And.intro np (And.intro nf hw.ap))
 clear lg2 np nf hw cl0 cl1 cl2
 have HKD:=aj (show dK d L 0 0 r=dK d L 0 0 r from rfl)
 obtain ⟨k,hk⟩:∃ k,bU d (0:Nat) (framed (aG 0)++framed r).length=k:=⟨_,rfl⟩
 simp only [hk] at HFn ⊢
 have HK:=aj hk
 obtain ⟨c0,c1,c2⟩:=fB LG2.out.whole
 have hfz:=LG2.out.whole.free 2
 by_cases hk0:k=0
 ·subst hk0
  rw [if_pos rfl] at HFn
  have hmx:=LG2.out.row.2.2.1
  have hcp:=LG2.out.row.2.1
  have hLb:L.length≤63:=HLB.out
  have HRes:=aj (show (dK d L 0 0 r)=(0,bX d (0:Nat) (framed (aG 0)++framed r),L++[⟨0,0,[r],framed (aG 0)++framed r,0⟩]) by unfold dK;rw [HK.out,if_pos rfl])
  have HZ:=aj (fun (W:World) (hg:(wc.alloc (.cells #[dG w1.heap.size] 132)).grownBy W (aB Af))=>show W.cell? ⟨gl,2,none⟩=some (.slice Af L.length cf)∧W.frozen? ⟨gl,2,none⟩=false from by
   have hAg:aB Af≠some gl:=by
    intro hk
    obtain ⟨cur,hc⟩:=jG LG2.out.row hk
    exact absurd (kE hc LG2.out.whole) (by decide)
   have h1:=kC (LG2.out.whole.alloc (.cells #[dG w1.heap.size] 132)) hg hAg
   exact ⟨h1.cell 2 _ rfl,h1.free 2⟩)
  have HRw:=aj (LG2.out.row.below ((Below.refl wc.heap.size wc).alloc (Nat.le_refl _) (.cells #[dG w1.heap.size] 132)))
  clear hk hfz
  go_wp2_with (first
   | (at_builtin;refine sU (e:=132) rfl (.tmp 73) (.tmp 75) 124 rfl _ 8 Tryz.underlying124 rF rfl Af L.length cf (ptrs g L.length) rfl HRw.out wc.heap.size (dG w1.heap.size) rfl rfl (at_new _ _ _) (by omega) (by omega) ?_;intro A9 c9 w9 hr9 hg9 ha9;have hz9:=HZ.out w9 hg9;have z9:=hz9.1;have y9:=hz9.2;have H9:=aj (And.intro hr9 (And.intro hg9 ha9));clear hr9 hg9 ha9 hz9)
   | fail)
  go_ret
  obtain ⟨X4,Pl4,lg4,t4,x4,xx4,pl4⟩:=LG2.out.more HFn.out HNp.out.1 HNp.out.2.1 HNp.out.2.2 ((Below.refl wc.heap.size wc).alloc (Nat.le_refl _) (.cells #[dG w1.heap.size] 132)) H9.out.2.1 H9.out.1 H9.out.2.2 rfl
  exact nR (by rw [HBL.out,HRes.out];rfl) lg4 (HFt.out.snoc HFp.out (fun q hq=>by
   rcases pl4 q hq with h1 | h1
   ·exact HFt.out.l q h1
   ·right;have:=HTc.out.size;omega) _) (by rw [HBL.out,HRes.out]) (by rw [HBL.out,HRes.out];rfl) (HTc.out.trans t4 (fun q hq=>HFt.out.l q hq)) (fun q hq=>by
   rcases x4 q hq with h1 | h1
   ·exact HXc.out q h1
   ·right;have:=HTc.out.size;omega) (fun q hq=>xx4 q (HXd.out q hq))
 ·have HRes:=aj (show (dK d L 0 0 r)=(k,bX d (0:Nat) (framed (aG 0)++framed r),L) by unfold dK;rw [HK.out,if_neg hk0])
  have e9:(k != 0)=true:=by simpa using hk0
  clear hk hk0
  go_wp2_with fail
  go_ret
  exact nR (by rw [HBL.out,HRes.out];rfl) LG2.out HFt.out (by rw [HBL.out,HRes.out]) (by rw [HBL.out,HRes.out]) HTc.out HXc.out HXd.out
theorem aeS (Ar:Option Addr) (nr cr:Nat) (r:List UInt8) (h:bB w gl gd Qd X Pl P g Af cf d most L) (hF:d9 F Qd Pl P L) (hL:63≤L.length):Calls Tryz.prog 103 #[.pointer (some ⟨gl,0,none⟩),.slice Ar nr cr] w (fH w gl gd X F (.int .i64 (cB d L r).1) (cB d L r).2.1 most (cB d L r).2.2):=by
 have HBL:=aj (show cB d L r=(9,d,L) by unfold cB;rw [if_pos hL])
 obtain ⟨c0,c1,c2⟩:=fB h.whole
 have H:=aj h
 have HF:=aj hF
 have HF0:=aj (hF.wide (F':=fun q=>F q∨w.heap.size≤q) (fun q hq => .inl hq))
 have e1:decide ((63:Int)≤(L.length:Int))=true:=decide_eq_true (by omega)
 have e2:decide ((L.length:Int) ≥ 63)=true:=decide_eq_true (by omega)
 have e3:decide (63≤L.length)=true:=decide_eq_true hL
 clear h hF hL
 go_enter Tryz.func103,Tryz.ntmps103
 go_wp2_with fail
 go_ret
 exact nR (by rw [HBL.out];rfl) H.out HF0.out (by rw [HBL.out]) (by rw [HBL.out]) (Tn.refl _ _) (fun q hq => .inl hq) (fun q hq=>hq)
set_option maxRecDepth 20000 in
set_option maxHeartbeats 8000000 in
theorem aeU (Ar:Option Addr) (nr cr:Nat) (r:List UInt8) (h:bB w gl gd Qd X Pl P g Af cf d most L) (hF:d9 F Qd Pl P L) {m:Nat} (hm:L.length=m+1) (hm62:m+1≤62) {f:FS} (hf:L[m]? = some f) (hnum:f.num<64) (hfi:aO f<9223372036854775808) (hrl:∀ f∈L,f.recs.length≤9223372036854775807) (hr:SlN X w Ar nr cr r) (hnr:nr≤8192):Calls Tryz.prog 103 #[.pointer (some ⟨gl,0,none⟩),.slice Ar nr cr] w (fH w gl gd X F (.int .i64 (cB d L r).1) (cB d L r).2.1 most (cB d L r).2.2):=by
 have hgl:L.getLast? = some f:=by rw [List.getLast?_eq_getElem?,hm,Nat.add_sub_cancel];exact hf
 have hml:m<L.length:=by omega
 have hfe:L[m]=f:=by rw [List.getElem?_eq_getElem hml] at hf;exact Option.some.inj hf
 have hnl:gI L=aO f:=by unfold gI;rw [hgl]
 have HNx:=aj (yu h (by rw [hnl];omega) hrl)
 rw [hnl] at HNx
 have HBL0:=aj (show cB d L r=if bE d (f.num:Nat)=0 then dK (eF d (f.num:Nat)) L ((f.num+1) % 64) (aO f) r else (bE d (f.num:Nat),d,L) by unfold cB;rw [if_neg (by omega),hgl])
 have HLB:=aj (show L.length≤63 by omega)
 have HLP:=aj (show gM g L.length=some ⟨g m,0,none⟩ by unfold gM;rw [hm,if_neg (by omega),Nat.add_sub_cancel])
 obtain ⟨c0,c1,c2⟩:=fB h.whole
 have hlen:=aj hm
 have H:=aj h
 have HF:=aj hF
 have HF0:=aj (hF.wide (F':=fun q=>F q∨w.heap.size≤q) (fun q hq => .inl hq))
 have HR0:=aj hr
 have HNr:=aj hnr
 have HNum:=aj hnum
 have HFB:=aj (show aO f<18446744073709551616 by omega)
 have HFe:=aj (show ∀ h:m<L.length,L[m]=f from fun _=>hfe)
 have HMl:=aj hml
 have e1:decide ((63:Int)≤(L.length:Int))=false:=decide_eq_false (by omega)
 have e2:decide ((L.length:Int) ≥ 63)=false:=decide_eq_false (by omega)
 have e3:decide (63≤L.length)=false:=decide_eq_false (by omega)
 generalize hfx:aO f=fx at *
 clear h hF hr hnr hgl hml hfe hnl hrl hf hm hfi hfx hnum
 go_enter Tryz.func103,Tryz.ntmps103
 go_wp2_with fail
 (with_reducible refine Calls.mono HNx.out ?_)
 rintro e w1 ⟨rfl,hb1⟩
 have HB2:=aj (hb1.alloc hb1.size (.cells #[.int .i64 0,.int .u64 (fx:Nat),.slice none 0 0,.slice none 0 0,.int .i64 0] 134))
 have GN0:=aj (aP w1 134 #[.int .i64 0,.int .u64 (fx:Nat),.slice none 0 0,.slice none 0 0,.int .i64 0])
 have hsz1:=hb1.size
 clear hb1 c0 c1 c2
 go_wp2_with fail
 have LG1:=aj (H.out.grow (X2:=fun q=>X q∨q=w1.heap.size) HB2.out (fun q hq => .inl hq) (fun q hq=>by
  rcases hq with hq | hq
  ·exact .inl hq
  ·right;rw [hq];exact ⟨hsz1,GN0.out.lt⟩))
 have HLa:=aj (rM LG1.out)
 rw [HLP.out] at HLa
 (with_reducible refine Calls.mono HLa.out ?_)
 rintro e w3 ⟨rfl,q,hw3⟩
 have LG3:=aj (show bB w3 gl gd Qd (fun q=>X q∨q=w1.heap.size) Pl P g Af cf d most L by rw [hw3];exact LG1.out.below (below_drewN (Below.refl _ _) q))
 have GN3:=aj (show Whole w3 w1.heap.size 134 #[.int .i64 0,.int .u64 (fx:Nat),.slice none 0 0,.slice none 0 0,.int .i64 0] by rw [hw3];exact GN0.out.drewN q)
 have HB3:=aj (show Below w.heap.size w w3 by rw [hw3];exact below_drewN HB2.out q)
 clear hw3
 obtain ⟨c0,c1,c2⟩:=fB LG3.out.whole
 have hfs3:=LG3.out.fs m HMl.out
 rw [HFe.out _] at hfs3
 have HFs3:=aj hfs3
 obtain ⟨Ar3,cr3,Aa3,ca3,m1,-⟩:=hfs3.mem
 obtain ⟨b0,-,-,-,-⟩:=jH m1
 have HSy:=aj (ad1 (f.num:Nat) (by have:=HNum.out;omega) (by have:=HNum.out;omega) gd Qd d w3.drew LG3.out.dk.drew)
 have b0d:w3.drew.cell? ⟨g m,0,none⟩=some (.int .i64 (f.num:Nat)):=b0
 have c0d:w3.drew.cell? ⟨gl,0,none⟩=some (.pointer (some ⟨gd,0,none⟩)):=c0
 clear m1 hfs3
 go_wp2_with fail
 go_still_tail 8,(by kernel_rfl)
 go_wp2_with fail
 (with_reducible refine Calls.mono HSy.out ?_)
 rintro e w4 ⟨rfl,Qd2,hd4,ht4,hq4⟩
 have H4:=aj (And.intro hd4 (And.intro ht4 hq4))
 clear hd4 ht4 hq4
 clear b0 b0d c0 c0d c1 c2
 have LG4:=aj ((LG3.out.below (Below.drew (Below.refl _ _))).disk H4.out.1 H4.out.2.1 H4.out.2.2)
 have GNno:=aj (show ¬ Qd w1.heap.size∧¬ Pl w1.heap.size∧(∀ i,i<L.length→¬ P i w1.heap.size) from ⟨fun hq=>by have:=H.out.xlt _ (H.out.dx _ hq);omega,fun hq=>by have:=H.out.xlt _ (H.out.plx _ hq);omega,fun i hi hq=>by have:=(H.out.fs i hi).plt _ hq;omega⟩)
 have GN4:=aj ((GN3.out.drew).tn H4.out.2.1 GNno.out.1)
 have GNq:=aj (show ¬ Qd2 w1.heap.size from fun hq=>by
  rcases H4.out.2.2 _ hq with h1 | h1
  ·exact GNno.out.1 h1
  ·have:=GN3.out.drew.lt;omega)
 have T4:=aj (show Tn F w w4 from (Tn.of_below HB3.out).trans (Tn.trans (Tn.of_below (Below.drew (Below.refl w3.heap.size w3))) H4.out.2.1 (fun q hq => .inl hq)) (fun q hq => .inl (HF.out.d q hq)))
 have X41:=aj (show ∀ q,((X q∨q=w1.heap.size)∨Qd2 q)→X q∨w.heap.size≤q from fun q hq=>by
  rcases hq with (hq | hq) | hq
  ·exact .inl hq
  ·right;omega
  ·rcases H4.out.2.2 q hq with h1 | h1
   ·exact .inl (H.out.dx q h1)
   ·right;have:=HB3.out.size;exact Nat.le_trans this h1)
 have HFQ:=aj (show ∀ q,Qd2 q→F q∨w.heap.size≤q from fun q hq=>by
  rcases H4.out.2.2 q hq with h1 | h1
  ·exact .inl (HF.out.d q h1)
  ·right;have:=HB3.out.size;exact Nat.le_trans this h1)
 have X42:=aj (show ∀ q,X q→((X q∨q=w1.heap.size)∨Qd2 q) from fun q hq => .inl (.inl hq))
 have HR4:=aj ((((HR0.out.more (X':=fun q=>X q∨q=w1.heap.size) (fun q hq=>by
  rcases hq with hq | hq
  ·exact .inl hq
  ·right;omega)).tn (Q:=fun _=>False) (Tn.of_below HB3.out) (fun _ e=>e.elim)).more (X':=fun q=>(X q∨q=w1.heap.size)∨Qd2 q) (fun q hq=>by
  rcases hq with hq | hq
  ·exact .inl hq
  ·rcases H4.out.2.2 q hq with h1 | h1
   ·exact .inl (.inl (H.out.dx q h1))
   ·exact .inr h1)).tn (w':=w4) (Q:=Qd) ((Tn.of_below (Below.drew (Below.refl w3.heap.size w3))).trans H4.out.2.1 (fun q hq => .inl hq)) (fun q hq => .inl (.inl (.inl (H.out.dx q hq)))))
 by_cases hk0:bE d (f.num:Nat)=0
 ·have HBL1:=aj (show cB d L r=dK (eF d (f.num:Nat)) L ((f.num+1) % 64) fx r by rw [HBL0.out,if_pos hk0])
  rw [hk0]
  have hfs4:=LG4.out.fs m HMl.out
  rw [HFe.out _] at hfs4
  obtain ⟨Ar4,cr4,Aa4,ca4,m1,-⟩:=hfs4.mem
  obtain ⟨b0,-,-,-,-⟩:=jH m1
  obtain ⟨n',hn'⟩:∃ n':Nat,n'=(f.num+1) % 64:=⟨_,rfl⟩
  have HN':=aj (show ((f.num:Int)+1) % 64=(n':Nat) by rw [hn'];omega)
  have HN2:=aj (show Int.tmod ((f.num:Int)+1) 64=(n':Nat) by rw [hn'];have:=Int.tmod_eq_emod_of_nonneg (a:=(f.num:Int)+1) (b:=64) (by omega);rw [this];omega)
  have hN1:=HN'.out
  have hN2:=HN2.out
  have HBL:=aj (show cB d L r=dK (eF d (f.num:Nat)) L n' fx r by rw [hn'];exact HBL1.out)
  generalize eF d (f.num:Nat)=dt at *
  have z0:w4.cell? ⟨w1.heap.size,0,none⟩=some (.int .i64 0):=GN4.out.cell 0 _ rfl
  have y0:=GN4.out.free 0
  have z1:w4.cell? ⟨w1.heap.size,1,none⟩=some (.int .u64 (fx:Nat)):=GN4.out.cell 1 _ rfl
  have hnum2:=HNum.out
  clear hfs4 m1 hn' hk0
  go_wp2_with fail
  obtain ⟨wt,hwt⟩:∃ wt:World,wt=w4.setCell ⟨w1.heap.size,0,none⟩ (.int .i64 (n':Nat)):=⟨_,rfl⟩
  have TS:=aj (show Tn (fun q=>q=w1.heap.size) w4 wt by rw [hwt];exact Tn.set (Q:=fun q=>q=w1.heap.size) (Tn.refl _ w4) (g:=w1.heap.size) (Or.inl rfl) 0 _)
  have GN:=aj (show Whole wt w1.heap.size 134 #[.int .i64 (n':Nat),.int .u64 (fx:Nat),.slice none 0 0,.slice none 0 0,.int .i64 0] by rw [hwt];exact GN4.out.store 0 _)
  rw [← hwt]
  clear hwt z0 y0 z1 b0
  have HGN:=aj (show ¬ Qd2 w1.heap.size∧¬ Pl w1.heap.size∧∀ i,i<L.length→¬ P i w1.heap.size from ⟨GNq.out,GNno.out.2.1,GNno.out.2.2⟩)
  have LG:=aj (LG4.out.aside TS.out (fun q hq=>by rw [hq];exact .inl (.inr rfl)) (fun q hq=>by rw [hq];exact HGN.out.1) (fun q hq=>by rw [hq];exact HGN.out.2.1) (fun i hi q hq hq2=>HGN.out.2.2 i hi (by rw [← hq2];exact hq)))
  have HT:=aj (T4.out.trans TS.out (fun q hq=>by rw [hq];right;omega))
  have HX1:=X41
  have HX2:=X42
  have HR:=aj (HR4.out.tn TS.out (fun q hq=>by rw [hq];exact .inl (.inl (.inr rfl))))
  have HHd:=aj (abZ fx wt HFB.out)
  (with_reducible refine Calls.mono HHd.out ?_)
  rintro e wa ⟨Aa,ca,rfl,hoa,hba⟩
  have LGa:=aj (LG.out.below hba)
  have GNa:=aj (GN.out.below hba GN.out.lt)
  have HRa:=aj (HR.out.tn (Q:=fun _=>False) (Tn.of_below hba) (fun _ e=>e.elim))
  have HTa:=aj (HT.out.iQ hba)
  have HPu:=aj (ada Aa 8 ca (aG fx) wa hoa.sl (by omega))
  have hwsa:=hba.size
  clear hoa hba
  go_wp2_with fail
  (with_reducible refine Calls.mono HPu.out ?_)
  rintro e wb ⟨Ab,cb,rfl,hob,hbb⟩
  have LGb:=aj (LGa.out.below hbb)
  have GNb:=aj (GNa.out.below hbb GNa.out.lt)
  have HRb:=aj (HRa.out.tn (Q:=fun _=>False) (Tn.of_below hbb) (fun _ e=>e.elim))
  have HTb:=aj (HTa.out.iQ hbb)
  obtain ⟨cl0,cl1,cl2⟩:=fB LGb.out.whole
  have HWr:=aj (zW (fun q=>(X q∨q=w1.heap.size)∨Qd2 q) (fun q=>q=w1.heap.size) w1.heap.size gd Qd2 dt ⟨n',fx,[],[],0⟩ Ab 16 cb (framed (aG fx)) Ar nr cr r wb (yt GNb.out (Or.inl (Or.inr rfl))) LGb.out.dk LGb.out.dx LGb.out.xlt (fun q hq=>by rw [hq];exact HGN.out.1) hob.sl HRb.out HNr.out (by omega) (by simp) (by simp))
  have hwsb:=hbb.size
  clear hob hbb
  go_wp2_with fail
  (with_reducible refine Calls.mono HWr.out ?_)
  rintro e wc ⟨rfl,Q2,X2,P2,hw⟩
  obtain ⟨lg2,np,nf⟩:=LGb.out.aee hw (fun q hq=>by rw [hq];exact (Or.inl (Or.inr rfl))) (fun q hq=>by rw [hq];exact HGN.out.2.1) (fun i hi q hq hq2=>HGN.out.2.2 i hi (by rw [← hq2];exact hq))
  have HTc:=aj (HTb.out.trans hw.tn (fun q hq=>by
   rcases hq with hq | hq
   ·rw [hq];right;omega
   ·exact HFQ.out q hq))
  have HFt:=aj (show d9 (fun q=>F q∨w.heap.size≤q) Q2 Pl P L from HF0.out.qd (fun q hq=>by
   rcases hw.q q hq with h1 | h1
   ·exact HFQ.out q h1
   ·right;have:=HTb.out.size;omega))
  have HFp:=aj (show ∀ q,P2 q→F q∨w.heap.size≤q from fun q hq=>by
   rcases hw.p q hq with h1 | h1
   ·rw [h1];right;omega
   ·right;have:=HTb.out.size;omega)
  have HXc:=aj (show ∀ q,X2 q→X q∨w.heap.size≤q from fun q hq=>by
   rcases hw.x q hq with h1 | h1
   ·exact HX1.out q h1
   ·right;have:=HTb.out.size;omega)
  have HXd:=aj (show ∀ q,X q→X2 q from fun q hq=>hw.xx q (HX2.out q hq))
  have LG2:=aj lg2
  have HFn:=aj hw.fs
  have HNp:=aj (And.intro np (And.intro nf hw.ap))
  clear lg2 np nf hw cl0 cl1 cl2
  have HKD:=aj (show dK dt L n' fx r=dK dt L n' fx r from rfl)
  obtain ⟨k,hk⟩:∃ k,bU dt (n':Nat) (framed (aG fx)++framed r).length=k:=⟨_,rfl⟩
  simp only [hk] at HFn ⊢
  have HK:=aj hk
  obtain ⟨c0,c1,c2⟩:=fB LG2.out.whole
  have hfz:=LG2.out.whole.free 2
  by_cases hk0:k=0
  ·subst hk0
   rw [if_pos rfl] at HFn
   have hmx:=LG2.out.row.2.2.1
   have hcp:=LG2.out.row.2.1
   have hLb:L.length≤63:=HLB.out
   have HRes:=aj (show (dK dt L n' fx r)=(0,bX dt (n':Nat) (framed (aG fx)++framed r),L++[⟨n',fx,[r],framed (aG fx)++framed r,0⟩]) by unfold dK;rw [HK.out,if_pos rfl])
   have HZ:=aj (fun (W:World) (hg:(wc.alloc (.cells #[dG w1.heap.size] 132)).grownBy W (aB Af))=>show W.cell? ⟨gl,2,none⟩=some (.slice Af L.length cf)∧W.frozen? ⟨gl,2,none⟩=false from by
    have hAg:aB Af≠some gl:=by
     intro hk
     obtain ⟨cur,hc⟩:=jG LG2.out.row hk
     exact absurd (kE hc LG2.out.whole) (by decide)
    have h1:=kC (LG2.out.whole.alloc (.cells #[dG w1.heap.size] 132)) hg hAg
    exact ⟨h1.cell 2 _ rfl,h1.free 2⟩)
   have HRw:=aj (LG2.out.row.below ((Below.refl wc.heap.size wc).alloc (Nat.le_refl _) (.cells #[dG w1.heap.size] 132)))
   clear hk hfz
   go_wp2_with (first
    | (at_builtin;refine sU (e:=132) rfl (.tmp 73) (.tmp 75) 124 rfl _ 8 Tryz.underlying124 rF rfl Af L.length cf (ptrs g L.length) rfl HRw.out wc.heap.size (dG w1.heap.size) rfl rfl (at_new _ _ _) (by omega) (by omega) ?_;intro A9 c9 w9 hr9 hg9 ha9;have hz9:=HZ.out w9 hg9;have z9:=hz9.1;have y9:=hz9.2;have H9:=aj (And.intro hr9 (And.intro hg9 ha9));clear hr9 hg9 ha9 hz9)
    | fail)
   go_ret
   obtain ⟨X4,Pl4,lg4,t4,x4,xx4,pl4⟩:=LG2.out.more HFn.out HNp.out.1 HNp.out.2.1 HNp.out.2.2 ((Below.refl wc.heap.size wc).alloc (Nat.le_refl _) (.cells #[dG w1.heap.size] 132)) H9.out.2.1 H9.out.1 H9.out.2.2 rfl
   exact nR (by rw [HBL.out,HRes.out];rfl) lg4 (HFt.out.snoc HFp.out (fun q hq=>by
   rcases pl4 q hq with h1 | h1
   ·exact HFt.out.l q h1
   ·right;have:=HTc.out.size;omega) _) (by rw [HBL.out,HRes.out]) (by rw [HBL.out,HRes.out];rfl) (HTc.out.trans t4 (fun q hq=>HFt.out.l q hq)) (fun q hq=>by
    rcases x4 q hq with h1 | h1
    ·exact HXc.out q h1
    ·right;have:=HTc.out.size;omega) (fun q hq=>xx4 q (HXd.out q hq))
  ·have HRes:=aj (show (dK dt L n' fx r)=(k,bX dt (n':Nat) (framed (aG fx)++framed r),L) by unfold dK;rw [HK.out,if_neg hk0])
   have e9:(k != 0)=true:=by simpa using hk0
   clear hk hk0
   go_wp2_with fail
   go_ret
   exact nR (by rw [HBL.out,HRes.out];rfl) LG2.out HFt.out (by rw [HBL.out,HRes.out]) (by rw [HBL.out,HRes.out]) HTc.out HXc.out HXd.out
 ·have HBL:=aj (show cB d L r=(bE d (f.num:Nat),d,L) by rw [HBL0.out,if_neg hk0])
  have hsd:eF d (f.num:Nat)=d:=by unfold eF;rw [if_neg hk0]
  rw [hsd] at LG4
  have e9:(bE d (f.num:Nat) != 0)=true:=by simpa using hk0
  generalize bE d (f.num:Nat)=k at *
  clear hk0 hsd
  go_wp2_with fail
  go_ret
  exact nR (by rw [HBL.out];rfl) LG4.out (HF0.out.qd HFQ.out) (by rw [HBL.out]) (by rw [HBL.out]) T4.out X41.out X42.out
end
end Wl
end Go.Proofs.YtpcmlopbkehffaaGreat
namespace Go.Proofs.YtpcmlopbkehffaaGreat
open Go.RowKit Fm Dsk
namespace Wl
def aL (d:ak) (most:Int) (L:List FS) (r:List UInt8):Int×ak×List FS:=match L.getLast? with
 | none=>cB d L r
 | some f=>if most≤(f.all.length:Int) then cB d L r else
   (bU d (f.num:Nat) (framed r).length,bX d (f.num:Nat) (framed r),if bU d (f.num:Nat) (framed r).length=0 then L.set (L.length-1) (fK f (framed r) r) else L)
theorem fH.after {w w2 w':World} {gl gd:Nat} {X F:Nat→Prop} {v:Value} {d:ak} {most:Int} {L:List FS} {e:Ending} (hb:Below w.heap.size w w2) (h:fH w2 gl gd X F v d most L e w'):fH w gl gd X F v d most L e w':=by
 obtain ⟨he,X',h1,h2,h3,h4⟩:=h
 have hs:=hb.size
 exact ⟨he,X',h1.wide (fun q hq=>hq.imp id (fun hq=>⟨Nat.le_trans hs hq.1,hq.2⟩)),(Tn.of_below hb).trans h2 (fun q hq => .inl hq),fun q hq=>by
  rcases h3 q hq with h5 | h5
  ·exact .inl h5
  ·right;omega,h4⟩
structure LOk (L:List FS):Prop where
 num:∀ f∈L,f.num<64
 len:L.length≤63
 next:∀ f∈L,aO f<9223372036854775808
 all:∀ f∈L,f.all.length≤1000000000
 recs:∀ f∈L,f.recs.length≤1000000000
section
variable {w:World} {gl gd:Nat} {Qd X Pl F:Nat→Prop} {P:Nat→Nat→Prop} {g:Nat→Nat} {Af:Option Addr} {cf:Nat} {d:ak} {most:Int} {L:List FS}
theorem aaZ (Ar:Option Addr) (nr cr:Nat) (r:List UInt8) (h:bB w gl gd Qd X Pl P g Af cf d most L) (hF:d9 F Qd Pl P L) (ok:LOk L) (hr:SlN X w Ar nr cr r) (hnr:nr≤8192):Calls Tryz.prog 103 #[.pointer (some ⟨gl,0,none⟩),.slice Ar nr cr] w (fH w gl gd X F (.int .i64 (cB d L r).1) (cB d L r).2.1 most (cB d L r).2.2):=by
 by_cases h63:63≤L.length
 ·exact aeS Ar nr cr r h hF h63
 ·rcases Nat.eq_zero_or_pos L.length with h0 | h0
  ·exact aeT Ar nr cr r h hF (List.eq_nil_of_length_eq_zero h0) hr hnr
  ·have hml:L.length-1<L.length:=by omega
   have hmem:=List.getElem_mem hml
   exact aeU Ar nr cr r h hF (m:=L.length-1) (by omega) (by omega) (List.getElem?_eq_getElem hml) (ok.num _ hmem) (ok.next _ hmem) (fun f hf=>by have:=ok.recs f hf;omega) hr hnr
set_option maxRecDepth 20000 in
set_option maxHeartbeats 8000000 in
theorem qK (Ar:Option Addr) (nr cr:Nat) (r:List UInt8) (h:bB w gl gd Qd X Pl P g Af cf d most L) (hF:d9 F Qd Pl P L) (hk:om d L) (ok:LOk L) (hr:SlN X w Ar nr cr r) (hnr:nr≤8192) :
  Calls Tryz.prog 72 #[.pointer (some ⟨gl,0,none⟩),.slice Ar nr cr] w (fH w gl gd X F (.int .i64 (aL d most L r).1) (aL d most L r).2.1 most (aL d most L r).2.2):=by
 have HN:=aj (pV h)
 have HLk:=aj (uG h hk ok.num)
 have H:=aj h
 have HF:=aj hF
 have HR:=aj hr
 have HOk:=aj ok
 have HNr:=aj hnr
 have e1:decide ((nr:Int)>8192)=false:=decide_eq_false (by omega)
 have e2:decide ((8192:Int)<(nr:Int))=false:=decide_eq_false (by omega)
 have e3:decide (8192<nr)=false:=decide_eq_false (by omega)
 clear h hF hk ok hr hnr
 go_enter Tryz.func72,Tryz.ntmps72
 go_wp2_with fail
 (with_reducible refine Calls.mono HN.out ?_)
 rintro e w1 ⟨rfl,rfl⟩
 go_wp2_with fail
 (with_reducible refine Calls.mono HLk.out ?_)
 rintro e w2 ⟨rfl,hb⟩
 have HB2:=aj hb
 have H2:=aj (H.out.below hb)
 have HLa:=aj (rM H2.out)
 clear hb
 go_wp2_with fail
 (with_reducible refine Calls.mono HLa.out ?_)
 rintro e w3 ⟨rfl,q,hw3⟩
 have H3:=aj (show bB w3 gl gd Qd X Pl P g Af cf d most L by rw [hw3];exact H2.out.below (below_drewN (Below.refl _ _) q))
 have HB3:=aj (show Below w.heap.size w w3 by rw [hw3];exact below_drewN HB2.out q)
 clear hw3
 obtain ⟨c0,c1,c2⟩:=fB H3.out.whole
 rcases Nat.eq_zero_or_pos L.length with h0 | h0
 ·have hl0:L=[]:=List.eq_nil_of_length_eq_zero h0
  have HA:=aj (show aL d most L r=cB d L r by rw [hl0];rfl)
  rw [show gM g L.length=none by unfold gM;rw [if_pos h0]]
  clear h0 hl0
  go_wp2_with fail
  go_quiet (fail)
  have HBq:=aj (below_drewN HB3.out nq)
  have Hq:=aj (H3.out.below (below_drewN (Below.refl w3.heap.size w3) nq))
  clear c0 c1 c2
  generalize w3.drewN nq=wq at *
  have HBe:=aj (aaZ Ar nr cr r Hq.out HF.out HOk.out (HR.out.tn (Q:=fun _=>False) (Tn.of_below HBq.out) (fun _ e=>e.elim)) HNr.out)
  go_wp2_with fail
  (with_reducible refine Calls.mono HBe.out ?_)
  rintro e w5 hp
  obtain ⟨rfl,X',hlg,ht,hx1,hx2⟩:=fH.after HBq.out hp
  have HP:=aj (And.intro hlg (And.intro ht (And.intro hx1 hx2)))
  clear hp hlg ht hx1 hx2
  go_wp2_with fail
  go_ret
  exact acg (by rw [HA.out];rfl) HP.out.1 (by rw [HA.out]) (by rw [HA.out]) HP.out.2.1 HP.out.2.2.1 HP.out.2.2.2
 ·have hml:L.length-1<L.length:=by omega
  have hgl:L.getLast? = some L[L.length-1]:=by rw [List.getLast?_eq_getElem?,List.getElem?_eq_getElem hml]
  have hmem:=List.getElem_mem hml
  have hrb:=HOk.out.all _ hmem
  have hrr:=HOk.out.recs _ hmem
  rw [show gM g L.length=some ⟨g (L.length-1),0,none⟩ by unfold gM;rw [if_neg (by omega)]]
  have HMl:=aj hml
  have HF3:=aj (H3.out.fs _ hml)
  obtain ⟨f,hf⟩:∃ f,L[L.length-1]? = some f:=⟨_,List.getElem?_eq_getElem hml⟩
  have HFe:=aj (show ∀ h:L.length-1<L.length,L[L.length-1]'h=f from fun h=>by rw [List.getElem?_eq_getElem h] at hf;exact Option.some.inj hf)
  have hgl2:L.getLast? = some f:=by rw [List.getLast?_eq_getElem?];exact hf
  have hrb2:f.all.length≤1000000000:=by rw [← HFe.out hml];exact hrb
  have hrr2:f.recs.length≤1000000000:=by rw [← HFe.out hml];exact hrr
  have HF4:=aj (show dO w3 X (P (L.length-1)) (g (L.length-1)) f by rw [← HFe.out hml];exact HF3.out)
  clear hgl hrb hrr HF3 hmem hf
  have hgl:=hgl2
  have hrb:=hrb2
  have hrr:=hrr2
  have HF3:=HF4
  clear hgl2 hrb2 hrr2
  obtain ⟨Al,cl,Aa,ca,m1,-⟩:=HF3.out.mem
  obtain ⟨b0,b1,b2,b3,b4⟩:=jH m1
  by_cases hmost:most≤(f.all.length:Int)
  ·have HA:=aj (show aL d most L r=cB d L r by unfold aL;rw [hgl];show (if _ then _ else _)=_;rw [if_pos hmost])
   have g1:decide (most≤(f.all.length:Int))=true:=decide_eq_true hmost
   have g2:decide ((f.all.length:Int) ≥ most)=true:=decide_eq_true hmost
   clear h0 hgl hmost m1 hml
   go_wp2_with fail
   go_quiet (fail)
   have HBq:=aj (below_drewN HB3.out nq)
   have Hq:=aj (H3.out.below (below_drewN (Below.refl w3.heap.size w3) nq))
   clear c0 c1 c2 b0 b1 b2 b3 b4
   generalize w3.drewN nq=wq at *
   have HBe:=aj (aaZ Ar nr cr r Hq.out HF.out HOk.out (HR.out.tn (Q:=fun _=>False) (Tn.of_below HBq.out) (fun _ e=>e.elim)) HNr.out)
   go_wp2_with fail
   (with_reducible refine Calls.mono HBe.out ?_)
   rintro e w5 hp
   obtain ⟨rfl,X',hlg,ht,hx1,hx2⟩:=fH.after HBq.out hp
   have HP:=aj (And.intro hlg (And.intro ht (And.intro hx1 hx2)))
   clear hp hlg ht hx1 hx2
   go_wp2_with fail
   go_ret
   exact acg (by rw [HA.out];rfl) HP.out.1 (by rw [HA.out]) (by rw [HA.out]) HP.out.2.1 HP.out.2.2.1 HP.out.2.2.2
  ·have HA:=aj (show aL d most L r=(bU d (f.num:Nat) (framed r).length,bX d (f.num:Nat) (framed r),if bU d (f.num:Nat) (framed r).length=0 then L.set (L.length-1) (fK f (framed r) r) else L) by unfold aL;rw [hgl];show (if _ then _ else _)=_;rw [if_neg hmost])
   have g1:decide (most≤(f.all.length:Int))=false:=decide_eq_false hmost
   have g2:decide ((f.all.length:Int) ≥ most)=false:=decide_eq_false (by omega)
   clear h0 hgl hmost m1 hml
   go_wp2_with fail
   go_quiet (fail)
   have HBq:=aj (below_drewN HB3.out nq)
   have Hq:=aj (H3.out.below (below_drewN (Below.refl w3.heap.size w3) nq))
   clear c0 c1 c2 b0 b1 b2 b3 b4
   generalize w3.drewN nq=wq at *
   obtain ⟨c0,c1,c2⟩:=fB Hq.out.whole
   have hfq:dO wq X (P (L.length-1)) (g (L.length-1)) f:=by rw [← HFe.out HMl.out];exact Hq.out.fs _ HMl.out
   have HWr:=aj (zW X (P (L.length-1)) (g (L.length-1)) gd Qd d f none 0 0 [] Ar nr cr r wq hfq Hq.out.dk Hq.out.dx Hq.out.xlt (Hq.out.pd _ HMl.out) (Sl.none _) (HR.out.tn (Q:=fun _=>False) (Tn.of_below HBq.out) (fun _ e=>e.elim)) HNr.out (by omega) hrb hrr)
   rw [List.nil_append] at HWr
   clear hfq
   go_wp2_with fail
   (with_reducible refine Calls.mono HWr.out ?_)
   rintro e w5 ⟨rfl,Q2,X2,P2,hw⟩
   have HW:=aj hw
   have hsq:=HBq.out.size
   clear hw
   go_wp2_with fail
   go_ret
   have hTn:Tn F wq w5:=HW.out.tn.sub (fun q hq=>by
    rcases hq with hq | hq
    ·exact HF.out.p _ HMl.out q hq
    ·exact HF.out.d q hq)
   have hFt:∀ f',d9 (fun q=>F q∨wq.heap.size≤q) Q2 Pl (lu P (L.length-1) P2) (L.set (L.length-1) f'):=fun f'=>d9.set ((HF.out.wide (F':=fun q=>F q∨wq.heap.size≤q) (fun q hq => .inl hq)).qd (fun q hq=>(HW.out.q q hq).imp (HF.out.d q) id)) (fun q hq=>(HW.out.p q hq).imp (HF.out.p _ HMl.out q) id) _ _
   refine fH.after HBq.out ?_
   by_cases hk0:bU d (f.num:Nat) (framed r).length=0
   ·have hlg:=Hq.out.aed HMl.out HW.out
    rw [if_pos hk0] at hlg
    exact nR (by rw [HA.out];rfl) hlg (hFt _) (by rw [HA.out]) (by rw [HA.out];simp only;rw [if_pos hk0]) hTn HW.out.x HW.out.xx
   ·have hlg:=Hq.out.aed HMl.out HW.out
    rw [if_neg hk0] at hlg
    exact nR (by rw [HA.out];rfl) hlg (hFt _) (by rw [HA.out]) (by rw [HA.out];simp only;rw [if_neg hk0,← HFe.out HMl.out];exact List.set_getElem_self HMl.out) hTn HW.out.x HW.out.xx
end
end Wl
end Go.Proofs.YtpcmlopbkehffaaGreat
