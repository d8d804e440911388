/-
  The log with its disk in memory; what it answers without reading: none, last, next.
-/
import Derived.Test.YtpcmlopbkehffaaGreatOGAE
import Derived.Test.YtpcmlopbkehffaaGreatOGAF
import Derived.Test.YtpcmlopbkehffaaGreatOGAH
import Derived.Test.YtpcmlopbkehffaaGreatOGAQ
import Derived.Test.YtpcmlopbkehffaaGreatOGBA
set_option linter.unusedSimpArgs false
set_option linter.unusedVariables false
namespace Go.Proofs.YtpcmlopbkehffaaGreat
open Go.RowKit Fm Dsk
namespace Wl
abbrev dG (g:Nat):Value := .pointer (some ⟨g,0,none⟩)
def ptrs (g:Nat→Nat) (n:Nat):List Value:=(List.range n).map (fun i=>dG (g i))
theorem ni (g:Nat→Nat) (n:Nat):(ptrs g n).length=n:=by simp [ptrs]
theorem nV (g:Nat→Nat) {n i:Nat} (h:i<n):(ptrs g n)[i]? = some (dG (g i)):=by simp [ptrs,h]
theorem ac5 (g:Nat→Nat) (n:Nat):ptrs g (n+1)=ptrs g n++[dG (g n)]:=by simp [ptrs,List.range_succ]
def mP (gd:Nat) (most:Int) (Af:Option Addr) (n cf:Nat):Array Value:=#[.pointer (some ⟨gd,0,none⟩),.int .i64 most,.slice Af n cf]
structure bB (w:World) (gl gd:Nat) (Qd X Pl:Nat→Prop) (P:Nat→Nat→Prop) (g:Nat→Nat) (Af:Option Addr) (cf:Nat) (d:ak) (most:Int) (L:List FS):Prop where
 dk:Dk w gd Qd d
 dx:∀ q,Qd q→X q
 xlt:∀ q,X q→q<w.heap.size
 whole:Whole w gl 126 (mP gd most Af L.length cf)
 row:bC 132 w Af L.length cf (ptrs g L.length)
 fs:∀ i (h:i<L.length),dO w X (P i) (g i) L[i]
 plg:Pl gl
 pla:∀ k,aB Af=some k→Pl k
 plx:∀ q,Pl q→X q
 pld:∀ q,Pl q→¬ Qd q
 plp:∀ i,i<L.length→∀ q,P i q→¬ Pl q
 pd:∀ i,i<L.length→∀ q,P i q→¬ Qd q
 pp:∀ i j,i<L.length→j<L.length→i≠j→∀ q,P i q→¬ P j q
def LgX (w:World) (gl gd:Nat) (X:Nat→Prop) (d:ak) (most:Int) (L:List FS):Prop:=∃ Qd Pl P g Af cf,bB w gl gd Qd X Pl P g Af cf d most L
structure d9 (F Qd Pl:Nat→Prop) (P:Nat→Nat→Prop) (L:List FS):Prop where
 d : ∀ q,Qd q→F q
 l : ∀ q,Pl q→F q
 p : ∀ i,i<L.length→∀ q,P i q→F q
theorem d9.wide {F F' Qd Pl:Nat→Prop} {P:Nat→Nat→Prop} {L:List FS} (h:d9 F Qd Pl P L) (k:∀ q,F q→F' q):d9 F' Qd Pl P L:=⟨fun q hq=>k q (h.d q hq),fun q hq=>k q (h.l q hq),fun i hi q hq=>k q (h.p i hi q hq)⟩
theorem d9.qd {F Qd Qd' Pl:Nat→Prop} {P:Nat→Nat→Prop} {L:List FS} (h:d9 F Qd Pl P L) (k:∀ q,Qd' q→F q):d9 F Qd' Pl P L:=⟨k,h.l,h.p⟩
theorem bB.foot {w:World} {gl gd:Nat} {Qd X Pl:Nat→Prop} {P:Nat→Nat→Prop} {g:Nat→Nat} {Af:Option Addr} {cf:Nat} {d:ak} {most:Int} {L:List FS} (h:bB w gl gd Qd X Pl P g Af cf d most L):d9 X Qd Pl P L:=⟨h.dx,h.plx,fun i hi=>(h.fs i hi).px⟩
def LgF (w:World) (gl gd:Nat) (X F:Nat→Prop) (d:ak) (most:Int) (L:List FS):Prop:=∃ Qd Pl P g Af cf,bB w gl gd Qd X Pl P g Af cf d most L∧d9 F Qd Pl P L
theorem LgF.x {w:World} {gl gd:Nat} {X F:Nat→Prop} {d:ak} {most:Int} {L:List FS} (h:LgF w gl gd X F d most L):LgX w gl gd X d most L:=by
 obtain ⟨Qd,Pl,P,g,Af,cf,h1,-⟩:=h
 exact ⟨Qd,Pl,P,g,Af,cf,h1⟩
theorem LgX.f {w:World} {gl gd:Nat} {X:Nat→Prop} {d:ak} {most:Int} {L:List FS} (h:LgX w gl gd X d most L):LgF w gl gd X X d most L:=by
 obtain ⟨Qd,Pl,P,g,Af,cf,h1⟩:=h
 exact ⟨Qd,Pl,P,g,Af,cf,h1,h1.foot⟩
theorem LgF.wide {w:World} {gl gd:Nat} {X F F':Nat→Prop} {d:ak} {most:Int} {L:List FS} (h:LgF w gl gd X F d most L) (k:∀ q,F q→F' q):LgF w gl gd X F' d most L:=by
 obtain ⟨Qd,Pl,P,g,Af,cf,h1,h2⟩:=h
 exact ⟨Qd,Pl,P,g,Af,cf,h1,h2.wide k⟩
def dQ (F:Nat→Prop) (w w':World):Nat→Prop:=fun q=>F q∨(w.heap.size≤q∧q<w'.heap.size)
def fH (w:World) (gl gd:Nat) (X F:Nat→Prop) (v:Value) (d:ak) (most:Int) (L:List FS) (e:Ending) (w':World):Prop :=
 e = .returned v∧∃ X',LgF w' gl gd X' (dQ F w w') d most L∧Tn F w w'∧(∀ q,X' q→X q∨w.heap.size≤q)∧∀ q,X q→X' q
theorem bB.upper {w w':World} {gl gd:Nat} {Qd X Pl F:Nat→Prop} {P:Nat→Nat→Prop} {g:Nat→Nat} {Af:Option Addr} {cf:Nat} {d:ak} {most:Int} {L:List FS} (h:bB w' gl gd Qd X Pl P g Af cf d most L) (k:d9 (fun q=>F q∨w.heap.size≤q) Qd Pl P L):LgF w' gl gd X (dQ F w w') d most L :=
 ⟨Qd,Pl,P,g,Af,cf,h,fun q hq=>(k.d q hq).imp id (fun k1=>⟨k1,h.xlt q (h.dx q hq)⟩),fun q hq=>(k.l q hq).imp id (fun k1=>⟨k1,h.xlt q (h.plx q hq)⟩),fun i hi q hq=>(k.p i hi q hq).imp id (fun k1=>⟨k1,h.xlt q ((h.fs i hi).px q hq)⟩)⟩
theorem bB.below {w w':World} {gl gd:Nat} {Qd X Pl:Nat→Prop} {P:Nat→Nat→Prop} {g:Nat→Nat} {Af:Option Addr} {cf:Nat} {d:ak} {most:Int} {L:List FS} (h:bB w gl gd Qd X Pl P g Af cf d most L) (k:Below w.heap.size w w'):bB w' gl gd Qd X Pl P g Af cf d most L :=
 ⟨h.dk.below k,h.dx,fun q hq=>Nat.lt_of_lt_of_le (h.xlt q hq) k.size,h.whole.below k h.whole.lt,h.row.below k,fun i hi=>(h.fs i hi).below k,h.plg,h.pla,h.plx,h.pld,h.plp,h.pd,h.pp⟩
theorem LgX.below {w w':World} {gl gd:Nat} {X:Nat→Prop} {d:ak} {most:Int} {L:List FS} (h:LgX w gl gd X d most L) (k:Below w.heap.size w w'):LgX w' gl gd X d most L:=by
 obtain ⟨Qd,Pl,P,g,Af,cf,h⟩:=h
 exact ⟨Qd,Pl,P,g,Af,cf,h.below k⟩
theorem LgF.below {w w':World} {gl gd:Nat} {X F:Nat→Prop} {d:ak} {most:Int} {L:List FS} (h:LgF w gl gd X F d most L) (k:Below w.heap.size w w'):LgF w' gl gd X F d most L:=by
 obtain ⟨Qd,Pl,P,g,Af,cf,h,h2⟩:=h
 exact ⟨Qd,Pl,P,g,Af,cf,h.below k,h2⟩
theorem bB.disk {w w':World} {gl gd:Nat} {Qd X Pl Qd':Nat→Prop} {P:Nat→Nat→Prop} {g:Nat→Nat} {Af:Option Addr} {cf:Nat} {d d':ak} {most:Int} {L:List FS} (h:bB w gl gd Qd X Pl P g Af cf d most L)
  (hd:Dk w' gd Qd' d') (ht:Tn Qd w w') (hq:∀ q,Qd' q→Qd q∨w.heap.size≤q):bB w' gl gd Qd' (fun q=>X q∨Qd' q) Pl P g Af cf d' most L:=by
 have hx:∀ q,(X q∨Qd' q)→X q∨w.heap.size≤q:=fun q hq2=>by
  rcases hq2 with h1 | h1
  ·exact .inl h1
  ·rcases hq q h1 with h2 | h2
   ·exact .inl (h.dx q h2)
   ·exact .inr h2
 have hno:∀ q,X q→¬ Qd q→¬ Qd' q:=fun q h1 h2 h3=>by
  rcases hq q h3 with h4 | h4
  ·exact h2 h4
  ·have:=h.xlt q h1;omega
 refine ⟨hd,fun q hq2 => .inr hq2,fun q hq2=>?_,h.whole.tn ht (h.pld gl h.plg),h.row.stands (fun k hk=>ht.block k (h.row.dB k hk) (h.pld k (h.pla k hk))),fun i hi=>?_,h.plg,h.pla,fun q hq2 => .inl (h.plx q hq2),fun q hq2=>hno q (h.plx q hq2) (h.pld q hq2),h.plp,fun i hi q hq2=>hno q ((h.fs i hi).px q hq2) (h.pd i hi q hq2),h.pp⟩
 ·rcases hq2 with h1 | h1
  ·exact Nat.lt_of_lt_of_le (h.xlt q h1) ht.size
  ·exact hd.qlt q h1
 ·exact ((h.fs i hi).more hx (fun q hq2 => .inl ((h.fs i hi).px q hq2))).tn ht (h.pd i hi) (fun q hq2 => .inl (.inl (h.dx q hq2)))
theorem fB {w:World} {gl gd:Nat} {most:Int} {Af:Option Addr} {n cf:Nat} (h:Whole w gl 126 (mP gd most Af n cf)) :
  w.cell? ⟨gl,0,none⟩=some (.pointer (some ⟨gd,0,none⟩))∧w.cell? ⟨gl,1,none⟩=some (.int .i64 most)∧w.cell? ⟨gl,2,none⟩=some (.slice Af n cf):=⟨h.cell 0 _ rfl,h.cell 1 _ rfl,h.cell 2 _ rfl⟩
section
variable {w:World} {gl gd:Nat} {Qd X Pl:Nat→Prop} {P:Nat→Nat→Prop} {g:Nat→Nat} {Af:Option Addr} {cf:Nat} {d:ak} {most:Int} {L:List FS}
set_option maxHeartbeats 2000000 in
theorem pV (h:bB w gl gd Qd X Pl P g Af cf d most L):Calls Tryz.prog 58 #[.pointer (some ⟨gl,0,none⟩)] w (fun e w'=>e = .returned (.bool false)∧w=w'):=by
 obtain ⟨c0,-,-⟩:=fB h.whole
 clear h
 go_enter Tryz.func58,Tryz.ntmps58
 go_wp2_with fail
 go_ret
 exact ⟨rfl,rfl⟩
def gM (g:Nat→Nat) (n:Nat):Option Addr:=if n=0 then none else some ⟨g (n-1),0,none⟩
theorem uY (h:bB w gl gd Qd X Pl P g Af cf d most L) {i:Nat} (hi:i<L.length):∃ b off,Af=some ⟨b,off,none⟩∧w.cell? ⟨b,off+i,none⟩=some (dG (g i)):=by
 have hne:ptrs g L.length≠[]:=by
  intro e
  have:=congrArg List.length e
  rw [ni] at this
  simp at this
  rw [this] at hi
  simp at hi
 obtain ⟨b,off,e,hc⟩:=h.row.holds hne
 exact ⟨b,off,e,hc i _ (nV g hi)⟩
set_option maxHeartbeats 4000000 in
theorem rM (h:bB w gl gd Qd X Pl P g Af cf d most L):Calls Tryz.prog 102 #[.pointer (some ⟨gl,0,none⟩)] w (fun e w'=>e = .returned (.pointer (gM g L.length))∧∃ q,w'=w.drewN q):=by
 obtain ⟨c0,c1,c2⟩:=fB h.whole
 have hmx:=h.row.2.2.1
 have hcp:=h.row.2.1
 rcases Nat.eq_zero_or_pos L.length with h0 | h0
 ·have HL:=aj (show gM g L.length=none by unfold gM;rw [if_pos h0])
  rw [h0] at c2
  clear h hmx hcp h0
  go_enter Tryz.func102,Tryz.ntmps102
  go_wp2_with fail
  go_ret
  exact ⟨by rw [HL.out];rfl,0,rfl⟩
 ·obtain ⟨m,hm⟩:∃ m,L.length=m+1:=⟨L.length-1,by omega⟩
  have HL:=aj (show gM g L.length=some ⟨g m,0,none⟩ by unfold gM;rw [hm,if_neg (by omega),Nat.add_sub_cancel])
  obtain ⟨b,off,rfl,hc⟩:=uY h (i:=m) (by omega)
  rw [hm] at c2 hcp
  have e1:((m:Int)+1==0)=false:=by rw [beq_eq_false_iff_ne];omega
  have e2:(((m+1:Nat):Int)==0)=false:=by rw [beq_eq_false_iff_ne];omega
  have hwp:IntKind.i64.wrap (m:Int)=(m:Int):=IntWalk.i64_in _ (by omega)
  have n1:(m:Int)<(m:Int)+1:=by omega
  have n2:(0:Int)≤(m:Int):=by omega
  clear h h0 hm
  go_enter Tryz.func102,Tryz.ntmps102
  go_wp2_with fail
  go_quiet (fail)
  go_wp2_with fail
  go_ret
  exact ⟨by rw [HL.out];rfl,nq,rfl⟩
def gI (L:List FS):Nat:=match L.getLast? with
 | some f=>aO f
 | none=>0
set_option maxHeartbeats 4000000 in
theorem yu (h:bB w gl gd Qd X Pl P g Af cf d most L) (hn:gI L<18446744073709551616) (hr:∀ f∈L,f.recs.length≤9223372036854775807):Calls Tryz.prog 73 #[.pointer (some ⟨gl,0,none⟩)] w (fun e w'=>e = .returned (.int .u64 (gI L:Nat))∧Below w.heap.size w w'):=by
 have HLa:=aj (rM h)
 rcases Nat.eq_zero_or_pos L.length with h0 | h0
 ·have hl0:L=[]:=List.eq_nil_of_length_eq_zero h0
  have HN:=aj (show gI L=0 by rw [hl0];rfl)
  rw [show gM g L.length=none by unfold gM;rw [if_pos h0]] at HLa
  clear h h0 hl0 hn hr
  go_enter Tryz.func73,Tryz.ntmps73
  go_wp2_with fail
  (with_reducible refine Calls.mono HLa.out ?_)
  rintro e w1 ⟨rfl,q,rfl⟩
  go_wp2_with fail
  go_ret
  exact ⟨by rw [HN.out];rfl,below_drewN (Below.refl _ _) q⟩
 ·obtain ⟨m,hm⟩:∃ m,L.length=m+1:=⟨L.length-1,by omega⟩
  have hml:m<L.length:=by omega
  have HN:=aj (show gI L=aO L[m] by
   unfold gI
   rw [List.getLast?_eq_getElem?,hm,Nat.add_sub_cancel,List.getElem?_eq_getElem hml])
  rw [show gM g L.length=some ⟨g m,0,none⟩ by unfold gM;rw [hm,if_neg (by omega),Nat.add_sub_cancel]] at HLa
  have HF:=aj (fun (W:World) (hb:Below w.heap.size w W)=>xA X (P m) (g m) L[m] W ((h.fs m hml).below hb) (by rw [← HN.out];exact hn) (hr _ (List.getElem_mem hml)))
  clear h h0 hn hr
  go_enter Tryz.func73,Tryz.ntmps73
  go_wp2_with fail
  (with_reducible refine Calls.mono HLa.out ?_)
  rintro e w1 ⟨rfl,q,rfl⟩
  have HB1:=aj (below_drewN (Below.refl w.heap.size w) q)
  go_wp2_with fail
  (with_reducible refine Calls.mono (HF.out _ HB1.out) ?_)
  rintro e w2 ⟨rfl,q2,rfl⟩
  have HB2:=aj (below_drewN HB1.out q2)
  go_wp2_with fail
  go_ret
  exact ⟨by rw [HN.out];rfl,by first | exact HB2.out | exact below_drewN (Below.refl _ _) _⟩
end
end Wl
end Go.Proofs.YtpcmlopbkehffaaGreat
namespace Go.Proofs.YtpcmlopbkehffaaGreat
open Go.RowKit Fm Dsk
namespace Wl
set_option maxHeartbeats 1000000 in
theorem afO (A1 A2:Option Addr) (n1 c1 n2 c2:Nat) (l:List UInt8) (w:World) (h1:Sl w A1 n1 c1 l) (h2:Sl w A2 n2 c2 l) :
  Calls Tryz.prog 126 #[.slice A1 n1 c1,.slice A2 n2 c2] w fun e w'=>e = .returned (.bool true)∧w=w':=by
 have e1:=adN h1
 have e2:=adN h2
 generalize strOf l=s at *
 clear h1 h2
 go_enter Tryz.func126,Tryz.ntmps126
 go_wp2_with fail
 go_ret
 exact ⟨by simp,rfl⟩
def om (d:ak) (L:List FS):Prop:=d.down=false→(dW d.F).length=L.length∧∀ f,L.getLast? = some f→∃ ff,d.F f.num=some ⟨f.all,ff⟩
abbrev OneC (w1:World) (g:Nat) (o:Nat) (v:Value) (W:World):Prop:=Below w1.heap.size w1 W∧W.cell? ⟨g,o,none⟩=some v
abbrev kF (w1:World) (g o:Nat) (v:Value) (g' o':Nat) (v':Value) (W:World):Prop:=Below w1.heap.size w1 W∧W.cell? ⟨g,o,none⟩=some v∧W.cell? ⟨g',o',none⟩=some v'
theorem qw {w1 W W':World} {g o g' o':Nat} {v v':Value} (h:kF w1 g o v g' o' v' W) (hb:Below W.heap.size W W'):kF w1 g o v g' o' v' W':=⟨h.1.trans (hb.mono h.1.size),by rw [hb.cell (lt_of_cell h.2.1)];exact h.2.1,by rw [hb.cell (lt_of_cell h.2.2)];exact h.2.2⟩
section
variable {w:World} {gl gd:Nat} {Qd X Pl:Nat→Prop} {P:Nat→Nat→Prop} {g:Nat→Nat} {Af:Option Addr} {cf:Nat} {d:ak} {most:Int} {L:List FS}
set_option maxRecDepth 20000 in
set_option maxHeartbeats 8000000 in
theorem agy (h:bB w gl gd Qd X Pl P g Af cf d most L) (hk:om d L) (hup:d.down=false) (hnum:∀ f∈L,f.num<64):Calls Tryz.prog 90 #[.pointer (some ⟨gl,0,none⟩)] w (fun e w'=>e = .returned (.bool true)∧Below w.heap.size w w'):=by
 obtain ⟨hlen,hlast⟩:=hk hup
 obtain ⟨c0,c1,c2⟩:=fB h.whole
 have H:=aj h
 have HFi:=aj (fun (W:World) (hb:Below w.heap.size w W)=>qW gd Qd d W (h.dk.below hb))
 rw [show (mI d.F)=mI d.F from rfl] at HFi
 unfold mI at HFi
 rw [hlen] at HFi
 have S0:kF w gl 0 (.pointer (some ⟨gd,0,none⟩)) gl 2 (.slice Af L.length cf) w:=⟨Below.refl _ _,c0,c2⟩
 have e1:((L.length:Int) != (L.length:Int))=false:=by simp
 have e2:(L.length != L.length)=false:=by simp
 have HLa:=aj (fun (W:World) (hb:Below w.heap.size w W)=>rM (h.below hb))
 have HLast:=aj hlast
 have HNum:=aj hnum
 clear c0 c1 c2 hk hlast hnum h hlen
 go_enter Tryz.func90,Tryz.ntmps90
 go_wp2_with fail
 go_region_held3 (kF w gl 0 (.pointer (some ⟨gd,0,none⟩)) gl 2 (.slice Af L.length cf)) (first | assumption | (refine qw (by assumption) (by assumption)) | (refine qw (by assumption) (Below.drew (Below.refl _ _))))
  (first | (go_at_call 50;(with_reducible refine Calls.mono (HFi.out _ (And.left (by assumption))) ?_);rintro e w' ⟨A1,c1,rfl,ho',hb'⟩) | fail)
 have hS:kF w gl 0 (.pointer (some ⟨gd,0,none⟩)) gl 2 (.slice Af L.length cf) w':=by assumption
 obtain ⟨w1,hw1⟩:∃ w1:World,w1=w':=⟨_,rfl⟩
 subst hw1
 have HB1:=aj hS.1
 clear ho' hb' hS
 go_wp2_with fail
 (with_reducible refine Calls.mono (HLa.out _ HB1.out) ?_)
 rintro e w2 ⟨rfl,q,rfl⟩
 have HB2:=aj (below_drewN HB1.out q)
 generalize w1.drewN q=w2 at *
 rcases Nat.eq_zero_or_pos L.length with h0 | h0
 ·rw [show gM g L.length=none by unfold gM;rw [if_pos h0]]
  go_wp2_with fail
  go_ret
  exact ⟨rfl,HB2.out⟩
 ·obtain ⟨m,hm⟩:∃ m,L.length=m+1:=⟨L.length-1,by omega⟩
  have hml:m<L.length:=by omega
  rw [show gM g L.length=some ⟨g m,0,none⟩ by unfold gM;rw [hm,if_neg (by omega),Nat.add_sub_cancel]]
  have hgl:L.getLast? = some L[m]:=by rw [List.getLast?_eq_getElem?,hm,Nat.add_sub_cancel,List.getElem?_eq_getElem hml]
  obtain ⟨ff,hff⟩:=HLast.out _ hgl
  have hn64:=HNum.out _ (List.getElem_mem hml)
  have H2:=aj (H.out.below HB2.out)
  have HF:=aj (H2.out.fs m hml)
  have hk0:bE d (L[m].num:Nat)=0:=by
   unfold bE
   rw [hup]
   simp only [Bool.false_eq_true,if_false]
   rw [if_pos ⟨by omega,by rw [show ((L[m].num:Nat):Int).toNat=L[m].num by omega,hff];rfl⟩]
  have hrb:kV d (L[m].num:Nat)=L[m].all:=by
   unfold kV
   rw [if_pos hk0,show ((L[m].num:Nat):Int).toNat=L[m].num by omega,gG hff]
  have HRd:=aj (fun (W:World) (hb:Below w2.heap.size w2 W)=>yY (L[m].num:Nat) (by omega) (by omega) gd Qd d W (H2.out.dk.below hb))
  rw [hk0,hrb] at HRd
  generalize L[m]=f at *
  clear hff hn64 hk0 hrb hgl hup
  obtain ⟨Ar,cr,Aa,ca,m1,m2,m3,m4,m5⟩:=HF.out.mem
  obtain ⟨b0,b1,b2,b3,b4⟩:=jH m1
  obtain ⟨c0,c1',c2⟩:=fB H2.out.whole
  have S1:kF w2 gl 0 (.pointer (some ⟨gd,0,none⟩)) (g m) 0 (.int .i64 (f.num:Nat)) w2:=⟨Below.refl _ _,c0,b0⟩
  have HAll:=aj (fun (W:World) (hb:Below w2.heap.size w2 W)=>And.intro (m3.sl.below hb) ((hb.cell (p:=⟨g m,3,none⟩) m1.lt).trans b3))
  have HEq:=aj (fun (A:Option Addr) (c:Nat) (W:World) (h1:Sl W A f.all.length c f.all) (h2:Below w2.heap.size w2 W)=>afO A Aa f.all.length c f.all.length ca f.all W h1 (HAll.out W h2).1)
  unfold qH at HRd
  clear m1 m2 m3 m4 m5 b0 b1 b2 b3 b4 c0 c1' c2 h0
  go_wp2_with fail
  go_region_held3 (kF w2 gl 0 (.pointer (some ⟨gd,0,none⟩)) (g m) 0 (.int .i64 (f.num:Nat))) (first | assumption | (refine qw (by assumption) (by assumption)) | (refine qw (by assumption) (Below.drew (Below.refl _ _))))
   (first | (go_at_call 55;(with_reducible refine Calls.mono (HRd.out _ (And.left (by assumption))) ?_);rintro e w' ⟨A3,c3,rfl,ho',hb'⟩) | fail)
  have hS2:kF w2 gl 0 (.pointer (some ⟨gd,0,none⟩)) (g m) 0 (.int .i64 (f.num:Nat)) w':=by assumption
  have b3':=(HAll.out w' hS2.1).2
  have HE:=aj (HEq.out A3 c3 w' ho'.sl hS2.1)
  have HB3:=aj (HB2.out.trans (hS2.1.mono HB2.out.size))
  clear ho' hb' hS2
  go_wp2_with fail
  (with_reducible refine Calls.mono HE.out ?_)
  rintro e w4 ⟨rfl,rfl⟩
  go_wp2_with fail
  go_ret
  exact ⟨rfl,HB3.out⟩
end
end Wl
end Go.Proofs.YtpcmlopbkehffaaGreat
namespace Go.Proofs.YtpcmlopbkehffaaGreat
open Go.RowKit Fm Dsk
namespace Wl
section
variable {w:World} {gl gd:Nat} {Qd X Pl:Nat→Prop} {P:Nat→Nat→Prop} {g:Nat→Nat} {Af:Option Addr} {cf:Nat} {d:ak} {most:Int} {L:List FS}
set_option maxHeartbeats 4000000 in
theorem uG (h:bB w gl gd Qd X Pl P g Af cf d most L) (hk:om d L) (hnum:∀ f∈L,f.num<64):Calls Tryz.prog 59 #[.pointer (some ⟨gl,0,none⟩)] w (fun e w'=>e = .returned (.tuple #[])∧Below w.heap.size w w'):=by
 obtain ⟨c0,c1,c2⟩:=fB h.whole
 have HDn:=aj (oG gd Qd d w h.dk)
 cases hd:d.down
 ·have HKn:=aj (agy h hk hd hnum)
  rw [hd] at HDn
  clear h hk hnum hd
  go_enter Tryz.func59,Tryz.ntmps59
  go_wp2_with fail
  (with_reducible refine Calls.mono HDn.out ?_)
  rintro e w1 ⟨rfl,rfl⟩
  go_wp2_with fail
  (with_reducible refine Calls.mono HKn.out ?_)
  rintro e w2 ⟨rfl,hb⟩
  have HB:=aj hb
  clear hb
  go_wp2_with fail
  go_end0
  exact ⟨rfl,HB.out⟩
 ·rw [hd] at HDn
  clear h hk hnum hd
  go_enter Tryz.func59,Tryz.ntmps59
  go_wp2_with fail
  (with_reducible refine Calls.mono HDn.out ?_)
  rintro e w1 ⟨rfl,rfl⟩
  go_wp2_with fail
  go_end0
  exact ⟨rfl,Below.refl _ _⟩
def aS (L:List FS):Nat:=match L with
 | []=>0
 | f::_=>f.first
set_option maxHeartbeats 4000000 in
theorem afX (h:bB w gl gd Qd X Pl P g Af cf d most L) (hk:om d L) (hnum:∀ f∈L,f.num<64) (hf:aS L≤9223372036854775807):Calls Tryz.prog 70 #[.pointer (some ⟨gl,0,none⟩)] w (bT w.heap.size w (.int .i64 (aS L:Nat))):=by
 have HN:=aj (pV h)
 have HLk:=aj (uG h hk hnum)
 have H:=aj h
 rcases L with _ | ⟨f,L⟩
 ·have HF0:=aj (show aS []=0 from rfl)
  generalize aS []=v at *
  clear h hk hnum hf
  go_enter Tryz.func70,Tryz.ntmps70
  go_wp2_with fail
  (with_reducible refine Calls.mono HN.out ?_)
  rintro e w1 ⟨rfl,rfl⟩
  go_wp2_with fail
  (with_reducible refine Calls.mono HLk.out ?_)
  rintro e w2 ⟨rfl,hb⟩
  obtain ⟨c0,c1,c2⟩:=fB (H.out.below hb).whole
  have HB:=aj hb
  clear hb
  simp only [List.length_nil] at c2
  go_wp2_with fail
  go_ret
  exact bH (by rw [HF0.out];rfl) HB.out
 ·have HF0:=aj (show aS (f::L)=f.first from rfl)
  have hf2:f.first≤9223372036854775807:=hf
  generalize aS (f::L)=v at *
  clear h hk hnum hf
  go_enter Tryz.func70,Tryz.ntmps70
  go_wp2_with fail
  (with_reducible refine Calls.mono HN.out ?_)
  rintro e w1 ⟨rfl,rfl⟩
  go_wp2_with fail
  (with_reducible refine Calls.mono HLk.out ?_)
  rintro e w2 ⟨rfl,hb⟩
  have H2:=H.out.below hb
  obtain ⟨c0,c1,c2⟩:=fB H2.whole
  obtain ⟨b,off,rfl,hc⟩:=uY H2 (i:=0) (by simp)
  obtain ⟨Ar,cr,Aa,ca,m1,-⟩:=(H2.fs 0 (by simp)).mem
  obtain ⟨b0,b1,-,-,-⟩:=jH m1
  have HB:=aj hb
  simp only [List.getElem_cons_zero] at b1
  simp only [List.length_cons] at c2
  rw [Nat.add_zero] at hc
  have e1:(((L.length:Nat):Int)+1==0)=false:=by rw [beq_eq_false_iff_ne];omega
  have e2:(((L.length+1:Nat):Int)==0)=false:=by rw [beq_eq_false_iff_ne];omega
  have n1:(0:Int)<((L.length:Nat):Int)+1:=by omega
  have n2:0<L.length+1:=by omega
  have hwi:IntKind.i64.wrap (f.first:Int)=(f.first:Int):=IntWalk.i64_in _ (by omega)
  have HF2:=aj hf2
  generalize f.first=x at *
  clear hb H2 m1 b0 hf2
  go_wp2_with fail
  go_ret
  exact bH (by rw [HF0.out,← hwi];rfl) HB.out
end
end Wl
end Go.Proofs.YtpcmlopbkehffaaGreat
namespace Go.Proofs.YtpcmlopbkehffaaGreat
open Go.RowKit Fm Dsk
namespace Wl
def aC (L:List FS):List (List UInt8):=(L.map FS.recs).flatten
theorem su {L:List FS} {k:Nat} (hk:k<L.length):aC (L.take (k+1))=aC (L.take k)++L[k].recs:=by
 unfold aC
 rw [List.take_succ_eq_append_getElem hk,List.map_append,List.flatten_append]
 simp
theorem ajt {L:List FS} {k:Nat} (hk:k<L.length):(aC (L.take k)).length+L[k].recs.length≤(aC L).length:=by
 have h1:aC L=aC (L.take (k+1))++aC (L.drop (k+1)):=by
  unfold aC
  rw [← List.flatten_append,← List.map_append,List.take_append_drop]
 rw [h1,List.length_append,su hk,List.length_append]
 omega
theorem dY.at_ {w:World} {X:Nat→Prop} {A:Option Addr} {n c:Nat} {ls:List (List UInt8)} (h:dY w X A n c ls) {k:Nat} (hk:k<ls.length) :
  ∃ b off A' n' c',A=some ⟨b,off,.none⟩∧w.cell? ⟨b,off+k,.none⟩=some (.slice A' n' c')∧Sl w A' n' c' ls[k]:=by
 obtain ⟨b,off,A',n',c',e,h1,h2,_⟩:=h.sls.at_ hk
 exact ⟨b,off,A',n',c',e,h1,h2⟩
def aar (w:World) (ls:List (List UInt8)) (e:Ending) (w':World):Prop:=∃ A c,e = .returned (.slice A ls.length c)∧gU w.heap.size w' A ls.length c ls∧Below w.heap.size w w'
section
variable {w:World} {gl gd:Nat} {Qd X Pl:Nat→Prop} {P:Nat→Nat→Prop} {g:Nat→Nat} {Af:Option Addr} {cf:Nat} {d:ak} {most:Int} {L:List FS}
set_option maxRecDepth 20000 in
set_option maxHeartbeats 8000000 in
theorem ajr (h:bB w gl gd Qd X Pl P g Af cf d most L) (hk:om d L) (hnum:∀ f∈L,f.num<64) (hr:(aC L).length≤1000000) (hb9:∀ f∈L,∀ r∈f.recs,r.length≤140737488355328):Calls Tryz.prog 29 #[.pointer (some ⟨gl,0,none⟩)] w (aar w (aC L)):=by
 have HN:=aj (pV h)
 have HLk:=aj (uG h hk hnum)
 have H:=aj h
 have HR:=aj hr
 have H9:=aj hb9
 have hmx:=h.row.2.2.1
 have hcp:=h.row.2.1
 clear h hk hnum hr hb9
 go_enter Tryz.func29,Tryz.ntmps29
 go_wp2_with fail
 (with_reducible refine Calls.mono HN.out ?_)
 rintro e w1 ⟨rfl,rfl⟩
 go_wp2_with fail
 (with_reducible refine Calls.mono HLk.out ?_)
 rintro e w2 ⟨rfl,hb⟩
 have H2:=aj (H.out.below hb)
 obtain ⟨c0,c1,c2⟩:=fB H2.out.whole
 have HB2:=aj hb
 clear hb
 go_wp2_with fail
 go_loopw [3,17] (fun vo vi wr=>∃ (i m:Nat) (A:Option Addr) (c:Nat),i≤L.length∧vi = .int .i64 (i:Nat)∧vo = .slice A m c∧m=(aC (L.take i)).length∧Hid (gU w.heap.size wr A m c (aC (L.take i)))∧Hid (Below w.heap.size w wr)) (fun _ vi _=>L.length-(intOf vi).toNat)
 case atStart=>exact ⟨0,0,none,0,Nat.zero_le _,rfl,rfl,rfl,aj (gU.none _ _),HB2⟩
 case round =>
  obtain ⟨i,m,A,c,hi,rfl,rfl,hm,HO,HB⟩:=hrel
  by_cases hlt:i<L.length
  ·have Hr:=aj (H.out.below HB.out)
   obtain ⟨b,off,hAf,hc⟩:=uY Hr.out hlt
   subst hAf
   have HT:=aj (su hlt)
   have HLe:=aj (ajt hlt)
   have HM:=aj (H9.out _ (List.getElem_mem hlt))
   obtain ⟨Ar,cr,Aa,ca,m1,m2,-,-,-⟩:=(H.out.fs i hlt).mem
   obtain ⟨-,-,b2',-,-⟩:=jH m1
   have b2:=(HB.out.cell (p:=⟨g i,2,none⟩) m1.lt).trans b2'
   have HRc:=aj (fun (W:World) (hb:Below w.heap.size w W)=>m2.sls.below hb)
   have hrmx:=m2.sls.max
   have hrcp:=m2.sls.cap
   have x1:(i:Int)<(L.length:Int):=by omega
   have x2:(0:Int)≤(i:Int):=by omega
   have HK:=aj hlt
   have HMm:=aj hm
   generalize hf:L[i]=f at *
   clear m1 m2 hf hm b2'
   go_wp2_with fail
   go_loopw [3,26] (fun vo vj wr=>∃ (j m':Nat) (A:Option Addr) (c:Nat),j≤f.recs.length∧vj = .int .i64 (j:Nat)∧vo = .slice A m' c∧m'≤m+j∧m+j≤m'∧Hid (gU w.heap.size wr A m' c (aC (L.take i)++f.recs.take j))∧Hid (Below w.heap.size w wr)) (fun _ vj _=>f.recs.length-(intOf vj).toNat)
   case atStart=>exact ⟨0,m,A,c,Nat.zero_le _,rfl,rfl,by omega,by omega,aj (by rw [List.take_zero,List.append_nil];exact HO.out),HB⟩
   case round =>
    obtain ⟨j,m',A',c',hj,rfl,rfl,hm1,hm2,HOj,HBj⟩:=hrel
    by_cases hjt:j<f.recs.length
    ·obtain ⟨b',off',A3,n3,c3,hAr,hcell,hsl,-⟩:=(HRc.out wr HBj.out).at_ hjt
     subst hAr
     have HTk:=aj (show aC (L.take i)++f.recs.take j++[f.recs[j]]=aC (L.take i)++f.recs.take (j+1) by rw [List.append_assoc,List.take_succ_eq_append_getElem hjt])
     have Hcl:=aj (tZ A3 n3 c3 _ wr hsl (by rw [← hsl.len];exact HM.out _ (List.getElem_mem hjt)))
     have y1:(j:Int)<(f.recs.length:Int):=by omega
     have y2:(0:Int)≤(j:Int):=by omega
     have HJ:=aj hjt
     generalize f.recs[j]=r at *
     clear hjt hsl
     go_wp2_with (first
      | (go_at_call 60;(with_reducible refine Calls.mono Hcl.out ?_);rintro e w3 ⟨A5,c5,rfl,ho',hb'⟩;have Ho3:=aj ho';have Ho2:=aj (HOj.out.later hb');have Hb2:=aj (HBj.out.trans (hb'.mono HBj.out.size));have Hsz:=aj (fun k hk=>(HOj.out.from_ k hk).2);clear ho' hb')
      | (at_builtin;refine aea rfl (.tmp 30) (.tmp 33) rfl w.heap.size A' m' c' _ rfl (Ho2.out.later ((Below.refl _ _).alloc (Nat.le_refl _) _)) _ 1 1 [r] rfl (acW _ Ho3.out.sl (Ho3.out.away _ Hsz.out)) (m'+1) _ rfl HTk.out (by have:=HLe.out;have:=HR.out;have:=HMm.out;omega) (by have:=Hb2.out.size;simp;omega) ?_;intro A4 c4 w4 ho' hb' hg';have Ho4:=aj ho';have Hb4:=aj ((Hb2.out.alloc Hb2.out.size _).trans hb');clear ho' hb' hg')
      | fail)
     go_roundw
     case rel=>exact ⟨j+1,m'+1,A4,c4,by have:=HJ.out;omega,by go_num,rfl,by omega,by omega,Ho4,Hb4⟩
     case measure=>have:=HJ.out;simp [intOf];omega
    ·obtain rfl:j=f.recs.length:=by omega
     have HO2:=aj (show gU w.heap.size wr A' m' c' (aC (L.take (i+1))) by have:=HOj.out;rwa [List.take_length,← HT.out] at this)
     clear hjt
     go_wp2_with fail
     go_roundw
     case rel=>exact ⟨i+1,m',A',c',by have:=HK.out;omega,by go_num,rfl,by rw [HT.out,List.length_append];have:=HMm.out;omega,HO2,HBj⟩
     case measure=>have:=HK.out;simp [intOf];omega
  ·obtain rfl:i=L.length:=by omega
   have HO2:=aj (show gU w.heap.size wr A m c (aC L) by have:=HO.out;rwa [List.take_of_length_le (Nat.le_refl _)] at this)
   have hm2:m=(aC L).length:=by rw [hm,List.take_of_length_le (Nat.le_refl _)]
   subst hm2
   clear hlt
   go_wp2_with fail
   go_ret
   exact ⟨A,c,rfl,HO2.out,HB.out⟩
end
end Wl
end Go.Proofs.YtpcmlopbkehffaaGreat
namespace Go.Proofs.YtpcmlopbkehffaaGreat
open Go.RowKit Fm Dsk
namespace Wl
def iV (B:Nat) (w:World) (A:Option Addr) (n c:Nat) (ls:List (List UInt8)):Prop:=dY w (fun q=>q<B∨aB A=some q) A n c ls∧∀ k,aB A=some k→B≤k
theorem iV.none (B:Nat) (w:World):iV B w .none 0 0 []:=⟨dY.none _ _,fun k hk=>by cases hk⟩
theorem iV.later {B:Nat} {w w':World} {A:Option Addr} {n c:Nat} {ls:List (List UInt8)} (h:iV B w A n c ls) (b:Below w.heap.size w w'):iV B w' A n c ls :=
 ⟨h.1.tn (Q:=fun _=>False) (Tn.of_below b) (fun _ _ e=>e) (fun _ e=>e.elim),h.2⟩
theorem iV.tn {B:Nat} {w w':World} {A:Option Addr} {n c:Nat} {ls:List (List UInt8)} {Q:Nat→Prop} (h:iV B w A n c ls) (t:Tn Q w w') (hq:∀ q,Q q→q<B):iV B w' A n c ls :=
 ⟨h.1.tn t (fun b hb hq2=>by have:=h.2 b hb;have:=hq b hq2;omega) (fun q hq2 => .inl (.inl (hq q hq2))),h.2⟩
theorem iV.app {B:Nat} {w wc w4:World} {A A4 A5:Option Addr} {n c c4 n5 c5:Nat} {ls:List (List UInt8)} {l:List UInt8} {vs:List Value} (hA:∀ k,aB A=some k→B≤k) (hr:bC 109 w A n c vs) (hl:vs.length=ls.length)
  (he:∀ i (h:i<ls.length),∃ A' n' c',vs[i]? = some (.slice A' n' c')∧SlN (fun q=>q<B∨aB A=some q) w A' n' c' ls[i]) (b:Below w.heap.size w wc) (o:Own w.heap.size wc A5 n5 c5 l) (hB:B≤w.heap.size) {wd:World} (bd:Below wc.heap.size wc wd) (g:wd.grownBy w4 (aB A)) (r:bC 109 w4 A4 (n+1) c4 (vs++[.slice A5 n5 c5])) (ha:∀ k,aB A4=some k→aB A=some k∨wd.heap.size≤k):iV B w4 A4 (n+1) c4 (ls++[l]):=by
 have hs:=b.size
 have hsd:=bd.size
 have T:Tn (fun q=>aB A=some q) w w4:=((Tn.of_below b).iQ bd).grown g (fun j hj => .inl hj)
 have TC:Tn (fun q=>aB A=some q) wc w4:=(Tn.of_below bd).grown g (fun j hj => .inl hj)
 refine ⟨dY.snoc r hl (fun i hi=>?_) ?_,fun k hk=>?_⟩
 ·obtain ⟨A',n',c',e,h1⟩:=he i hi
  have h2:SlN (fun q=>(q<B∨aB A=some q)∨w.heap.size≤q) w A' n' c' ls[i]:=h1.more (fun q hq=>hq)
  have h3:=h2.tn T (fun q hq => .inl (.inl (.inr hq)))
  refine ⟨A',n',c',e,h3.more (fun q hq => .inl ?_)⟩
  rcases hq with h4 | h4
  ·exact .inl (.inl h4)
  ·rcases ha q h4 with h5 | h5
   ·exact .inl (.inr h5)
   ·right;omega
 ·have hlo:∀ a,A5=some a→w.heap.size≤a.block∧a.block<wc.heap.size:=fun a ea=>World.ownsRow.lt o a.block (by rw [fT,ea];rfl)
  refine ⟨o.sl.tn TC (fun a ea _ hq=>?_),fun a ea _ hx=>?_⟩
  ·have:=hr.dB _ hq
   have:=hlo a ea
   omega
  ·have h7:=hlo a ea
   rcases hx with h4 | h4
   ·omega
   ·rcases ha _ h4 with h5 | h5
    ·have:=hr.dB _ h5
     omega
    ·omega
 ·rcases ha k hk with h3 | h3
  ·exact hA k h3
  ·omega
def amq (w:World) (ls:List (List UInt8)) (e:Ending) (w':World):Prop:=∃ A c,e = .returned (.slice A ls.length c)∧iV w.heap.size w' A ls.length c ls∧Below w.heap.size w w'
section
variable {w:World} {gl gd:Nat} {Qd X Pl:Nat→Prop} {P:Nat→Nat→Prop} {g:Nat→Nat} {Af:Option Addr} {cf:Nat} {d:ak} {most:Int} {L:List FS}
end
end Wl
end Go.Proofs.YtpcmlopbkehffaaGreat
