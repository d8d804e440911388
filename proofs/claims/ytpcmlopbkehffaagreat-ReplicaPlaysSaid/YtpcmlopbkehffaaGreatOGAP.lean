/-
  A log in a law's hands.
-/
import Derived.Test.YtpcmlopbkehffaaGreatOGAG
import Derived.Test.YtpcmlopbkehffaaGreatOGAI
import Derived.Test.YtpcmlopbkehffaaGreatOGAM
import Derived.Test.YtpcmlopbkehffaaGreatOGAN
import Derived.Test.YtpcmlopbkehffaaGreatOSls
set_option linter.unusedSimpArgs false
set_option linter.unusedVariables false
namespace Go.Proofs.YtpcmlopbkehffaaGreat
open Go.RowKit Fm Dsk
namespace Wl
structure LgB (B:Nat) (w0 w:World) (gl gd:Nat) (X F:Nat→Prop) (d:ak) (most:Int) (L:List FS):Prop where
 lg:LgF w gl gd X F d most L
 below:Below B w0 w
 own:∀ q,F q→B≤q
 base:B≤w0.heap.size
 flt:∀ q,F q→q<w.heap.size
section
variable {B:Nat} {w0 w w':World} {gl gd:Nat} {X F:Nat→Prop} {d d':ak} {most:Int} {L L':List FS}
theorem LgB.size (h:LgB B w0 w gl gd X F d most L):B≤w.heap.size:=Nat.le_trans h.base h.below.size
theorem LgB.xlt (h:LgB B w0 w gl gd X F d most L):∀ q,X q→q<w.heap.size:=by
 obtain ⟨Qd,Pl,P,g,Af,cf,hlg,-⟩:=h.lg
 exact hlg.xlt
theorem LgB.later (h:LgB B w0 w gl gd X F d most L) (k:Below w.heap.size w w'):LgB B w0 w' gl gd X F d most L:=⟨h.lg.below k,h.below.trans (k.mono h.size),h.own,h.base,fun q hq=>Nat.lt_of_lt_of_le (h.flt q hq) k.size⟩
theorem LgB.alloc (h:LgB B w0 w gl gd X F d most L) (o:Obj):LgB B w0 (w.alloc o) gl gd X F d most L:=h.later ((Below.refl _ _).alloc (Nat.le_refl _) o)
theorem rC {F:Nat→Prop} (hF:∀ q,F q→q<w.heap.size) (hs:w.heap.size≤w'.heap.size):∀ q,dQ F w w' q→q<w'.heap.size:=fun q hq=>by
 rcases hq with h1 | h1
 ·exact Nat.lt_of_lt_of_le (hF q h1) hs
 ·exact h1.2
theorem LgB.post {v:Value} {e:Ending} (h:LgB B w0 w gl gd X F d most L) (k:fH w gl gd X F v d' most L' e w'):e = .returned v∧(∃ X',LgB B w0 w' gl gd X' (dQ F w w') d' most L'∧(∀ q,X' q→X q∨w.heap.size≤q)∧∀ q,X q→X' q)∧Tn F w w':=by
 obtain ⟨he,X',h1,h2,h3,h4⟩:=k
 refine ⟨he,⟨X',⟨h1,h2.below h.below h.own h.size,fun q hq=>?_,h.base,rC h.flt h2.size⟩,h3,h4⟩,h2⟩
 rcases hq with h5 | h5
 ·exact h.own q h5
 ·have:=h.size;omega
theorem bB.beside {Qd Pl Q:Nat→Prop} {P:Nat→Nat→Prop} {g:Nat→Nat} {Af:Option Addr} {cf:Nat} (h:bB w gl gd Qd X Pl P g Af cf d most L) (hf:d9 F Qd Pl P L) (t:Tn Q w w') (h1:∀ q,Q q→X q) (h2:∀ q,Q q→¬ F q):bB w' gl gd Qd (dQ X w w') Pl P g Af cf d most L:=by
 have hs:=t.size
 refine ⟨h.dk.tn t (fun q hq hq2=>h2 q hq2 (hf.d q hq)),fun q hq => .inl (h.dx q hq),rC h.xlt hs,h.whole.tn t (fun hq=>h2 gl hq (hf.l gl h.plg)),h.row.stands (fun b hb=>t.block b (h.row.dB b hb) (fun hq=>h2 b hq (hf.l b (h.pla b hb)))),fun i hi=>?_,h.plg,h.pla,fun q hq => .inl (h.plx q hq),h.pld,h.plp,h.pd,h.pp⟩
 exact ((h.fs i hi).more (X':=dQ X w w') (fun q hq=>hq.imp id And.left) (fun q hq => .inl ((h.fs i hi).px q hq))).tn t (fun q hq hq2=>h2 q hq2 (hf.p i hi q hq)) (fun q hq => .inl (.inl (h1 q hq)))
theorem LgB.beside {Q:Nat→Prop} (h:LgB B w0 w gl gd X F d most L) (t:Tn Q w w') (h1:∀ q,Q q→X q) (h2:∀ q,Q q→¬ F q) (h3:∀ q,Q q→B≤q):LgB B w0 w' gl gd (dQ X w w') F d most L:=by
 obtain ⟨Qd,Pl,P,g,Af,cf,hl,hf⟩:=h.lg
 exact ⟨⟨Qd,Pl,P,g,Af,cf,hl.beside hf t h1 h2,hf⟩,t.below h.below h3 h.size,h.own,h.base,fun q hq=>Nat.lt_of_lt_of_le (h.flt q hq) t.size⟩
theorem acY {Qd G0:Nat→Prop} {e:Ending} (h:DkB B w0 w gd Qd d) (k:aan w gd Qd G0 d' most L e w'):∃ gl,e = .returned (.tuple #[.pointer (some ⟨gl,0,none⟩),.int .i64 0])∧(∃ X,LgB B w0 w' gl gd X (dQ Qd w w') d' most L∧(∀ q,X q→Qd q∨G0 q∨w.heap.size≤q)∧(∀ q,G0 q→X q))∧Tn Qd w w':=by
 obtain ⟨gl,he,hgl,Qd',X',Pl,P,g,Af,cf,hlg,ht,hx,hgx,hft⟩:=k
 refine ⟨gl,he,⟨X',⟨hlg.upper hft,ht.below h.below h.own h.size,fun q hq=>?_,h.base,rC (fun q hq=>h.dk.qlt q hq) ht.size⟩,hx,hgx⟩,ht⟩
 rcases hq with h5 | h5
 ·exact h.own q h5
 ·have:=h.size;omega
theorem LgB.append {N U base:Nat} (h:LgB B w0 w gl gd X F d most L) (ok:aH d most base L N U) (Ar:Option Addr) (nr cr:Nat) (r:List UInt8) (hr:SlN X w Ar nr cr r) (hnr:nr≤8192) :
  Calls Tryz.prog 72 #[.pointer (some ⟨gl,0,none⟩),.slice Ar nr cr] w (fH w gl gd X F (.int .i64 (aL d most L r).1) (aL d most L r).2.1 most (aL d most L r).2.2):=by
 obtain ⟨Qd,Pl,P,g,Af,cf,hlg,hf⟩:=h.lg
 exact qK Ar nr cr r hlg hf ok.known ok.lok hr hnr
theorem LgB.sync {base N U:Nat} (h:LgB B w0 w gl gd X F d most L) (ok:aH d most base L N U) :
  Calls Tryz.prog 30 #[.pointer (some ⟨gl,0,none⟩)] w (aau w gl gd X F d most base L N U):=by
 obtain ⟨Qd,Pl,P,g,Af,cf,hlg,hf⟩:=h.lg
 exact ag5 hlg hf ok
end
theorem aH.zl {d:ak} {most:Int} {base N U:Nat} {L:List FS} (h:aH d most base L N U):(aC L).length≤N:=by
 have key:∀ k,k<L.length→(aC (L.take (k+1))).length≤aO (L[k]?.getD ⟨0,0,[],[],0⟩):=by
  intro k
  induction k with
  | zero =>
    intro hk
    rw [su hk,List.getElem?_eq_getElem hk]
    simp only [List.take_zero,Option.getD_some]
    unfold aC aO
    simp
  | succ k ih =>
    intro hk
    have h1:=ih (by omega)
    have h2:=h.next k hk
    rw [List.getElem?_eq_getElem (show k<L.length by omega)] at h1
    simp only [Option.getD_some] at h1
    rw [su hk,List.getElem?_eq_getElem hk,List.length_append]
    simp only [Option.getD_some]
    unfold aO at *
    rw [h2]
    omega
 rcases hl:L.length with _ | m
 ·rw [List.eq_nil_of_length_eq_zero hl];simp [aC]
 ·have hm:m<L.length:=by omega
  have h1:=key m hm
  rw [List.getElem?_eq_getElem hm,show m+1=L.length by omega,List.take_length] at h1
  have:=h.bnd m hm
  simp only [Option.getD_some] at h1
  omega
theorem LgB.records {B:Nat} {w0 w:World} {gl gd:Nat} {X F:Nat→Prop} {d:ak} {most:Int} {L:List FS} {base N U:Nat} (h:LgB B w0 w gl gd X F d most L) (ok:aH d most base L N U) :
  Calls Tryz.prog 29 #[.pointer (some ⟨gl,0,none⟩)] w (aar w (aC L)):=by
 obtain ⟨Qd,Pl,P,g,Af,cf,hlg,hf⟩:=h.lg
 exact ajr hlg ok.known ok.lok.num (by have:=ok.zl;have:=ok.big;omega) (fun f hf r hr=>by
  obtain ⟨i,hi,rfl⟩:=List.mem_iff_getElem.1 hf
  have:=ok.small i hi r hr
  omega)
end Wl
end Go.Proofs.YtpcmlopbkehffaaGreat
namespace Go.Proofs.YtpcmlopbkehffaaGreat
open Go.RowKit Fm Dsk
namespace Wl
end Wl
end Go.Proofs.YtpcmlopbkehffaaGreat
namespace Go.Proofs.YtpcmlopbkehffaaGreat
open Go.RowKit
end Go.Proofs.YtpcmlopbkehffaaGreat
namespace Go.Proofs.YtpcmlopbkehffaaGreat
open Go.RowKit Fm Dsk
namespace Wl
def PSt (d:ak) (most:Int) (L:List FS) (s N:Nat) (all:List (List UInt8)):Prop :=
 ∃ base M c,Lay d most base M c s N∧(M=[]→base=0)∧aC M=all∧aS M=0∧LOk L∧(d.down=false→M=L∧jN L c)
theorem PSt.known {d:ak} {most:Int} {L:List FS} {s N:Nat} {all:List (List UInt8)} (h:PSt d most L s N all):om d L:=by
 obtain ⟨base,M,c,h1,-,-,-,-,h6⟩:=h
 intro hup
 obtain ⟨rfl,hc⟩:=h6 hup
 exact (h1.gY hup hc).known hup
theorem PSt.lok {d:ak} {most:Int} {L:List FS} {s N:Nat} {all:List (List UInt8)} (h:PSt d most L s N all):LOk L:=by
 obtain ⟨base,M,c,-,-,-,-,h5,-⟩:=h
 exact h5
theorem PSt.up {d:ak} {most:Int} {L:List FS} {s N:Nat} {all:List (List UInt8)} (h:PSt d most L s N all) (hup:d.down=false):∃ base c,Lay d most base L c s N∧(L=[]→base=0)∧aC L=all∧aS L=0∧jN L c∧aH d most base L N 1048576:=by
 obtain ⟨base,M,c,h1,h2,h3,h4,h5,h6⟩:=h
 obtain ⟨rfl,hc⟩:=h6 hup
 exact ⟨base,c,h1,h2,h3,h4,hc,h1.gY hup hc⟩
theorem aeM {d:ak} (hd:d.down=true) (j:Int):bE d j=10:=by unfold bE;rw [hd];rfl
theorem aaS {d:ak} (hd:d.down=true) (j:Int) (b:List UInt8):bU d j b.length=10∧bX d j b=d:=by
 unfold bU bX
 rw [hd]
 exact ⟨rfl,rfl⟩
theorem wF {d:ak} (hd:d.down=true) (most:Int) (L:List FS) (r:List UInt8):(aL d most L r).1≠0∧(aL d most L r).2=(d,L)∧((aL d most L r).1=9∨(aL d most L r).1=10):=by
 have hs:∀ num first,dK d L num first r=(10,d,L):=fun num first=>by
  unfold dK
  obtain ⟨e1,e2⟩:=aaS hd (num:Nat) (framed (aG first)++framed r)
  rw [e1,e2,if_neg (by decide)]
 have hb:cB d L r=(9,d,L)∨cB d L r=(10,d,L):=by
  unfold cB
  split
  ·exact .inl rfl
  ·right
   rcases hl:L.getLast? with _ | f
   ·exact hs 0 0
   ·simp only
    rw [aeM hd,if_neg (by decide)]
 have h2:aL d most L r=(9,d,L)∨aL d most L r=(10,d,L):=by
  unfold aL
  rcases hl:L.getLast? with _ | f
  ·exact hb
  ·simp only
   split
   ·exact hb
   ·right
    obtain ⟨e1,e2⟩:=aaS hd (f.num:Nat) (framed r)
    rw [e1,e2,if_neg (by decide)]
 rcases h2 with h | h <;> rw [h]
 ·exact ⟨(by decide:(9:Int)≠0),rfl,.inl rfl⟩
 ·exact ⟨(by decide:(10:Int)≠0),rfl,.inr rfl⟩
def PApp (d:ak) (most:Int) (L:List FS) (s N:Nat) (all:List (List UInt8)) (r:List UInt8) (k:Int) (d':ak) (L':List FS):Prop :=
 (d.down=true∧(k=9∨k=10)∧PSt d' most L' s N all)∨(d.down=false∧k=9∧PSt d' most L' s N all)∨(d.down=false∧(k=0∨k=10)∧PSt d' most L' s (N+1) (all++[r]))
theorem PSt.append {d:ak} {most:Int} {L:List FS} {s N:Nat} {all:List (List UInt8)} (h:PSt d most L s N all) (r:List UInt8) (hr:r.length≤8192) (hN:N<1000000):PApp d most L s N all r (aL d most L r).1 (aL d most L r).2.1 (aL d most L r).2.2:=by
 cases hd:d.down
 ·obtain ⟨base,c,h1,h2,h3,h4,h5,h6⟩:=h.up hd
  have hf:=afZ (d:=d) (most:=most) (r:=r) h4
  have ha:=h1.append hd h5 h2 r hr hN
  right
  generalize aL d most L r=R at *
  obtain ⟨k,d',L'⟩:=R
  simp only at ha hf ⊢
  cases ha with
  | full u1 u2 u3 u4=>exact .inl ⟨hd,rfl,base,L,_,u4,h2,h3,h4,h.lok,fun _=>⟨rfl,u3⟩⟩
  | came u1 u2 u3 u4 u5 u6=>exact .inr ⟨hd,.inl rfl,base,L',_,u4,fun e=>absurd e u6,by rw [u5,h3],hf,(u4.gY u1 u3).lok,fun _=>⟨rfl,u3⟩⟩
  | fell u1 u2 u3 u4 u5 u6=>exact .inr ⟨hd,.inr rfl,base,_,_,u3,fun e=>by rw [e] at u4;simp [aC] at u4,by rw [u4,h3],u5 h4,h.lok,fun e=>by rw [u1] at e;cases e⟩
 ·left
  obtain ⟨e1,e2,e3⟩:=wF hd most L r
  refine ⟨hd,e3,?_⟩
  rw [show (aL d most L r).2.1=d by rw [e2],show (aL d most L r).2.2=L by rw [e2]]
  exact h
theorem PSt.arm {d:ak} {most:Int} {L:List FS} {s N:Nat} {all:List (List UInt8)} (h:PSt d most L s N all) {n:Int} (hn:n≤9223372036854775807):PSt (jy d n) most L s N all:=by
 obtain ⟨base,M,c,h1,h2,h3,h4,h5,h6⟩:=h
 exact ⟨base,M,c,⟨wH h1.ok hn,h1.shp,h1.rest,h1.full,h1.last,h1.s0⟩,h2,h3,h4,h5,h6⟩
theorem PSt.rV {d:ak} {most:Int} {base N U:Nat} {L:List FS} (h:aH d most base L N U) (h0:L=[]→base=0) (k:iR d base L) (hf:aS L=0):PSt d most L (aC L).length N (aC L):=by
 obtain ⟨c,h1,h2⟩:=Lay.rV h k
 exact ⟨base,L,c,h2,h0,rfl,hf,h.lok,fun _=>⟨rfl,h1⟩⟩
set_option maxHeartbeats 4000000 in
theorem ag6 {w:World} {gl gd:Nat} {X F:Nat→Prop} {d:ak} {most:Int} {L:List FS} (h:LgF w gl gd X F d most L) (hd:d.down=true):Calls Tryz.prog 30 #[.pointer (some ⟨gl,0,none⟩)] w (fun e w'=>e = .returned (.int .i64 10)∧w=w'):=by
 obtain ⟨Qd,Pl,P,g,Af,cf,hl,-⟩:=h
 have HN:=aj (pV hl)
 obtain ⟨c0,c1,c2⟩:=fB hl.whole
 have HDn:=aj (oG gd Qd d w hl.dk)
 rw [hd] at HDn
 clear hl hd
 go_enter Tryz.func30,Tryz.ntmps30
 go_wp2_with fail
 (with_reducible refine Calls.mono HN.out ?_)
 rintro e w1 ⟨rfl,rfl⟩
 go_wp2_with fail
 (with_reducible refine Calls.mono HDn.out ?_)
 rintro e w1 ⟨rfl,rfl⟩
 go_wp2_with fail
 go_ret
 exact ⟨rfl,rfl⟩
structure oZ (w0 W:World) (gl gd:Nat) (X F G:Nat→Prop) (d:ak) (most:Int) (L:List FS) (A:Option Addr) (n c:Nat) (ls al:List (List UInt8)) (s N:Nat):Prop where
 lg:LgB w0.heap.size w0 W gl gd X F d most L
 ps:PSt d most L s N al
 all:dY W (fun q=>G q∨aB A=some q) A n c ls
 row:∀ k,aB A=some k→¬ G k∧w0.heap.size≤k
 fg:∀ q,F q→G q
 glt:∀ q,G q→q<W.heap.size
 go:∀ q,G q→w0.heap.size≤q
 ox:∀ q,X q→w0.heap.size≤q
 rx:∀ k,aB A=some k→X k
def PrS (w0:World) (gl gd:Nat) (d:ak) (most:Int) (L:List FS) (A:Option Addr) (n c:Nat) (ls al:List (List UInt8)) (s N:Nat) (W:World):Prop:=∃ X F G,oZ w0 W gl gd X F G d most L A n c ls al s N
section
variable {w0 w w':World} {gl gd:Nat} {X F G:Nat→Prop} {d d':ak} {most:Int} {L L':List FS} {A:Option Addr} {n c:Nat} {ls al al':List (List UInt8)} {s s' N N':Nat}
theorem aks {w w':World} {G:Nat→Prop} {A:Option Addr} {n c:Nat} {ls:List (List UInt8)} (h:dY w (fun q=>G q∨aB A=some q) A n c ls):dY w (fun q=>dQ G w w' q∨aB A=some q) A n c ls :=
 h.more (fun q hq=>by
  rcases hq with (hq | hq) | hq
  ·exact .inl (.inl hq)
  ·exact .inr hq.1
  ·exact .inl (.inr hq))
theorem akr {w:World} {A:Option Addr} {n c:Nat} {vs:List Value} {a:Addr} (h:Row w A n c vs) (e:A=some a) (hne:vs≠[]):a.block<w.heap.size:=by
 obtain ⟨b,off,e2,h2⟩:=h.holds hne
 rw [e] at e2
 injection e2 with e2
 subst e2
 have hpos:0<vs.length:=List.length_pos_iff.2 hne
 exact lt_of_cell (h2 0 _ (List.getElem?_eq_getElem hpos))
theorem oZ.later (h:oZ w0 w gl gd X F G d most L A n c ls al s N) (k:Below w.heap.size w w'):oZ w0 w' gl gd X F G d most L A n c ls al s N :=
 ⟨h.lg.later k,h.ps,h.all.tn (Q:=fun _=>False) (Tn.of_below k) (fun _ _ e=>e) (fun _ e=>e.elim),h.row,h.fg,fun q hq=>Nat.lt_of_lt_of_le (h.glt q hq) k.size,h.go,h.ox,h.rx⟩
theorem PrS.later (h:PrS w0 gl gd d most L A n c ls al s N w) (k:Below w.heap.size w w'):PrS w0 gl gd d most L A n c ls al s N w':=by
 obtain ⟨X,F,G,h⟩:=h
 exact ⟨X,F,G,h.later k⟩
theorem PrS.below (h:PrS w0 gl gd d most L A n c ls al s N w):Below w0.heap.size w0 w:=by
 obtain ⟨X,F,G,h⟩:=h
 exact h.lg.below
theorem PrS.ps (h:PrS w0 gl gd d most L A n c ls al s N w):PSt d most L s N al:=by
 obtain ⟨X,F,G,h⟩:=h
 exact h.ps
theorem oZ.post {v:Value} {e:Ending} (h:oZ w0 w gl gd X F G d most L A n c ls al s N) (k:fH w gl gd X F v d' most L' e w') (hp:PSt d' most L' s' N' al'):e = .returned v∧PrS w0 gl gd d' most L' A n c ls al' s' N' w':=by
 obtain ⟨he,⟨X',h1,h2,h3⟩,t⟩:=h.lg.post k
 have hB:=h.lg.size
 refine ⟨he,X',_,dQ G w w',h1,hp,(aks h.all).tn t (fun b hb hq=>(h.row b hb).1 (h.fg b hq)) (fun q hq => .inl (.inl (.inl (h.fg q hq)))),fun b hb=>⟨fun hq=>?_,(h.row b hb).2⟩,fun q hq=>hq.imp (h.fg q) id,rC h.glt t.size,fun q hq=>?_,fun q hq=>?_,fun b hb=>h3 b (h.rx b hb)⟩
 ·rcases hq with h5 | h5
  ·exact (h.row b hb).1 h5
  ·have:=h.all.dB b hb;omega
 ·rcases hq with h5 | h5
  ·exact h.go q h5
  ·omega
 ·rcases h2 q hq with h5 | h5
  ·exact h.ox q h5
  ·omega
theorem PrS.append (h:PrS w0 gl gd d most L A n c ls al s N w) {Ar:Option Addr} {nr cr:Nat} {r:List UInt8} (hs:Sl w0 Ar nr cr r) (hn:nr≤8192) (hN:N<1000000) :
  Calls Tryz.prog 72 #[.pointer (some ⟨gl,0,none⟩),.slice Ar nr cr] w (fun e w'=>∃ k d' L' al' N',e = .returned (.int .i64 k)∧PrS w0 gl gd d' most L' A n c ls al' s N' w'∧((al'=al∧N'=N∧(d.down=true∧(k=9∨k=10)∨d.down=false∧k=9))∨(al'=al++[r]∧N'=N+1∧d.down=false∧(k=0∨k=10)))):=by
 obtain ⟨X,F,G,h⟩:=h
 obtain ⟨Qd,Pl,P,g,Af,cf,hlg,hf⟩:=h.lg.lg
 refine Calls.mono (qK Ar nr cr r hlg hf h.ps.known h.ps.lok ⟨hs.below h.lg.below,fun a ea hne hx=>?_⟩ hn) ?_
 ·subst ea
  have:=hs.block hne
  have:=h.ox _ hx
  omega
 ·intro e w' k
  have ha:=h.ps.append r (by rw [hs.len];exact hn) hN
  rcases ha with ⟨a1,a2,a3⟩ | ⟨a1,a2,a3⟩ | ⟨a1,a2,a3⟩
  ·obtain ⟨he,hp⟩:=h.post k a3
   exact ⟨_,_,_,_,_,he,hp,.inl ⟨rfl,rfl,.inl ⟨a1,a2⟩⟩⟩
  ·obtain ⟨he,hp⟩:=h.post k a3
   exact ⟨_,_,_,_,_,he,hp,.inl ⟨rfl,rfl,.inr ⟨a1,a2⟩⟩⟩
  ·obtain ⟨he,hp⟩:=h.post k a3
   exact ⟨_,_,_,_,_,he,hp,.inr ⟨rfl,rfl,a1,a2⟩⟩
theorem PrS.sync (h:PrS w0 gl gd d most L A n c ls al s N w) :
  Calls Tryz.prog 30 #[.pointer (some ⟨gl,0,none⟩)] w (fun e w'=>(d.down=true∧e = .returned (.int .i64 10)∧w=w')∨(d.down=false∧e = .returned (.int .i64 0)∧∃ d',d'.down=false∧PrS w0 gl gd d' most L A n c ls al al.length N w')):=by
 obtain ⟨X,F,G,h⟩:=h
 cases hd:d.down
 ·obtain ⟨base,c0,h1,h2,h3,h4,h5,h6⟩:=h.ps.up hd
  refine Calls.mono (h.lg.sync h6) ?_
  rintro e w' ⟨d',k1,k2,k3,k4,k5⟩
  have hp:=PSt.rV k1 h2 k4 h4
  rw [h3] at hp
  obtain ⟨he,hq⟩:=h.post k5 hp
  exact .inr ⟨rfl,he,d',k1.up,hq⟩
 ·refine Calls.mono (ag6 h.lg.lg hd) ?_
  rintro e w' ⟨he,hw⟩
  exact .inl ⟨rfl,he,hw⟩
theorem LgB.disk {B:Nat} {w0 w w':World} {gl gd:Nat} {X F Qd':Nat→Prop} {d d':ak} {most:Int} {L:List FS} {v:Value} {e:Ending} (h:LgB B w0 w gl gd X F d most L) (k:∀ Qd,Dk w gd Qd d→eH w gd Qd v d' e w'):fH w gl gd X F v d' most L e w':=by
 obtain ⟨Qd,Pl,P,g,Af,cf,hlg,hf⟩:=h.lg
 obtain ⟨he,Q',h1,h2,h3⟩:=k Qd hlg.dk
 refine ⟨he,_,(hlg.disk h1 h2 h3).upper ((hf.wide (F':=fun q=>F q∨w.heap.size≤q) (fun q hq => .inl hq)).qd (fun q hq=>(h3 q hq).imp (hf.d q) id)),h2.sub hf.d,fun q hq=>?_,fun q hq => .inl hq⟩
 rcases hq with h4 | h4
 ·exact .inl h4
 ·rcases h3 q h4 with h5 | h5
  ·exact .inl (hlg.dx q h5)
  ·exact .inr h5
theorem PrS.arm (h:PrS w0 gl gd d most L A n c ls al s N w) (m:Int) (hm:m≤9223372036854775807):Calls Tryz.prog 18 #[.pointer (some ⟨gd,0,none⟩),.int .i64 m] w (fun e w'=>e = .returned (.tuple #[])∧PrS w0 gl gd (jy d m) most L A n c ls al s N w'):=by
 obtain ⟨X,F,G,h⟩:=h
 obtain ⟨Qd,Pl,P,g,Af,cf,hlg,hf⟩:=h.lg.lg
 refine Calls.mono (wI m hm gd Qd d w hlg.dk) ?_
 intro e w' k
 obtain ⟨he,Q',h1,h2,h3⟩:=k
 have kp:fH w gl gd X F (.tuple #[]) (jy d m) most L e w':=by
  refine ⟨he,_,(hlg.disk h1 h2 h3).upper ((hf.wide (F':=fun q=>F q∨w.heap.size≤q) (fun q hq => .inl hq)).qd (fun q hq=>(h3 q hq).imp (hf.d q) id)),h2.sub hf.d,fun q hq=>?_,fun q hq => .inl hq⟩
  rcases hq with h4 | h4
  ·exact .inl h4
  ·rcases h3 q h4 with h5 | h5
   ·exact .inl (hlg.dx q h5)
   ·exact .inr h5
 exact h.post kp (h.ps.arm hm)
structure mG (w0 W:World) (gd:Nat) (Q G:Nat→Prop) (d:ak) (A:Option Addr) (n c:Nat) (ls:List (List UInt8)):Prop where
 dk:DkB w0.heap.size w0 W gd Q d
 all:dY W (fun q=>G q∨aB A=some q) A n c ls
 row:∀ k,aB A=some k→¬ G k∧w0.heap.size≤k
 qg:∀ q,Q q→G q
 glt:∀ q,G q→q<W.heap.size
 go:∀ q,G q→w0.heap.size≤q
theorem PrS.sls (h:PrS w0 gl gd d most L A n c ls al s N w):Sls w A n c ls:=by
 obtain ⟨X,F,G,h⟩:=h
 exact h.all.sls
end
end Wl
end Go.Proofs.YtpcmlopbkehffaaGreat
