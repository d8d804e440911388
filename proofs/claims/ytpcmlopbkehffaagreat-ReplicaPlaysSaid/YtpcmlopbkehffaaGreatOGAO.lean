/-
  Contracts of the library's functions at this program: what the shelf's own theorems ask of it; laid by the guide's program.
-/
import Derived.Test.YtpcmlopbkehffaaGreatOGAN
import Derived.Test.YtpcmlopbkehffaaGreatOGAP
import Derived.Shelf.SlicesE.Delete
import Derived.Test.YtpcmlopbkehffaaGreatProg
import Derived.IntWalk
set_option linter.unusedSimpArgs false
set_option linter.unusedVariables false
namespace Go.Proofs.YtpcmlopbkehffaaGreat
open Go.Shelf Go.Proofs
def Sh.afB:Go.Shelf.Ren:=⟨fun | 45=>76 | n=>n,fun | 22=>124 | 23=>132 | 3=>3 | 4=>4 | 0=>0 | n=>n,fun | n=>n⟩
theorem Sh.afA:Go.Proofs.SlLaysE.n45 Tryz.prog Sh.afB := {
 mixed:=by kernel_rfl
 f45:=⟨Tryz.f76.name,by decide,Tryz.func76.trans (congrArg some (by kernel_rfl))⟩
 t0:=Tryz.underlying0
 a0:=Tryz.isAgg0
 z0:=Tryz.sizeOf0
 v0:=Tryz.zeroValue0
 t3:=Tryz.underlying3
 a3:=Tryz.isAgg3
 z3:=Tryz.sizeOf3
 v3:=Tryz.zeroValue3
 t4:=Tryz.underlying4
 a4:=Tryz.isAgg4
 z4:=Tryz.sizeOf4
 v4:=Tryz.zeroValue4
 t22:=Tryz.underlying124
 a22:=Tryz.isAgg124
 z22:=Tryz.sizeOf124
 v22:=Tryz.zeroValue124
 a23:=Tryz.isAgg132
 z23:=Tryz.sizeOf132}
end Go.Proofs.YtpcmlopbkehffaaGreat
namespace Go.Proofs.YtpcmlopbkehffaaGreat
open Go.RowKit Fm Dsk
namespace Wl
abbrev oH (p:Option Addr):Value := .pointer p
def kU (g:Nat→Nat) (n:Nat):Array (Option Addr):=((List.range n).map (fun i=>(some ⟨g i,0,none⟩:Option Addr))).toArray
theorem yS (g:Nat→Nat) (n:Nat):(kU g n).size=n:=by simp [kU]
theorem akp {w:World} {b off n c:Nat} {g:Nat→Nat} (h:bC 132 w (some ⟨b,off,none⟩) n c (ptrs g n)):Sort.Holds oH w b off (kU g n):=by
 intro j hj
 rw [yS] at hj
 obtain ⟨cur,hw⟩:=jG h rfl
 obtain ⟨b',off',e,hc⟩:=h.holds (by intro e;have h9:=congrArg List.length e;rw [ni] at h9;simp at h9;omega)
 injection e with e
 injection e with e1 e2
 subst e1 e2
 refine ⟨?_,hw.free _⟩
 rw [hc j _ (nV g hj)]
 simp [kU,hj,dG]
theorem ai7 {w:World} {b off q:Nat} {t:TypeId} {cur:Array Value} (d:Array (Option Addr)) (h:Whole w b t cur):∃ cur',Whole (Sort.putRow oH (Sort.ahead w q) b off d) b t cur'∧cur'.size=cur.size:=by
 have hlt:=h.lt
 unfold Whole at *
 unfold Sort.putRow Sort.mapBlock
 simp only [Sort.ahead]
 refine ⟨Sort.putCells oH off d cur,?_,?_⟩
 ·rw [Array.getElem?_modify,if_pos rfl,h]
  rfl
 ·unfold Sort.putCells
  simp
theorem ai6 (w:World) (b off q:Nat) (d:Array (Option Addr)):Tn (fun x=>x=b) w (Sort.putRow oH (Sort.ahead w q) b off d):=by
 refine ⟨rfl,rfl,rfl,?_,fun i hi hne=>?_⟩
 ·rw [Sort.size_putRow];exact Nat.le_refl _
 ·unfold Sort.putRow Sort.mapBlock
  simp only [Sort.ahead]
  rw [Array.getElem?_modify,if_neg (fun e=>hne e.symm)]
theorem al5 {w:World} {b k:Nat} {t:TypeId} {cur:Array Value} {v:Value} (h:Whole w b t cur) (hc:w.cell? ⟨b,k,none⟩=some v):cur[k]? = some v:=by
 rcases hk:cur[k]? with _ | u
 ·exfalso
  unfold Whole at h
  simp [World.cell?,h,hk] at hc
 ·rw [h.cell k _ hk] at hc
  exact hc
def tailA (g:Nat→Nat) (n:Nat):Array (Option Addr):=((kU g (n+1)).toList.take 0++(kU g (n+1)).toList.drop 1++List.replicate (1-0) none).toArray
theorem zP (g:Nat→Nat) (n:Nat):(tailA g n).size=(kU g (n+1)).size:=by simp [tailA,kU]
theorem alr (g:Nat→Nat) {n j:Nat} (hj:j<n):(tailA g n)[j]! = some ⟨g (j+1),0,none⟩:=by
 rw [getElem!_pos _ j (by rw [zP,yS];omega)]
 simp [tailA,kU,List.getElem_append,hj]
theorem afC (b off n cf:Nat) (g:Nat→Nat) (w:World) (h:bC 132 w (some ⟨b,off,none⟩) (n+1) cf (ptrs g (n+1))) :
  Calls Tryz.prog 76 #[.slice (some ⟨b,off,none⟩) (n+1) cf,.int .i64 ((0:Nat):Int),.int .i64 ((1:Nat):Int)] w
   (fun e w'=>e = .returned (.slice (some ⟨b,off,none⟩) n cf)∧bC 132 w' (some ⟨b,off,none⟩) n cf (ptrs (fun i=>g (i+1)) n)∧Tn (fun q=>q=b) w w'):=by
 obtain ⟨i0,hi0,hz0,hz1,hz2⟩:=info_parts rF
 have hH:=akp h
 have hsz:=yS g (n+1)
 have key:=AnyE.slices_Delete Sh.afA oH (fun _=>rfl) none (fun w=>by exact Tryz.zeroValue132 w) i0 hi0 hz1 b off cf 0 1 (kU g (n+1)) w hH (by rw [hsz];exact h.2.1) h.2.2.1 (by omega) (by rw [hsz];omega)
 rw [hsz] at key
 refine Calls.mono key ?_
 rintro e w' ⟨rfl,q,rfl⟩
 refine ⟨by rw [Nat.sub_zero,Nat.add_sub_cancel],?_,ai6 w b off q _⟩
 change bC _ (Sort.putRow oH (Sort.ahead w q) b off (tailA g n)) _ _ _ _
 obtain ⟨cur,hw⟩:=jG h rfl
 obtain ⟨cur',hw',hs'⟩:=ai7 (q:=q) (off:=off) (tailA g n) hw
 obtain ⟨h1,h2,h3,h4,h5⟩:=h
 refine ⟨ni _ _,by omega,h3,fun u hu=>?_,.inr ⟨b,off,cur',rfl,hw',?_,fun j u hu=>?_⟩⟩
 ·obtain ⟨i,_,rfl⟩:=List.mem_map.1 hu
  rfl
 ·rcases h5 with ⟨h6,_⟩ | ⟨g',off',cur2,h6,hw2,hs2,-⟩
  ·cases h6
  ·injection h6 with h6
   injection h6 with e1 e2
   subst e1 e2
   have h7:cur.size=cur2.size:=by
    have h8:w.heap[b]? = some (.cells cur 132 (0,0)):=hw
    have h9:w.heap[b]? = some (.cells cur2 132 (0,0)):=hw2
    rw [h8] at h9
    have h10:=Option.some.inj h9
    have h11:=(Obj.cells.inj h10).1
    rw [h11]
   rw [hs',h7]
   exact hs2
 ·have hj:j<n:=by
   have:=(List.getElem?_eq_some_iff.1 hu).1
   rwa [ni] at this
  rw [nV _ hj] at hu
  cases hu
  refine al5 hw' ?_
  rw [Sort.cell?_putRow oH (Sort.ahead w q) b off (kU g (n+1)) (tailA g n) hH (zP g n) j (by rw [zP,hsz];omega),alr g hj]
end Wl
end Go.Proofs.YtpcmlopbkehffaaGreat
namespace Go.Proofs.YtpcmlopbkehffaaGreat
open Go.RowKit Fm Dsk
namespace Wl
section
variable {w w2 w3:World} {gl gd:Nat} {Qd X Pl:Nat→Prop} {P:Nat→Nat→Prop} {g:Nat→Nat} {Af:Option Addr} {cf:Nat} {d:ak} {most:Int} {L:List FS}
theorem bB.drop {f:FS} (h:bB w gl gd Qd X Pl P g Af cf d most (f::L)) {b off:Nat} (hA:Af=some ⟨b,off,none⟩) (T:Tn (fun q=>q=b) w w2) (r2:bC 132 w2 Af L.length cf (ptrs (fun i=>g (i+1)) L.length)) (e3:w3=w2.setCell ⟨gl,2,none⟩ (.slice Af L.length cf)) :
  bB w3 gl gd Qd X Pl (fun i=>P (i+1)) (fun i=>g (i+1)) Af cf d most L∧Tn Pl w w3:=by
 have hb:Pl b:=h.pla b (by rw [hA];rfl)
 have hbg:b≠gl:=by
  rintro rfl
  obtain ⟨cur,hc⟩:=jG h.row (k:=b) (by rw [hA];rfl)
  exact absurd (kE hc h.whole) (by decide)
 have T2:Tn Pl w w2:=T.sub (fun q hq=>by rw [hq];exact hb)
 have T3:Tn Pl w w3:=by rw [e3];exact T2.set (.inl h.plg) 2 _
 have W2:Whole w2 gl 126 (mP gd most Af (f::L).length cf):=h.whole.tn T (fun e=>hbg e.symm)
 refine ⟨⟨h.dk.tn T3 (fun q hq hq2=>h.pld q hq2 hq),h.dx,fun q hq=>Nat.lt_of_lt_of_le (h.xlt q hq) T3.size,?_,?_,fun i hi=>?_,h.plg,h.pla,h.plx,h.pld,fun i hi=>h.plp (i+1) (by simpa using hi),fun i hi=>h.pd (i+1) (by simpa using hi),fun i j hi hj hij=>h.pp (i+1) (j+1) (by simpa using hi) (by simpa using hj) (by omega)⟩,T3⟩
 ·rw [e3]
  have h4:=W2.store 2 (.slice Af L.length cf)
  exact h4
 ·rw [e3]
  exact r2.stands (fun k hk=>Below.heap_setCell w2 ⟨gl,2,none⟩ _ k (by
   rintro rfl
   rw [hA] at hk
   injection hk with hk
   exact hbg hk))
 ·have h1:=h.fs (i+1) (by simpa using hi)
  rw [List.getElem_cons_succ] at h1
  exact h1.tn T3 (h.plp (i+1) (by simpa using hi)) (fun q hq => .inl (h.plx q hq))
end
end Wl
end Go.Proofs.YtpcmlopbkehffaaGreat
namespace Go.Proofs.YtpcmlopbkehffaaGreat
open Go.RowKit Fm Dsk
namespace Wl
def cK (n:Nat):List FS→List FS
 | f::f2::L=>if aO f≤n then cK n (f2::L) else f::f2::L
 | L=>L
theorem drop_nil (n:Nat):cK n []=[]:=rfl
theorem drop_one (n:Nat) (f:FS):cK n [f]=[f]:=rfl
theorem wZ {n:Nat} {f f2:FS} {L:List FS} (h:aO f≤n):cK n (f::f2::L)=cK n (f2::L):=by rw [cK,if_pos h]
theorem wY {n:Nat} {f f2:FS} {L:List FS} (h:¬ aO f≤n):cK n (f::f2::L)=f::f2::L:=by rw [cK,if_neg h]
def lenOf (gl:Nat) (w:World):Nat:=match w.cell? ⟨gl,2,none⟩ with
 | some (.slice _ n _)=>n
 | _=>0
theorem acd {w:World} {gl gd:Nat} {Qd X Pl:Nat→Prop} {P:Nat→Nat→Prop} {g:Nat→Nat} {Af:Option Addr} {cf:Nat} {d:ak} {most:Int} {L:List FS} (h:bB w gl gd Qd X Pl P g Af cf d most L):lenOf gl w=L.length:=by
 obtain ⟨-,-,c2⟩:=fB h.whole
 unfold lenOf
 rw [c2]
theorem aH.drop_at {d:ak} {most:Int} {base N U:Nat} {f:FS} {L:List FS} (h:aH d most base (f::L) N U) (i:Nat) (hi:i<L.length):(fG d (f.num:Nat)).F (rg ((base+1) % 64) i)=d.F (rg base (i+1)):=by
 have hnum:=h.num 0 (by simp)
 obtain ⟨ff,hf⟩:=h.has 0 (by simp)
 simp only [List.getElem_cons_zero] at hf hnum
 rw [sG h.b64] at hf hnum
 have hask:=nK h.up hf
 rw [← hnum] at hask
 have hlen:=h.n63
 simp only [List.length_cons] at hlen
 have hne:rg base (i+1)≠base:=fun e2=>by
  have:=mq (base:=base) (i:=i+1) (j:=0) (by omega) (by omega) (by rw [sG h.b64];exact e2)
  omega
 unfold fG
 rw [if_pos hask,hnum,show ((base:Nat):Int).toNat=base by omega]
 show aW d.F base none (rg ((base+1) % 64) i)=_
 rw [sF,cZ _ _ hne]
structure mH (w0:World) (X0 F:Nat→Prop) (gl gd:Nat) (most:Int) (N U n:Nat) (d0:ak) (R:List FS) (w:World) (d:ak) (base:Nat) (L:List FS) (X:Nat→Prop):Prop where
 lg:LgF w gl gd X (dQ F w0 w) d most L
 ok:aH d most base L N U
 rest:cK n L=R
 tn:Tn F w0 w
 x1:∀ q,X q→X0 q∨w0.heap.size≤q
 x2:∀ q,X0 q→X q
 ar:d.armed=d0.armed
 ro:d.room=d0.room
 same:∀ i,i<L.length→d.F (rg base i)=d0.F (rg base i)
theorem mH.later {w0 w w':World} {X0 F X:Nat→Prop} {gl gd:Nat} {most:Int} {N U n base:Nat} {d0 d:ak} {R L:List FS} (h:mH w0 X0 F gl gd most N U n d0 R w d base L X) (k:Below w.heap.size w w'):mH w0 X0 F gl gd most N U n d0 R w' d base L X :=
 ⟨(h.lg.below k).wide (fun q hq=>hq.imp id (fun hq=>⟨hq.1,Nat.lt_of_lt_of_le hq.2 k.size⟩)),h.ok,h.rest,h.tn.iQ k,h.x1,h.x2,h.ar,h.ro,h.same⟩
abbrev tu (a1:Addr) (v1:Value) (a2:Addr) (v2:Value) (a3:Addr) (v3:Value) (a4:Addr) (v4:Value) (W:World):Prop:=W.cell? a1=some v1∧W.cell? a2=some v2∧W.cell? a3=some v3∧W.cell? a4=some v4
theorem aH.xw {d:ak} {most:Int} {base N U:Nat} {L:List FS} (h:aH d most base L N U):gI L≤N∧∀ f∈L,f.recs.length≤N:=by
 refine ⟨?_,fun f hf=>?_⟩
 ·unfold gI
  rcases hg:L.getLast? with _ | f
  ·exact Nat.zero_le _
  ·have hne:L≠[]:=by rintro rfl;cases hg
   have h1:=h.bnd (L.length-1) (by have:=List.length_pos_iff.2 hne;omega)
   have h2:L[L.length-1]'(by have:=List.length_pos_iff.2 hne;omega)=f:=by
    rw [List.getLast?_eq_getElem?] at hg
    exact (List.getElem?_eq_some_iff.1 hg).2
   rwa [h2] at h1
 ·obtain ⟨i,hi,rfl⟩:=List.getElem_of_mem hf
  have:=h.bnd i hi
  unfold aO at this
  omega
def aad (w:World) (gl gd:Nat) (X F:Nat→Prop) (most:Int) (N U n:Nat) (d:ak) (L:List FS) (e:Ending) (w':World):Prop :=
 e = .returned (.int .i64 0)∧∃ d' base' X',mH w X F gl gd most N U n d (cK n L) w' d' base' (cK n L) X'
theorem wX {w w':World} {gl gd:Nat} {X F:Nat→Prop} {most:Int} {N U n:Nat} {d:ak} {L L1:List FS} {d1:ak} {b1:Nat} {X1:Nat→Prop} (h:mH w X F gl gd most N U n d (cK n L) w' d1 b1 L1 X1) (he:cK n L1=L1):aad w gl gd X F most N U n d L (.returned (.int .i64 0)) w':=by
 have h1:=h.rest
 rw [he] at h1
 subst h1
 exact ⟨rfl,d1,b1,X1,h⟩
theorem abM {w2 w':World} {Q:Nat→Prop} {a1 a2 a3 a4:Addr} {v1 v2 v3 v4:Value} (h:tu a1 v1 a2 v2 a3 v3 a4 v4 w2) (t:Tn Q w2 w') (h1:¬ Q a1.block) (h2:¬ Q a2.block) (h3:¬ Q a3.block) (h4:¬ Q a4.block):tu a1 v1 a2 v2 a3 v3 a4 v4 w':=by
 obtain ⟨k1,k2,k3,k4⟩:=h
 have key:∀ (a:Addr) (v:Value),w2.cell? a=some v→¬ Q a.block→w'.cell? a=some v:=fun a v hc hq=>by
  have hk:=t.block a.block (lt_of_cell hc) hq
  simp only [World.cell?] at *
  rw [hk]
  exact hc
 exact ⟨key _ _ k1 h1,key _ _ k2 h2,key _ _ k3 h3,key _ _ k4 h4⟩
theorem afI {w0 w w1 w2:World} {X0 F X:Nat→Prop} {gl gd:Nat} {most:Int} {N U n base:Nat} {d0 d:ak} {R L1:List FS} {f f2:FS} {Qd Q' Pl:Nat→Prop} {P P':Nat→Nat→Prop} {g g':Nat→Nat} {Af:Option Addr} {cf:Nat}
  (h:mH w0 X0 F gl gd most N U n d0 R w d base (f::f2::L1) X) (hx:aO f≤n) (hl:bB w gl gd Qd X Pl P g Af cf d most (f::f2::L1)) (hft:d9 (dQ F w0 w) Qd Pl P (f::f2::L1)) (hp:∀ i,i<(f2::L1).length→∀ q,P' i q→dQ F w0 w q) (t1:Tn Qd w w1) (hq:∀ q,Q' q→Qd q∨w.heap.size≤q)
  (hd:bB w2 gl gd Q' (fun q=>X q∨Q' q) Pl P' g' Af cf (fG d (f.num:Nat)) most (f2::L1)∧Tn Pl w1 w2):mH w0 X0 F gl gd most N U n d0 R w2 (fG d (f.num:Nat)) ((base+1) % 64) (f2::L1) (fun q=>X q∨Q' q):=by
 obtain ⟨k1,k2,k3,k4⟩:=h.ok.abt
 have hz:=h.tn.size
 have hlo:∀ q,dQ F w0 w q→F q∨w0.heap.size≤q:=fun q hq=>hq.imp id And.left
 have hfo:d9 (fun q=>F q∨w0.heap.size≤q) Q' Pl P' (f2::L1):=⟨fun q hq2=>by
  rcases hq q hq2 with h2 | h2
  ·exact hlo q (hft.d q h2)
  ·right;omega,fun q hq2=>hlo q (hft.l q hq2),fun i hi q hq2=>hlo q (hp i hi q hq2)⟩
 refine ⟨hd.1.upper hfo,k1,?_,?_,fun q hq2=>?_,fun q hq2 => .inl (h.x2 q hq2),k3.trans h.ar,k4.trans h.ro,fun i hi=>?_⟩
 ·rw [← h.rest,wZ hx]
 ·have t2:Tn F w0 w1:=h.tn.trans t1 (fun q hq2=>hlo q (hft.d q hq2))
  exact t2.trans hd.2 (fun q hq2=>hlo q (hft.l q hq2))
 ·rcases hq2 with h1 | h1
  ·exact h.x1 q h1
  ·rcases hq q h1 with h2 | h2
   ·exact h.x1 q (hl.dx q h2)
   ·right;omega
 ·rw [h.ok.drop_at i hi,sF]
  exact h.same (i+1) (by simpa using hi)
set_option maxRecDepth 20000 in
set_option maxHeartbeats 16000000 in
theorem afH {w:World} {gl gd:Nat} {X F:Nat→Prop} {d:ak} {most:Int} {L:List FS} {base N U:Nat} (h:LgF w gl gd X F d most L) (ok:aH d most base L N U) (n:Nat) (hn:n≤9223372036854775807) (hle:n≤gI L) :
  Calls Tryz.prog 49 #[.pointer (some ⟨gl,0,none⟩),.int .i64 (n:Nat)] w (aad w gl gd X F most N U n d L):=by
 obtain ⟨Qd,Pl,P,g,Af,cf,hl,hft0⟩:=h
 have hf:=ok.xw
 have hbig:=ok.big
 have HN:=aj (pV hl)
 have HLk:=aj (uG hl ok.known (fun f hf=>by
  obtain ⟨i,hi,rfl⟩:=List.getElem_of_mem hf
  rw [ok.num i hi]
  exact iF _ _))
 have HNx:=aj (fun (W:World) (hb:Below w.heap.size w W)=>yu (hl.below hb) (by omega) (fun f h=>Nat.le_trans (hf.2 f h) (by omega)))
 have HDn:=aj (fun (W:World) (hb:Below w.heap.size w W)=>oG gd Qd d W (hl.below hb).dk)
 rw [ok.up] at HDn
 have HCl:=aj (fun (W:World) (hb:Below w.heap.size w W)=>fB (hl.below hb).whole)
 have HMd:=aj (fun (W:World) (hb:Below w.heap.size w W)=>show mH w X F gl gd most N U n d (cK n L) W d base L X from ⟨⟨Qd,Pl,P,g,Af,cf,hl.below hb,hft0.wide (fun q hq => .inl hq)⟩,ok,rfl,Tn.of_below hb,fun q hq => .inl hq,fun q hq=>hq,rfl,rfl,fun _ _=>rfl⟩)
 have e1:decide ((n:Int)<0)=false:=decide_eq_false (by omega)
 have e2:IntKind.u64.wrap (n:Int)=(n:Int):=IntWalk.u64_in _ (by omega)
 have e3:decide ((n:Int)>(gI L:Int))=false:=decide_eq_false (by omega)
 have e4:decide ((gI L:Int)<(n:Int))=false:=decide_eq_false (by omega)
 have e5:decide (gI L<n)=false:=decide_eq_false (by omega)
 generalize hR:cK n L=R at *
 have HR:=aj hR
 generalize gI L=nl at *
 clear hf hbig hle hl ok hR hft0
 go_enter Tryz.func49,Tryz.ntmps49
 go_wp2_with fail
 (with_reducible refine Calls.mono HN.out ?_)
 rintro e w1 ⟨rfl,rfl⟩
 go_wp2_with fail
 (with_reducible refine Calls.mono HLk.out ?_)
 rintro e w2 ⟨rfl,hb2⟩
 have HB2:=aj hb2
 clear hb2
 go_wp2_with fail
 (with_reducible refine Calls.mono (HNx.out _ HB2.out) ?_)
 rintro e w3 ⟨rfl,hb3⟩
 have HB3:=aj (HB2.out.trans (hb3.mono HB2.out.size))
 clear hb3
 obtain ⟨c0,c1,c2⟩:=HCl.out _ HB3.out
 go_wp2_with fail
 (with_reducible refine Calls.mono (HDn.out _ HB3.out) ?_)
 rintro e w4 ⟨rfl,rfl⟩
 have HM3:=aj (HMd.out _ HB3.out)
 clear c0 c1 c2 e1 e3 e4 e5
 go_wp2_with fail
 clear HN HLk HNx HDn HCl HMd HB2 HB3
 go_loopw [] (fun wr=>∃ d1 b1 L1 X1,Hid (mH w X F gl gd most N U n d R wr d1 b1 L1 X1)) (fun wr=>lenOf gl wr)
 case atStart=>exact ⟨_,_,_,_,HM3⟩
 case round =>
  obtain ⟨d1,b1,L1,X1,HM⟩:=hrel
  obtain ⟨Qd,Pl,P,g,Af,cf,hl,hft⟩:=HM.out.lg
  have HFt:=aj hft
  clear hft
  obtain ⟨c0,c1,c2⟩:=fB hl.whole
  have HL:=aj hl
  rcases L1 with _ | ⟨f,L1⟩
  ·simp only [List.length_nil] at c2
   clear hl
   go_wp2_with fail
   go_ret
   rw [← HR.out] at HM
   exact wX HM.out rfl
  ·rcases L1 with _ | ⟨f2,L1⟩
   ·simp only [List.length_cons,List.length_nil] at c2
    clear hl
    go_wp2_with fail
    go_ret
    rw [← HR.out] at HM
    exact wX HM.out rfl
   ·obtain ⟨b,off,rfl,hc⟩:=uY hl (i:=0) (by simp)
    have hff:=HM.out.ok.xw
    have hbg:=HM.out.ok.big
    have hnb:=HM.out.ok.bnd 0 (by simp)
    have HFx:=aj (fun (W:World) (hb:Below wr.heap.size wr W)=>xA X1 (P 0) (g 0) f W ((hl.fs 0 (by simp)).below hb) (by simp only [List.getElem_cons_zero] at hnb;omega) (Nat.le_trans (hff.2 f (by simp)) (by omega)))
    have k1:(1:Int)<((f::f2::L1).length:Int):=by simp only [List.length_cons];omega
    obtain ⟨Ar,cr,Aa,ca,hm1,-⟩:=(hl.fs 0 (by simp)).mem
    obtain ⟨z0,-,-,-,-⟩:=jH hm1
    simp only [List.getElem_cons_zero] at z0
    simp only [List.length_cons] at c2
    rw [Nat.add_zero] at hc
    have hlt0:=hl.whole.lt
    have hb0:=lt_of_cell hc
    have hg0:=lt_of_cell z0
    have HG:=aj (And.intro (hl.pld gl hl.plg) (And.intro (hl.pld b (hl.pla b rfl)) (hl.pd 0 (by simp) (g 0) (hl.fs 0 (by simp)).pg)))
    have HDf:=aj HM.out.ok.abt
    have hnum:=HM.out.ok.num 0 (by simp)
    simp only [List.getElem_cons_zero] at hnum
    have hnum64:f.num<64:=by rw [hnum];exact iF _ _
    clear hff hbg hnb hnum k1
    obtain ⟨m,hm⟩:∃ m,m=L1.length+1:=⟨_,rfl⟩
    have HLm:=aj hm
    rw [← hm] at c2
    have x1:(1:Int)<(m:Int)+1:=by omega
    have x2:decide ((m:Int)+1>1)=true:=decide_eq_true x1
    have x3:decide ((1:Int)<(m:Int)+1)=true:=decide_eq_true x1
    have x4:decide (1<m+1)=true:=decide_eq_true (by omega)
    have x5:(0:Int)<(m:Int)+1:=by omega
    have x6:0<m:=by omega
    clear hm hl hm1
    by_cases hx:aO f≤n
    ·have y1:decide ((aO f:Int)≤(n:Int))=true:=decide_eq_true (by omega)
     have y2:decide (aO f≤n)=true:=decide_eq_true hx
     have HX:=aj hx
     clear hx
     go_wp2_with fail
     (with_reducible refine Calls.mono (HFx.out _ (Below.refl _ _)) ?_)
     rintro e w5 ⟨rfl,q5,hq5⟩
     have hbq:Below wr.heap.size wr w5:=by rw [hq5];exact ⟨rfl,rfl,rfl,Nat.le_refl _,fun _ _=>rfl⟩
     have HB5:=aj hbq
     have HL5:=aj (HL.out.below hbq)
     have HM5:=aj (HM.out.later hbq)
     have c0':w5.cell? ⟨gl,0,none⟩=some (.pointer (some ⟨gd,0,none⟩)):=by rw [hbq.cell hlt0];exact c0
     have c2':w5.cell? ⟨gl,2,none⟩=some (.slice (some ⟨b,off,none⟩) (m+1) cf):=by rw [hbq.cell hlt0];exact c2
     have hc':w5.cell? ⟨b,off,none⟩=some (dG (g 0)):=by rw [hbq.cell hb0];exact hc
     have z0':w5.cell? ⟨g 0,0,none⟩=some (.int .i64 (f.num:Nat)):=by rw [hbq.cell hg0];exact z0
     have S0:tu ⟨gl,0,none⟩ (.pointer (some ⟨gd,0,none⟩)) ⟨gl,2,none⟩ (.slice (some ⟨b,off,none⟩) (m+1) cf) ⟨b,off,none⟩ (dG (g 0)) ⟨g 0,0,none⟩ (.int .i64 (f.num:Nat)) w5:=⟨c0',c2',hc',z0'⟩
     have HC1:=aj (zn (f.num:Nat) (by omega) (by omega) gd Qd d1 w5 HL5.out.dk)
     have HC2:=aj (zn (f.num:Nat) (by omega) (by omega) gd Qd d1 w5.drew (HL5.out.dk.below (Below.drew (Below.refl _ _))))
     rw [HDf.out.2.1] at HC1 HC2
     clear hq5 hbq c0 c1 c2 hc z0 c0' c2' hc' z0'
     go_wp2_with fail
     go_region_held3 (tu ⟨gl,0,none⟩ (.pointer (some ⟨gd,0,none⟩)) ⟨gl,2,none⟩ (.slice (some ⟨b,off,none⟩) (m+1) cf) ⟨b,off,none⟩ (dG (g 0)) ⟨g 0,0,none⟩ (.int .i64 (f.num:Nat))) (first | assumption)
      (first
      | (go_at_call 75;(with_reducible refine Calls.mono HC1.out ?_);rintro e w6 ⟨rfl,Q',hk,t1,hq⟩;have HK:=aj hk;have HT:=aj t1;have HQ:=aj hq;have S5:=abM (w2:=w5) S0 t1 HG.out.1 HG.out.1 HG.out.2.1 HG.out.2.2;clear hk t1 hq)
      | (go_at_call 75;(with_reducible refine Calls.mono HC2.out ?_);rintro e w6 ⟨rfl,Q',hk,t1,hq⟩;have HK:=aj hk;have HT:=aj ((Tn.refl Qd w5).drew.trans t1 (fun q hq => .inl hq));have HQ:=aj (show ∀ q,Q' q→Qd q∨w5.heap.size≤q from hq);have S5:=abM (w2:=w5.drew) S0 t1 HG.out.1 HG.out.1 HG.out.2.1 HG.out.2.2;clear hk t1 hq)
      | fail)
     have HL6:=aj (HL5.out.disk HK.out HT.out HQ.out)
     obtain ⟨d0,-,d2⟩:=fB HL6.out.whole
     simp only [List.length_cons] at d2
     rw [← HLm.out] at d2
     have HDe:=aj (fun (W:World) (hr:bC 132 W (some ⟨b,off,none⟩) (m+1) cf (ptrs g (m+1)))=>show Calls Tryz.prog 76 #[.slice (some ⟨b,off,none⟩) (m+1) cf,.int .i64 0,.int .i64 1] W _ from afC b off m cf g W hr)
     have HRw:=aj (show bC 132 w6 (some ⟨b,off,none⟩) (m+1) cf (ptrs g (m+1)) by
      have h9:=HL6.out.row
      simp only [List.length_cons] at h9
      rw [← HLm.out] at h9
      exact h9)
     clear HC1 HC2 HFx
     go_wp2_with fail
     (with_reducible refine Calls.mono (HDe.out _ HRw.out) ?_)
     rintro e w7 ⟨rfl,hr7,t7⟩
     have W7:=aj (HL6.out.whole.tn t7 (fun e=>by
      obtain ⟨cur,hcw⟩:=jG HRw.out (k:=b) rfl
      subst e
      exact absurd (kE hcw HL6.out.whole) (by decide)))
     have y7:=W7.out.free 2
     have y8:=W7.out.cell 2 (.slice (some ⟨b,off,none⟩) (m+1) cf) (by simp [mP,HLm.out])
     have HR7:=aj hr7
     have HT7:=aj t7
     clear hr7 t7 d0 d2
     go_wp2_with fail
     obtain ⟨w8,hw8⟩:∃ w8:World,w8=w7.setCell ⟨gl,2,none⟩ (.slice (some ⟨b,off,none⟩) m cf):=⟨_,rfl⟩
     rw [← hw8]
     have hdr:=bB.drop (w3:=w8) HL6.out rfl HT7.out (by rw [show (f2::L1).length=m by rw [HLm.out];rfl];exact HR7.out) (by rw [show (f2::L1).length=m by rw [HLm.out];rfl];exact hw8)
     have HD8:=aj (afI HM5.out HX.out HL5.out (HFt.out.wide (fun q hq=>hq.imp id (fun hq=>⟨hq.1,Nat.lt_of_lt_of_le hq.2 HB5.out.size⟩))) (fun i hi q hq=>(HFt.out.p (i+1) (by simpa using hi) q hq).imp id (fun hq=>⟨hq.1,Nat.lt_of_lt_of_le hq.2 HB5.out.size⟩)) HT.out HQ.out hdr)
     have hl8:=acd hdr.1
     have hl0:=acd HL.out
     clear hdr hw8
     go_roundw
     case rel=>exact ⟨_,_,_,_,HD8.out⟩
     case measure=>simp only [hl8,hl0,List.length_cons];omega
    ·have y1:decide ((aO f:Int)≤(n:Int))=false:=decide_eq_false (by omega)
     have y2:decide (aO f≤n)=false:=decide_eq_false hx
     have HE:=aj (wY (f2:=f2) (L:=L1) hx)
     clear hx
     go_wp2_with fail
     (with_reducible refine Calls.mono (HFx.out _ (Below.refl _ _)) ?_)
     rintro e w5 ⟨rfl,q5,hq5⟩
     have HM5:=aj (HM.out.later (by rw [hq5];exact ⟨rfl,rfl,rfl,Nat.le_refl _,fun _ _=>rfl⟩:Below wr.heap.size wr w5))
     clear hq5
     go_wp2_with fail
     go_ret
     rw [← HR.out] at HM5
     exact wX HM5.out HE.out
end Wl
end Go.Proofs.YtpcmlopbkehffaaGreat
namespace Go.Proofs.YtpcmlopbkehffaaGreat
open Go.RowKit Fm Dsk
namespace Wl
theorem abv (n:Nat):∀ (L:List FS) (f:FS),Chain (f::L)→aC (cK n (f::L))=(aC (f::L)).drop (aS (cK n (f::L))-f.first)∧f.first≤aS (cK n (f::L))∧aS (cK n (f::L))≤f.first+(aC (f::L)).length∧aS (cK n (f::L))≤max f.first n
 | [],f,_=>by
   rw [drop_one]
   show aC [f]=(aC [f]).drop (f.first-f.first)∧f.first≤f.first∧f.first≤f.first+_∧f.first≤max f.first n
   rw [Nat.sub_self,List.drop_zero]
   exact ⟨rfl,Nat.le_refl _,by omega,by omega⟩
 | f2 :: L,f,h=>by
   by_cases hx:aO f≤n
   ·obtain ⟨h1,h2⟩:=h
    obtain ⟨k1,k2,k3,k4⟩:=abv n L f2 h2
    rw [wZ hx]
    have h3:aO f=f.first+f.recs.length:=rfl
    generalize aS (cK n (f2::L))=a at *
    rw [zh f (f2::L),List.length_append]
    refine ⟨?_,by omega,by omega,by omega⟩
    have e9:List.drop (f.recs.length+(a-f2.first)) f.recs=[]:=List.drop_eq_nil_of_le (by omega)
    rw [k1,show a-f.first=f.recs.length+(a-f2.first) by omega,List.drop_append,e9,Nat.add_sub_cancel_left,List.nil_append]
   ·rw [wY hx]
    show aC (f::f2::L)=(aC (f::f2::L)).drop (f.first-f.first)∧f.first≤f.first∧f.first≤f.first+_∧f.first≤max f.first n
    rw [Nat.sub_self,List.drop_zero]
    exact ⟨rfl,Nat.le_refl _,by omega,by omega⟩
end Wl
end Go.Proofs.YtpcmlopbkehffaaGreat
