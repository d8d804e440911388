/-
  A log as it lies in memory: rows that may be appended to wherever they begin; a file of the log, parted; the log with its disk.
-/
import Derived.Test.YtpcmlopbkehffaaGreatOGAA
import Derived.Test.YtpcmlopbkehffaaGreatOGAD
import Derived.Test.YtpcmlopbkehffaaGreatOGAE
import Derived.Test.YtpcmlopbkehffaaGreatOGAG
import Derived.Test.YtpcmlopbkehffaaGreatOSls
import Derived.ArgAppend
import Derived.Deep.QuietTactic
import Derived.BigQuiet
import Derived.Deep.RegionHeld3
import Derived.Deep.Slices
import Derived.Deep.DrawnRows
set_option linter.unusedSimpArgs false
set_option linter.unusedVariables false
namespace Go.Proofs.YtpcmlopbkehffaaGreat
open Go.RowKit Fm Dsk
namespace Wl
def bC (e:TypeId) (w:World) (A:Option Addr) (n c:Nat) (vs:List Value):Prop :=
 vs.length=n∧n≤c∧c≤9223372036854775807∧(∀ u∈vs,u.oneCell'=true)∧((A=none∧c=0)∨∃ g off cur,A=some ⟨g,off,none⟩∧Whole w g e cur∧off+c≤cur.size∧∀ j u,vs[j]? = some u→cur[off+j]? = some u)
theorem bC.none (e:TypeId) (w:World):bC e w .none 0 0 []:=⟨rfl,Nat.le_refl _,by omega,by simp,.inl ⟨rfl,rfl⟩⟩
theorem bC.stands {e:TypeId} {w w':World} {A:Option Addr} {n c:Nat} {vs:List Value} (h:bC e w A n c vs) (hk:∀ k,aB A=some k→w'.heap[k]? = w.heap[k]?):bC e w' A n c vs:=by
 obtain ⟨h1,h2,h3,h4,h5⟩:=h
 refine ⟨h1,h2,h3,h4,?_⟩
 rcases h5 with h5 | ⟨g,off,cur,rfl,hw,hs,hc⟩
 ·exact .inl h5
 ·exact .inr ⟨g,off,cur,rfl,(hk g rfl).trans hw,hs,hc⟩
theorem bC.dB {e:TypeId} {w:World} {A:Option Addr} {n c:Nat} {vs:List Value} (h:bC e w A n c vs):∀ k,aB A=some k→k<w.heap.size:=by
 intro k hk
 rcases h.2.2.2.2 with ⟨rfl,_⟩ | ⟨g,off,cur,rfl,hw,_⟩
 ·cases hk
 ·cases hk;exact hw.lt
theorem bC.holds {e:TypeId} {w:World} {A:Option Addr} {n c:Nat} {vs:List Value} (h:bC e w A n c vs):Holds w A vs:=by
 intro hne
 rcases h.2.2.2.2 with ⟨rfl,rfl⟩ | ⟨g,off,cur,rfl,hw,hs,hc⟩
 ·have h1:=h.1
  have h2:=h.2.1
  exact absurd (List.eq_nil_of_length_eq_zero (by omega)) hne
 ·refine ⟨g,off,rfl,fun k u hu=>?_⟩
  exact hw.cell (off+k) u (hc k u hu)
theorem bC.row {e:TypeId} {w:World} {A:Option Addr} {n c:Nat} {vs:List Value} (h:bC e w A n c vs):Row w A n c vs :=
 ⟨h.holds,h.1,h.2.1,h.2.2.1,fun e=>by
  rcases h.2.2.2.2 with ⟨_,hc⟩ | ⟨g,off,cur,rfl,_⟩
  ·exact hc
  ·cases e⟩
theorem bC.uL {e:TypeId} {B:Nat} {w:World} {A:Option Addr} {n c:Nat} {vs:List Value} (h:w.ownsRow B e 1 (.slice A n c) n vs) (h1:∀ u∈vs,u.oneCell'=true):bC e w A n c vs:=by
 obtain ⟨hx,⟨e',rfl⟩ | ⟨g,cap,cur,e',hg,hh,hnc,hcm,hs,hc⟩⟩:=h
 ·injection e' with a b c
  subst a c
  exact ⟨by omega,Nat.le_refl _,by omega,h1,.inl ⟨rfl,rfl⟩⟩
 ·injection e' with a b c
  subst a c
  unfold maxLen at hcm
  refine ⟨by omega,hnc,by omega,h1,.inr ⟨g,0,cur,rfl,hh,by omega,fun j u hu=>?_⟩⟩
  rw [Nat.zero_add,← Array.getElem?_toList]
  rw [← hc,List.getElem?_take] at hu
  split at hu
  ·exact hu
  ·cases hu
theorem bC.tail {e:TypeId} {w:World} {g off n c:Nat} {v:Value} {vs:List Value} (h:bC e w (some ⟨g,off,.none⟩) n c (v::vs)):bC e w (if c=1 then some ⟨g,off,.none⟩ else some ⟨g,off+1,.none⟩) (n-1) (c-1) vs:=by
 obtain ⟨h1,h2,h3,h4,h5⟩:=h
 rw [List.length_cons] at h1
 refine ⟨by omega,by omega,by omega,fun u hu=>h4 u (by simp [hu]),.inr ?_⟩
 rcases h5 with ⟨e',_⟩ | ⟨g',off',cur,e',hw,hs,hc⟩
 ·cases e'
 ·cases e'
  by_cases h0:c=1
  ·refine ⟨g,off,cur,by rw [if_pos h0],hw,by omega,fun j u hu=>?_⟩
   have:vs=[]:=List.eq_nil_of_length_eq_zero (by omega)
   rw [this] at hu
   simp at hu
  ·refine ⟨g,off+1,cur,by rw [if_neg h0],hw,by omega,fun j u hu=>?_⟩
   have:=hc (j+1) u (by simpa using hu)
   rwa [show off+1+j=off+(j+1) by omega]
theorem ady {e:TypeId} {w:World} {A:Option Addr} {n c:Nat} {vs:List Value} (h:bC e w A n c vs) (t ty:TypeId) (z:Value) (by_:Nat) (ht:Tryz.prog.underlying t=some (.slice e))
  (hinfo:(Tryz.prog.info? e).map (fun i=>(i.zero,i.size,i.bytes))=some (some z,1,by_)) (hz:z.cells.size=1) (b:Nat) (v:Value) (hv:v.oneCell'=true) (hb:w.cell? ⟨b,0,.none⟩=some v) (hroom:(n+1)*by_≤140737488355328) (hlen:n+1≤140737488355328) :
  ∃ A' c' w',(Builtin.append_ #[t,t] ty #[.slice A n c,.slice (some ⟨b,0,.none⟩) 1 1]).run Tryz.prog w = .ok (.slice A' (n+1) c') w'∧bC e w' A' (n+1) c' (vs++[v])∧w.grownBy w' (aB A)∧(∀ k,aB A'=some k→aB A=some k∨w.heap.size≤k):=by
 obtain ⟨i0,hi0,hz0,hz1,hz2⟩:=info_parts hinfo
 have hone:∀ u∈vs++[v],u.oneCell'=true:=by
  intro u hu
  rcases List.mem_append.1 hu with hu | hu
  ·exact h.2.2.2.1 u hu
  ·rw [List.mem_singleton.1 hu];exact hv
 have hnews:∀ j u,([v]:List Value)[j]? = some u→w.cell? ((⟨b,0,.none⟩:Addr).add j)=some u:=by
  intro j u hu
  rcases j with _ | j
  ·cases hu;exact hb
  ·simp at hu
 have h1n:∀ u∈([v]:List Value),u.oneCell'=true:=fun u hu=>by rw [List.mem_singleton.1 hu];exact hv
 rcases h.2.2.2.2 with ⟨rfl,rfl⟩ | ⟨g,off,cur,rfl,hw,hs,hc⟩
 ·have hn0:n=0:=by have:=h.2.1;omega
  subst hn0
  have hvs:vs=[]:=List.eq_nil_of_length_eq_zero h.1
  subst hvs
  obtain ⟨A',c',w',hr,ho,hg,hat⟩:=zA (P:=Tryz.prog) w 0 t ty e i0 z 1 by_ ht hi0 hz0 hz1 hz2 hz (by omega) (.slice .none 0 0) 0 [] (World.ownsRow_nil w 0 e 1) (some ⟨b,0,.none⟩) 1 1 [v] rfl
   (fun _=>⟨b,0,rfl,fun k u hu=>by have:=hnews k u hu;rwa [add_plain] at this⟩) (fun e=>by cases e) h1n 1 [v] rfl rfl (by unfold maxLen;omega) (by simpa using hroom) (Nat.zero_le _)
  refine ⟨A',c',w',hr,bC.uL ho hone,by simpa [Value.ownBlock,aB] using hg,?_⟩
  rw [fT,fT] at hat
  intro k hk
  rcases hat with e1 | e1
  ·rw [e1] at hk;exact .inl hk
  ·rw [e1] at hk;cases hk;exact .inr (Nat.le_refl _)
 ·by_cases hfit:n+1≤c
  ·have hlt:off+n<cur.size:=by omega
   have hcell:∀ j,j<([v]:List Value).length→(w.cell? ⟨g,off+n*i0.size+j,.none⟩).isSome=true:=by
    intro j hj
    have hj0:j=0:=by simpa using hj
    subst hj0
    rw [hz1,Nat.mul_one,Nat.add_zero,hw.cell (off+n) _ (Array.getElem?_eq_getElem hlt)]
    rfl
   have hfz:∀ j,j<([v]:List Value).length→w.frozen? ⟨g,off+n*i0.size+j,.none⟩=false:=fun j _=>hw.free _
   have hr:=run_append_room_cells (P:=Tryz.prog) w t ty e i0 ht hi0 g off n c ⟨b,0,.none⟩ 1 1 [v] (by rw [hz1];rfl) hnews h1n hfit hcell hfz
   refine ⟨some ⟨g,off,.none⟩,c,_,hr,?_,?_,fun k hk => .inl hk⟩
   ·rw [hz1,Nat.mul_one]
    have hset:w.setCells g (off+n) [v]=w.setCell ⟨g,off+n,.none⟩ v:=by simp [World.setCells]
    rw [hset]
    refine ⟨by rw [List.length_append,h.1];rfl,hfit,h.2.2.1,hone,.inr ⟨g,off,cur.setIfInBounds (off+n) v,rfl,hw.store (off+n) v,by simpa using hs,fun j u hu=>?_⟩⟩
    rw [Array.getElem?_setIfInBounds]
    by_cases hj:j<vs.length
    ·rw [List.getElem?_append_left hj] at hu
     rw [if_neg (by have:=h.1;omega)]
     exact hc j u hu
    ·rw [List.getElem?_append_right (by omega)] at hu
     have hj0:j-vs.length=0:=by
      rcases Nat.eq_zero_or_pos (j-vs.length) with e0 | e0
      ·exact e0
      ·rw [List.getElem?_eq_none (by simp;omega)] at hu;cases hu
     rw [hj0] at hu
     have hjn:j=n:=by have:=h.1;omega
     subst hjn
     rw [if_pos rfl,if_pos hlt]
     exact hu
   ·rw [hz1,Nat.mul_one]
    have hset:w.setCells g (off+n) [v]=w.setCell ⟨g,off+n,.none⟩ v:=by simp [World.setCells]
    rw [hset]
    exact ⟨rfl,rfl,rfl,by show _≤(w.heap.modify _ _).size;rw [Array.size_modify];exact Nat.le_refl _,fun i _ hi=>Below.heap_setCell w ⟨g,off+n,.none⟩ v i (by rintro rfl;exact hi rfl)⟩
  ·have hcells:∀ j u,vs[j]? = some u→w.cell? ((⟨g,off,.none⟩:Addr).add j)=some u:=fun j u hu=>by
    rw [add_plain]
    exact hw.cell (off+j) u (hc j u hu)
   obtain ⟨v',w',hr,ho,hg⟩:=run_append_arg_grows (P:=Tryz.prog) w t ty e i0 z 1 by_ ht hi0 hz0 hz1 hz2 hz (by omega) ⟨g,off,.none⟩ n c vs (by rw [h.1,Nat.mul_one]) hcells ⟨b,0,.none⟩ 1 1 [v] rfl hnews (by omega) (by unfold maxLen;omega) hroom
   obtain ⟨A',c',rfl,_⟩:=mY ho
   refine ⟨A',c',w',hr,bC.uL ho hone,⟨hg.os,hg.tape,hg.output,hg.size,fun i hi _=>hg.block i hi (by simp)⟩,?_⟩
   intro k hk
   rw [← fT A' (n+1) c'] at hk
   exact .inr (jY ho k hk)
theorem sU {e:TypeId} {w:World} {ops:Array Oper} {rest:List Oper} {o:Oper} {a:Act} {Q:Exit→Act→World→Prop} (hgd:Region.wanted o (yielded ops a.tmps)=true) (s x:Operand) (t:TypeId)
  (ho:o.op = .call {callee := .builtin .append,args:=#[s,x],argTypes:=#[t,t] }) (z:Value) (by_:Nat) (ht:Tryz.prog.underlying t=some (.slice e)) (hinfo:(Tryz.prog.info? e).map (fun i=>(i.zero,i.size,i.bytes))=some (some z,1,by_)) (hz:z.cells.size=1)
  (A:Option Addr) (n c:Nat) (vs:List Value) (hs:a.eval s = .slice A n c) (h:bC e w A n c vs) (b:Nat) (v:Value) (hx:a.eval x = .slice (some ⟨b,0,.none⟩) 1 1) (hv:v.oneCell'=true) (hb:w.cell? ⟨b,0,.none⟩=some v)
  (hroom:(n+1)*by_≤140737488355328) (hlen:n+1≤140737488355328)
  (hK:∀ A' c' w',bC e w' A' (n+1) c' (vs++[v])→w.grownBy w' (aB A)→(∀ k,aB A'=some k→aB A=some k∨w.heap.size≤k)→wpList Tryz.prog ops Q rest (a.put o.dst (.slice A' (n+1) c')) w') :
  wpList Tryz.prog ops Q (o::rest) a w:=by
 rw [wpList,if_pos hgd]
 obtain ⟨A',c',w',hr,h1,h2,h3⟩:=ady h t o.type z by_ ht hinfo hz b v hv hb hroom hlen
 unfold Oper.wp execOp
 simp only [ho,resolve,invoke,builtin,Sem.run_bind,Sem.run_pure,Result.andThen_ok,List.map_toArray,List.map_cons,List.map_nil,hs,hx,hr]
 exact Or.inl (hK A' c' w' h1 h2 h3)
theorem alj {e:TypeId} {w:World} {ops:Array Oper} {o:Oper} {a:Act} {K:Act→World→Prop} {Q:Exit→Act→World→Prop} {F:Prop} (hgd:Region.wanted o (yielded ops a.tmps)=true) (s x:Operand) (t:TypeId)
  (ho:o.op = .call {callee := .builtin .append,args:=#[s,x],argTypes:=#[t,t] }) (z:Value) (by_:Nat) (ht:Tryz.prog.underlying t=some (.slice e)) (hinfo:(Tryz.prog.info? e).map (fun i=>(i.zero,i.size,i.bytes))=some (some z,1,by_)) (hz:z.cells.size=1)
  (A:Option Addr) (n c:Nat) (vs:List Value) (hs:a.eval s = .slice A n c) (h:bC e w A n c vs) (b:Nat) (v:Value) (hx:a.eval x = .slice (some ⟨b,0,.none⟩) 1 1) (hv:v.oneCell'=true) (hb:w.cell? ⟨b,0,.none⟩=some v)
  (hroom:(n+1)*by_≤140737488355328) (hlen:n+1≤140737488355328)
  (hK:∀ A' c' w',bC e w' A' (n+1) c' (vs++[v])→w.grownBy w' (aB A)→(∀ k,aB A'=some k→aB A=some k∨w.heap.size≤k)→K (a.put o.dst (.slice A' (n+1) c')) w') :
  if Region.wanted o (yielded ops a.tmps)=true then Oper.wp Tryz.prog o a w K Q else F:=by
 rw [if_pos hgd]
 obtain ⟨A',c',w',hr,h1,h2,h3⟩:=ady h t o.type z by_ ht hinfo hz b v hv hb hroom hlen
 unfold Oper.wp execOp
 simp only [ho,resolve,invoke,builtin,Sem.run_bind,Sem.run_pure,Result.andThen_ok,List.map_toArray,List.map_cons,List.map_nil,hs,hx,hr]
 exact hK A' c' w' h1 h2 h3
def SlN (X:Nat→Prop) (w:World) (A:Option Addr) (n c:Nat) (l:List UInt8):Prop:=Sl w A n c l∧∀ a,A=some a→l≠[]→¬ X a.block
theorem SlN.tn {X Q:Nat→Prop} {w w':World} {A:Option Addr} {n c:Nat} {l:List UInt8} (h:SlN X w A n c l) (k:Tn Q w w') (hq:∀ q,Q q→X q∨w.heap.size≤q):SlN X w' A n c l:=by
 refine ⟨h.1.tn k (fun a e hne hq2=>?_),h.2⟩
 rcases hq _ hq2 with h1 | h1
 ·exact h.2 a e hne h1
 ·subst e;have:=h.1.block hne;omega
theorem SlN.more {X X':Nat→Prop} {w:World} {A:Option Addr} {n c:Nat} {l:List UInt8} (h:SlN X w A n c l) (hx:∀ q,X' q→X q∨w.heap.size≤q):SlN X' w A n c l:=by
 refine ⟨h.1,fun a e hne hq=>?_⟩
 rcases hx _ hq with h1 | h1
 ·exact h.2 a e hne h1
 ·subst e;have:=h.1.block hne;omega
def dY (w:World) (X:Nat→Prop) (A:Option Addr) (n c:Nat) (ls:List (List UInt8)):Prop :=
 ∃ vs,bC 109 w A n c vs∧vs.length=ls.length∧∀ i (h:i<ls.length),∃ A' n' c',vs[i]? = some (.slice A' n' c')∧SlN X w A' n' c' ls[i]
theorem dY.none (w:World) (X:Nat→Prop):dY w X .none 0 0 []:=⟨[],bC.none _ _,rfl,fun i h=>absurd h (Nat.not_lt_zero i)⟩
theorem dY.len {w:World} {X:Nat→Prop} {A:Option Addr} {n c:Nat} {ls:List (List UInt8)} (h:dY w X A n c ls):ls.length=n:=by
 obtain ⟨vs,h1,h2,_⟩:=h
 rw [← h2];exact h1.1
theorem dY.tn {w w':World} {X Q:Nat→Prop} {A:Option Addr} {n c:Nat} {ls:List (List UInt8)} (h:dY w X A n c ls) (k:Tn Q w w') (hA:∀ b,aB A=some b→¬ Q b) (hq:∀ q,Q q→X q∨w.heap.size≤q):dY w' X A n c ls:=by
 obtain ⟨vs,h1,h2,h3⟩:=h
 refine ⟨vs,h1.stands (fun b hb=>k.block b (h1.dB b hb) (hA b hb)),h2,fun i hi=>?_⟩
 obtain ⟨A',n',c',e,h4⟩:=h3 i hi
 exact ⟨A',n',c',e,h4.tn k hq⟩
theorem dY.more {w:World} {X X':Nat→Prop} {A:Option Addr} {n c:Nat} {ls:List (List UInt8)} (h:dY w X A n c ls) (hx:∀ q,X' q→X q∨w.heap.size≤q):dY w X' A n c ls:=by
 obtain ⟨vs,h1,h2,h3⟩:=h
 refine ⟨vs,h1,h2,fun i hi=>?_⟩
 obtain ⟨A',n',c',e,h4⟩:=h3 i hi
 exact ⟨A',n',c',e,h4.more hx⟩
theorem dY.dB {w:World} {X:Nat→Prop} {A:Option Addr} {n c:Nat} {ls:List (List UInt8)} (h:dY w X A n c ls):∀ k,aB A=some k→k<w.heap.size:=by
 obtain ⟨vs,h1,_⟩:=h
 exact h1.dB
theorem dY.sls {w:World} {X:Nat→Prop} {A:Option Addr} {n c:Nat} {ls:List (List UInt8)} (h:dY w X A n c ls):Sls w A n c ls:=by
 have hl:=h.len
 obtain ⟨vs,h1,h2,h3⟩:=h
 refine ⟨⟨vs,h1.holds,h2,fun i hi=>?_⟩,hl,h1.2.1,h1.2.2.1,h1.row.nil⟩
 obtain ⟨A',n',c',e,h4⟩:=h3 i hi
 exact ⟨A',n',c',e,h4.1,jM.none _ _⟩
theorem dY.snoc {w':World} {X:Nat→Prop} {A':Option Addr} {n c':Nat} {ls:List (List UInt8)} {vs:List Value} {Ar:Option Addr} {nr cr:Nat} {l:List UInt8} (h:bC 109 w' A' (n+1) c' (vs++[.slice Ar nr cr]))
  (hl:vs.length=ls.length) (he:∀ i (h:i<ls.length),∃ A' n' c',vs[i]? = some (.slice A' n' c')∧SlN X w' A' n' c' ls[i]) (hn:SlN X w' Ar nr cr l):dY w' X A' (n+1) c' (ls++[l]):=by
 refine ⟨_,h,by rw [List.length_append,List.length_append,hl];rfl,fun i hi=>?_⟩
 by_cases h0:i<ls.length
 ·obtain ⟨A',n',c',e,h4⟩:=he i h0
  exact ⟨A',n',c',by rw [List.getElem?_append_left (by omega)];exact e,by rw [List.getElem_append_left h0];exact h4⟩
 ·have hi0:i=ls.length:=by rw [List.length_append,List.length_singleton] at hi;omega
  subst hi0
  exact ⟨Ar,nr,cr,by rw [List.getElem?_append_right (by omega),hl,Nat.sub_self];rfl,by simpa using hn⟩
structure FS where
 num:Nat
 first:Nat
 recs:List (List UInt8)
 all:List UInt8
 dL:Nat
def cellsS (f:FS) (Ar:Option Addr) (cr:Nat) (Aa:Option Addr) (ca:Nat):Array Value:=#[.int .i64 (f.num:Nat),.int .u64 (f.first:Nat),.slice Ar f.recs.length cr,.slice Aa f.all.length ca,.int .i64 (f.dL:Nat)]
structure dO (w:World) (X P:Nat→Prop) (g:Nat) (f:FS):Prop where
 pg:P g
 plt:∀ q,P q→q<w.heap.size
 px:∀ q,P q→X q
 mem:∃ Ar cr Aa ca,Whole w g 134 (cellsS f Ar cr Aa ca)∧dY w X Ar f.recs.length cr f.recs∧Own 0 w Aa f.all.length ca f.all∧(∀ k,aB Ar=some k→P k)∧(∀ k,aB Aa=some k→P k)
theorem dO.tn {w w':World} {X P Q:Nat→Prop} {g:Nat} {f:FS} (h:dO w X P g f) (k:Tn Q w w') (hp:∀ q,P q→¬ Q q) (hq:∀ q,Q q→X q∨w.heap.size≤q):dO w' X P g f:=by
 obtain ⟨Ar,cr,Aa,ca,h1,h2,h3,h4,h5⟩:=h.mem
 refine ⟨h.pg,fun q hq2=>Nat.lt_of_lt_of_le (h.plt q hq2) k.size,h.px,Ar,cr,Aa,ca,h1.tn k (hp g h.pg),h2.tn k (fun b hb=>hp b (h4 b hb)) hq,h3.stands (fun b hb=>k.block b (h3.dB b hb) (hp b (h5 b hb))),h4,h5⟩
theorem dO.below {w w':World} {X P:Nat→Prop} {g:Nat} {f:FS} (h:dO w X P g f) (k:Below w.heap.size w w'):dO w' X P g f:=h.tn (Q:=fun _=>False) (Tn.of_below k) (fun _ _ e=>e) (fun _ e=>e.elim)
theorem dO.more {w:World} {X X' P:Nat→Prop} {g:Nat} {f:FS} (h:dO w X P g f) (hx:∀ q,X' q→X q∨w.heap.size≤q) (hp:∀ q,P q→X' q):dO w X' P g f:=by
 obtain ⟨Ar,cr,Aa,ca,h1,h2,h3,h4,h5⟩:=h.mem
 exact ⟨h.pg,h.plt,hp,Ar,cr,Aa,ca,h1,h2.more hx,h3,h4,h5⟩
end Wl
end Go.Proofs.YtpcmlopbkehffaaGreat
namespace Go.Proofs.YtpcmlopbkehffaaGreat
open Go.RowKit Fm Dsk
namespace Wl
def aO (f:FS):Nat:=f.first+f.recs.length
theorem jH {w:World} {g:Nat} {f:FS} {Ar:Option Addr} {cr:Nat} {Aa:Option Addr} {ca:Nat} (h:Whole w g 134 (cellsS f Ar cr Aa ca)) :
  w.cell? ⟨g,0,none⟩=some (.int .i64 (f.num:Nat))∧w.cell? ⟨g,1,none⟩=some (.int .u64 (f.first:Nat))∧w.cell? ⟨g,2,none⟩=some (.slice Ar f.recs.length cr)∧w.cell? ⟨g,3,none⟩=some (.slice Aa f.all.length ca)∧w.cell? ⟨g,4,none⟩=some (.int .i64 (f.dL:Nat)) :=
 ⟨h.cell 0 _ rfl,h.cell 1 _ rfl,h.cell 2 _ rfl,h.cell 3 _ rfl,h.cell 4 _ rfl⟩
set_option maxHeartbeats 4000000 in
theorem xA (X P:Nat→Prop) (g:Nat) (f:FS) (w:World) (h:dO w X P g f) (hn:aO f<18446744073709551616) (hr:f.recs.length≤9223372036854775807):Calls Tryz.prog 74 #[.pointer (some ⟨g,0,none⟩)] w (fun e w'=>e = .returned (.int .u64 (aO f:Nat))∧∃ q,w'=w.drewN q):=by
 obtain ⟨Ar,cr,Aa,ca,h1,-⟩:=h.mem
 obtain ⟨c0,c1,c2,c3,c4⟩:=jH h1
 have HN:=aj (show ((f.first:Int)+(f.recs.length:Int))=(aO f:Nat) by unfold aO;omega)
 have hw1:IntKind.u64.wrap (f.recs.length:Int)=(f.recs.length:Int):=by simp [IntKind.wrap,IntKind.bits,IntKind.signed];omega
 have hw2:IntKind.u64.wrap ((f.first:Int)+(f.recs.length:Int))=((aO f:Nat):Int):=by unfold aO at *;simp [IntKind.wrap,IntKind.bits,IntKind.signed];omega
 generalize f.recs.length=r at *
 generalize f.first=s at *
 generalize aO f=v at *
 clear h h1 hn
 go_enter Tryz.func74,Tryz.ntmps74
 go_wp2_with fail
 go_quiet (fail)
 go_wp2_with fail
 go_ret
 exact ⟨by first | rfl | rw [hw2] | rw [HN.out],_,rfl⟩
theorem kE {w:World} {g:Nat} {t t':TypeId} {cs cs':Array Value} (h:Whole w g t cs) (h':Whole w g t' cs'):t=t':=by
 unfold Whole at h h'
 rw [h] at h'
 injection h' with h'
 injection h' with a b
theorem ac0 {B:Nat} {w:World} {A:Option Addr} {n c:Nat} {l:List UInt8} (h:Own B w A n c l) {k:Nat} (hk:aB A=some k):∃ cur,Whole w k 5 cur:=by
 obtain ⟨hx,⟨e,_⟩ | ⟨g,cap,cur,e,hg,hh,_⟩⟩:=h
 ·injection e with e1;subst e1;cases hk
 ·injection e with e1;subst e1;cases hk;exact ⟨cur,hh⟩
theorem jG {e:TypeId} {w:World} {A:Option Addr} {n c:Nat} {vs:List Value} (h:bC e w A n c vs) {k:Nat} (hk:aB A=some k):∃ cur,Whole w k e cur:=by
 rcases h.2.2.2.2 with ⟨rfl,_⟩ | ⟨g,off,cur,rfl,hw,_⟩
 ·cases hk
 ·cases hk;exact ⟨cur,hw⟩
theorem pX {B:Nat} {w:World} {A:Option Addr} {n c:Nat} {l:List UInt8} {g:Nat} {cs:Array Value} (h:Own B w A n c l) (hw:Whole w g 134 cs):aB A≠some g:=by
 intro hk
 obtain ⟨cur,h1⟩:=ac0 h hk
 exact absurd (kE h1 hw) (by decide)
theorem uR {w:World} {A:Option Addr} {n c:Nat} {vs:List Value} {g:Nat} {cs:Array Value} (h:bC 109 w A n c vs) (hw:Whole w g 134 cs):aB A≠some g:=by
 intro hk
 obtain ⟨cur,h1⟩:=jG h hk
 exact absurd (kE h1 hw) (by decide)
theorem adf {B:Nat} {w:World} {A A':Option Addr} {n c n' c':Nat} {vs:List Value} {l:List UInt8} (h:bC 109 w A n c vs) (h':Own B w A' n' c' l) {k:Nat} (hk:aB A=some k):aB A'≠some k:=by
 intro hk'
 obtain ⟨cur,h1⟩:=jG h hk
 obtain ⟨cur',h2⟩:=ac0 h' hk'
 exact absurd (kE h1 h2) (by decide)
theorem abY {w w':World} {row:Option Nat} (h:w.grownBy w' row):Tn (fun q=>row=some q) w w':=⟨h.os,h.tape,h.output,h.size,fun i hi hne=>h.block i hi (fun e=>hne e.symm)⟩
def fK (f:FS) (b:List UInt8) (r:List UInt8):FS:=⟨f.num,f.first,f.recs++[r],f.all++b,f.dL⟩
structure Wr (w w':World) (g gd:Nat) (Qd X P:Nat→Prop) (d':ak) (f':FS) (Qd' X' P':Nat→Prop):Prop where
 dk:Dk w' gd Qd' d'
 fs:dO w' X' P' g f'
 tn:Tn (fun q=>P q∨Qd q) w w'
 p : ∀ q,P' q→P q∨w.heap.size≤q
 q : ∀ q,Qd' q→Qd q∨w.heap.size≤q
 ap:∀ q,P' q→¬ Qd' q
 x : ∀ q,X' q→X q∨w.heap.size≤q
 qx:∀ q,Qd' q→X' q
 xx:∀ q,X q→X' q
 xlt:∀ q,X' q→q<w'.heap.size
def vV (w:World) (g gd:Nat) (Qd X P:Nat→Prop) (d:ak) (f:FS) (b r:List UInt8) (e:Ending) (w':World):Prop :=
 e = .returned (.int .i64 (bU d (f.num:Nat) b.length))∧∃ Qd' X' P',Wr w w' g gd Qd X P (bX d (f.num:Nat) b) (if bU d (f.num:Nat) b.length=0 then fK f b r else f) Qd' X' P'
theorem ab0:(Tryz.prog.info? 109).map (fun i=>(i.zero,i.size,i.bytes))=some (some (.slice .none 0 0),1,24):=by kernel_rfl
theorem aeb {w w':World} {g gd:Nat} {Qd X P Qd' X' P':Nat→Prop} {d d':ak} {f f':FS} {b r:List UInt8} {k:Int} (h:Wr w w' g gd Qd X P d' f' Qd' X' P') (hk:bU d (f.num:Nat) b.length=k) (hd:bX d (f.num:Nat) b=d') (hf:f'=if k=0 then fK f b r else f) :
  vV w g gd Qd X P d f b r (.returned (.int .i64 k)) w':=by
 subst hk hd hf
 exact ⟨rfl,Qd',X',P',h⟩
theorem amg {w2 w3 w4 w5 w7 w8:World} {X2 P:Nat→Prop} {g:Nat} {f:FS} {b r:List UInt8} {A3 A7 Ar Aa Ac:Option Addr} {c3 c7 cr ca nc cc N:Nat}
  (h2:dO w2 X2 P g f) (xlt:∀ q,X2 q→q<w2.heap.size) (m1:Whole w2 g 134 (cellsS f Ar cr Aa ca)) (m2:dY w2 X2 Ar f.recs.length cr f.recs) (m4:∀ k,aB Ar=some k→P k) (m5:∀ k,aB Aa=some k→P k)
  (o3:Own 0 w3 A3 N c3 (f.all++b)) (hN:N=(f.all++b).length) (g3:w2.grownBy w3 (aB Aa)) (a3:∀ k,aB A3=some k→aB Aa=some k∨k=w2.heap.size)
  (e4:w4=w3.setCell ⟨g,3,none⟩ (.slice A3 N c3)) (o5:Own w4.heap.size w5 Ac nc cc r) (b5:Below w4.heap.size w4 w5) {w6:World} (b6:Below w5.heap.size w5 w6)
  (t7:∃ vs,bC 109 w7 A7 (f.recs.length+1) c7 (vs++[.slice Ac nc cc])∧vs.length=f.recs.length∧∀ i (h:i<f.recs.length),∃ A' n' c',vs[i]? = some (.slice A' n' c')∧SlN X2 w2 A' n' c' f.recs[i])
  (g7:w6.grownBy w7 (aB Ar)) (a7:∀ k,aB A7=some k→aB Ar=some k∨w6.heap.size≤k) (e8:w8=w7.setCell ⟨g,2,none⟩ (.slice A7 (f.recs.length+1) c7)) :
  ∃ X' P',dO w8 X' P' g (fK f b r)∧Tn P w2 w8∧(∀ q,P' q→P q∨w2.heap.size≤q)∧(∀ q,X' q→X2 q∨w2.heap.size≤q)∧(∀ q,X2 q→X' q)∧(∀ q,X' q→q<w8.heap.size):=by
 have hpg:=h2.pg
 have hA:aB Aa≠some g:=by
  obtain ⟨Ar',cr',Aa',ca',n1,n2,n3,n4,n5⟩:=h2.mem
  have e:=m1.symm.trans n1
  have:cellsS f Ar cr Aa ca=cellsS f Ar' cr' Aa' ca':=by
   unfold Whole at m1 n1
   rw [m1] at n1
   injection n1 with n1
   injection n1
  unfold cellsS at this
  simp at this
  obtain ⟨⟨q1,q2⟩,q3,q4⟩:=this
  subst q3
  exact pX n3 n1
 have T3:Tn P w2 w3:=(abY g3).sub (fun q hq=>m5 q hq)
 have W3:Whole w3 g 134 (cellsS f Ar cr Aa ca):=(g3.block g m1.lt (fun e=>hA e.symm)).trans m1
 have T4:Tn P w2 w4:=by rw [e4];exact T3.set (.inl hpg) 3 _
 have W4:Whole w4 g 134 ((cellsS f Ar cr Aa ca).setIfInBounds 3 (.slice A3 N c3)):=by rw [e4];exact W3.store 3 _
 have O4:Own 0 w4 A3 N c3 (f.all++b):=by
  rw [e4]
  exact o3.stands (fun k hk=>Below.heap_setCell w3 ⟨g,3,none⟩ _ k (by rintro rfl;exact pX o3 W3 hk))
 have T5:Tn P w2 w5:=T4.iQ b5
 have T6:Tn P w2 w6:=T5.iQ b6
 have W6:=(W4.below b5 W4.lt).below b6 (W4.below b5 W4.lt).lt
 have O6:=(O4.later b5).later b6
 have hAr6:aB Ar≠some g:=by
  obtain ⟨vs,hv,_⟩:=m2
  exact uR hv m1
 have T7:Tn P w2 w7:=T6.grown g7 (fun j hj => .inl (m4 j hj))
 have W7:=(g7.block g W6.lt (fun e=>hAr6 e.symm)).trans W6
 have hA3r:∀ k,aB A3=some k→aB Ar≠some k:=by
  intro k hk hk2
  obtain ⟨vs,hv,_⟩:=m2
  obtain ⟨cur,h1⟩:=jG hv hk2
  rcases a3 k hk with h3 | h3
  ·obtain ⟨Ar',cr',Aa',ca',n1,n2,n3,n4,n5⟩:=h2.mem
   have:cellsS f Ar cr Aa ca=cellsS f Ar' cr' Aa' ca':=by
    have n1':=n1
    have m1':=m1
    unfold Whole at m1' n1'
    rw [m1'] at n1'
    injection n1' with n1'
    injection n1'
   unfold cellsS at this
   simp at this
   obtain ⟨⟨q1,q2⟩,q3,q4⟩:=this
   subst q3
   exact adf hv n3 hk2 h3
  ·have:=h1.lt;omega
 have O7:Own 0 w7 A3 N c3 (f.all++b):=O6.stands (fun k hk=>g7.block k (O6.dB k hk) (Ne.symm (hA3r k hk)))
 have T8:Tn P w2 w8:=by rw [e8];exact T7.set (.inl hpg) 2 _
 obtain ⟨vs,t7,hvl,hve⟩:=t7
 have hA7:aB A7≠some g:=uR t7 W7
 have R8:bC 109 w8 A7 (f.recs.length+1) c7 (vs++[.slice Ac nc cc]):=by
  rw [e8]
  exact t7.stands (fun k hk=>Below.heap_setCell w7 ⟨g,2,none⟩ _ k (by rintro rfl;exact hA7 hk))
 have O8:Own 0 w8 A3 N c3 (f.all++b):=by
  rw [e8]
  exact O7.stands (fun k hk=>Below.heap_setCell w7 ⟨g,2,none⟩ _ k (by rintro rfl;exact pX O7 W7 hk))
 have W8:Whole w8 g 134 (cellsS (fK f b r) A7 c7 A3 c3):=by
  rw [e8]
  have h1:=Whole.store W7 2 (.slice A7 (f.recs.length+1) c7)
  have e:((cellsS f Ar cr Aa ca).setIfInBounds 3 (.slice A3 N c3)).setIfInBounds 2 (.slice A7 (f.recs.length+1) c7)=cellsS (fK f b r) A7 c7 A3 c3:=by
   unfold cellsS fK
   simp [hN]
  rw [e] at h1
  exact h1
 have s2:w2.heap.size≤w4.heap.size:=T4.size
 have s45:=b5.size
 have s56:=b6.size
 have s67:w6.heap.size≤w7.heap.size:=g7.size
 have s78:w8.heap.size=w7.heap.size:=by rw [e8];simp
 have hc4:∀ k,aB Ac=some k→w4.heap.size≤k∧k<w5.heap.size:=fun k hk=>World.ownsRow.lt o5 k (by rw [fT];exact hk)
 have h3lt:∀ k,aB A3=some k→k<w4.heap.size:=O4.dB
 refine ⟨(fun q=>X2 q∨aB A3=some q∨aB A7=some q),(fun q=>P q∨aB A3=some q∨aB A7=some q),⟨.inl hpg,?_,?_,A7,c7,A3,c3,W8,?_,?_,fun k hk => .inr (.inr hk),fun k hk => .inr (.inl hk)⟩,T8,?_,?_,fun q hq => .inl hq,?_⟩
 ·rintro q (hq | hq | hq)
  ·exact Nat.lt_of_lt_of_le (h2.plt q hq) T8.size
  ·exact O8.dB q hq
  ·exact R8.dB q hq
 ·rintro q (hq | hq | hq)
  ·exact .inl (h2.px q hq)
  ·exact .inr (.inl hq)
  ·exact .inr (.inr hq)
 ·show dY w8 _ A7 (f.recs++[r]).length c7 (f.recs++[r])
  rw [List.length_append,List.length_singleton]
  refine dY.snoc R8 hvl (fun i hi=>?_) ?_
  ·obtain ⟨A',n',c',e,h4⟩:=hve i hi
   refine ⟨A',n',c',e,(h4.more ?_).tn T8 (fun q hq => .inl (.inl (h2.px q hq)))⟩
   rintro q (hq | hq | hq)
   ·exact .inl hq
   ·rcases a3 q hq with h5 | h5
    ·exact .inl (h2.px q (m5 q h5))
    ·right;omega
   ·rcases a7 q hq with h5 | h5
    ·exact .inl (h2.px q (m4 q h5))
    ·right;omega
  ·have u8:Tn P w5 w8:=by
    have u6:Tn P w5 w6:=Tn.of_below b6
    have u7:Tn P w5 w7:=u6.grown g7 (fun j hj => .inl (m4 j hj))
    rw [e8]
    exact u7.set (.inl hpg) 2 _
   have hs8:Sl w8 Ac nc cc r:=Own.sl o5 |>.tn u8 (fun a e hne hq=>by
    have h5:=hc4 a.block (by rw [e];rfl)
    have h6:=h2.plt _ hq
    omega)
   refine ⟨hs8,?_⟩
   ·intro a e hne hq
    have h5:=hc4 a.block (by rw [e];rfl)
    rcases hq with hq | hq | hq
    ·have:=xlt _ hq;omega
    ·have:=h3lt _ hq;omega
    ·rcases a7 _ hq with h6 | h6
     ·have:=h2.plt _ (m4 _ h6);omega
     ·omega
 ·show Own 0 w8 A3 (f.all++b).length c3 (f.all++b)
  rw [← hN];exact O8
 ·rintro q (hq | hq | hq)
  ·exact .inl hq
  ·rcases a3 q hq with h5 | h5
   ·exact .inl (m5 q h5)
   ·right;omega
  ·rcases a7 q hq with h5 | h5
   ·exact .inl (m4 q h5)
   ·right;omega
 ·rintro q (hq | hq | hq)
  ·exact .inl hq
  ·rcases a3 q hq with h5 | h5
   ·exact .inl (h2.px q (m5 q h5))
   ·right;omega
  ·rcases a7 q hq with h5 | h5
   ·exact .inl (h2.px q (m4 q h5))
   ·right;omega
 ·rintro q (hq | hq | hq)
  ·exact Nat.lt_of_lt_of_le (xlt q hq) T8.size
  ·exact O8.dB q hq
  ·exact R8.dB q hq
end Wl
end Go.Proofs.YtpcmlopbkehffaaGreat
namespace Go.Proofs.YtpcmlopbkehffaaGreat
open Go.RowKit Fm Dsk
namespace Wl
theorem bC.below {e:TypeId} {w w':World} {A:Option Addr} {n c:Nat} {vs:List Value} (h:bC e w A n c vs) (hb:Below w.heap.size w w'):bC e w' A n c vs:=h.stands (fun k hk=>hb.block k (h.dB k hk))
set_option maxRecDepth 20000 in
set_option maxHeartbeats 8000000 in
theorem zW (X P:Nat→Prop) (g gd:Nat) (Qd:Nat→Prop) (d:ak) (f:FS) (Ah:Option Addr) (nh ch:Nat) (lh:List UInt8) (Ac:Option Addr) (nc cc:Nat) (r:List UInt8) (w:World)
  (h:dO w X P g f) (hd:Dk w gd Qd d) (hx:∀ q,Qd q→X q) (hxl:∀ q,X q→q<w.heap.size) (hap:∀ q,P q→¬ Qd q) (hh:Sl w Ah nh ch lh) (hr:SlN X w Ac nc cc r) (hnc:nc≤8192) (hnh:nh≤1000000) (ha:f.all.length≤1000000000) (hrs:f.recs.length≤1000000000) :
  Calls Tryz.prog 104 #[.pointer (some ⟨g,0,none⟩),.pointer (some ⟨gd,0,none⟩),.slice Ah nh ch,.slice Ac nc cc] w (vV w g gd Qd X P d f (lh++framed r) r):=by
 have HP:=aj (ac8 Ah Ac nh ch nc cc lh r w hh hr.1 hnc (by omega))
 have HLB:=aj (show (lh++framed r).length=nh+4+nc+4 by rw [List.length_append,nO,hh.len,hr.1.len];omega)
 have HF:=aj h
 have HD:=aj hd
 have HR:=aj hr
 have HXd:=aj hx
 have HXl:=aj hxl
 have HAp:=aj hap
 generalize lh++framed r=b at *
 clear h hd hh hr hx hxl hap
 go_enter Tryz.func104,Tryz.ntmps104
 go_wp2_with fail
 (with_reducible refine Calls.mono HP.out ?_)
 rintro e w1 ⟨A1,c1,rfl,ho1,hb1⟩
 have HB1:=aj hb1
 have HO1:=aj ho1
 have HF1:=aj (HF.out.below hb1)
 have HD1:=aj (HD.out.below hb1)
 have HR1:=aj (HR.out.tn (Q:=fun _=>False) (Tn.of_below hb1) (fun _ e=>e.elim))
 have hsz1:=hb1.size
 clear hb1 ho1
 obtain ⟨Ar,cr,Aa,ca,m1,m2,m3,m4,m5⟩:=HF1.out.mem
 obtain ⟨c0,_,_,_,_⟩:=jH m1
 have hO1n:∀ a,A1=some a→w.heap.size≤a.block∧a.block<w1.heap.size:=fun a e=>World.ownsRow.lt HO1.out a.block (by rw [fT,e];rfl)
 have HO1n:=aj hO1n
 have HA:=aj (qK (f.num:Nat) A1 (nh+4+nc+4) c1 b gd Qd d w1 HD1.out HO1.out.sl (fun a e _ hq=>by
  have h1:=HO1n.out a e
  have h2:=HD.out.qlt a.block hq
  omega) (by omega))
 clear m1 m2 m3 m4 m5 hO1n
 go_wp2_with fail
 (with_reducible refine Calls.mono HA.out ?_)
 rintro e w2 ⟨rfl,Qd2,hd2,ht2,hq2⟩
 have HD2:=aj hd2
 have HT2:=aj ht2
 have HQ2:=aj hq2
 have hX2:∀ q,(X q∨Qd2 q)→X q∨w1.heap.size≤q:=fun q hq=>by
  rcases hq with hq | hq
  ·exact .inl hq
  ·rcases hq2 q hq with h1 | h1
   ·exact .inl (HXd.out q h1)
   ·exact .inr h1
 have HF2:=aj ((HF1.out.more hX2 (fun q hq => .inl (HF.out.px q hq))).tn ht2 HAp.out (fun q hq => .inl (.inl (HXd.out q hq))))
 have HR2:=aj ((HR1.out.more hX2).tn ht2 (fun q hq => .inl (.inl (HXd.out q hq))))
 have HX2:=aj hX2
 have HXl2:=aj (show ∀ q,(X q∨Qd2 q)→q<w2.heap.size from fun q hq=>by
  rcases hq with hq | hq
  ·have:=HXl.out q hq;have:=ht2.size;omega
  ·exact hd2.qlt q hq)
 have HO2:=aj (HO1.out.sl.tn ht2 (fun a e _ hq=>by
  have h1:=HO1n.out a e
  have h2:=HD.out.qlt a.block hq
  omega))
 have hsz2:=ht2.size
 have HT02:=aj (show Tn (fun q=>P q∨Qd q) w w2 from ((Tn.of_below HB1.out).trans ht2 (fun q hq => .inl hq)).sub (fun q hq => .inr hq))
 have HPq:=aj (show ∀ q,P q→¬ Qd2 q from fun q hq hq3=>by
  rcases hq2 q hq3 with h1 | h1
  ·exact HAp.out q hq h1
  ·have:=HF.out.plt q hq;omega)
 clear hd2 ht2 hq2 c0 hX2
 obtain ⟨k,hk⟩:∃ k,bU d (f.num:Nat) b.length=k:=⟨_,rfl⟩
 obtain ⟨d',hd'⟩:∃ d',bX d (f.num:Nat) b=d':=⟨_,rfl⟩
 have HKD:=aj (And.intro hk hd')
 rw [hk]
 rw [hd'] at HD2
 clear hk hd'
 by_cases hk0:k=0
 ·subst hk0
  obtain ⟨Ar,cr,Aa,ca,m1,m2,m3,m4,m5⟩:=HF2.out.mem
  obtain ⟨c0,c1',c2,c3,c4⟩:=jH m1
  have M1:=aj m1
  have M2:=aj m2
  have M3:=aj m3
  have M45:=aj (And.intro m4 m5)
  have hfz3:=m1.free 3
  have hle:=m3.sl.le
  have HHole:=aj (show ∀ w3 A3 N c3,Own 0 w3 A3 N c3 (f.all++b)→w2.grownBy w3 (aB Aa)→w3.cell? ⟨g,3,none⟩=some (.slice Aa f.all.length ca)∧w3.frozen? ⟨g,3,none⟩=false from fun w3 A3 N c3 ho hg=>by
   have W3:=kC M1.out hg (pX M3.out M1.out)
   exact ⟨(jH W3).2.2.2.1,W3.free 3⟩)
  clear m1 m2 m3 m4 m5
  go_wp2_with (first
   | (at_builtin;refine vF rfl (.tmp 35) (.tmp 36) rfl 0 Aa f.all.length ca f.all rfl M3.out A1 (nh+4+nc+4) c1 b rfl HO2.out (f.all.length+(nh+4+nc+4)) (f.all++b) rfl rfl (by omega) (Nat.zero_le _) ?_;intro A3 c3n w3 ho3 hb3 hg3 hat3;have HX3:=aj (And.intro ho3 (And.intro hg3 hat3));have hh3:=HHole.out w3 A3 _ c3n ho3 (by rw [fT] at hg3;exact hg3);have z3:=hh3.1;have y3:=hh3.2;clear ho3 hb3 hg3 hat3)
   | fail)
  obtain ⟨ho3,hg3,hat3⟩:=HX3.out
  rw [fT] at hg3
  rw [fT,fT] at hat3
  obtain ⟨w4,e4⟩:∃ w4:World,w4=w3.setCell ⟨g,3,none⟩ (.slice A3 (f.all.length+(nh+4+nc+4)) c3n):=⟨_,rfl⟩
  have hT4:Tn P w2 w4:=by rw [e4];exact ((abY hg3).sub (fun q hq=>M45.out.2 q hq)).set (.inl HF2.out.pg) 3 _
  have hW3:=kC M1.out hg3 (pX M3.out M1.out)
  have hW4:Whole w4 g 134 ((cellsS f Ar cr Aa ca).setIfInBounds 3 (.slice A3 (f.all.length+(nh+4+nc+4)) c3n)):=by rw [e4];exact hW3.store 3 _
  have HW4:=aj hW4
  have HE4:=aj e4
  have H3:=aj (And.intro ho3 (And.intro hg3 hat3))
  rw [← e4]
  clear e4 ho3 hg3 hat3 HX3 z3 y3 hh3 hW3 HHole
  have q0:w4.cell? ⟨g,2,none⟩=some (.slice Ar f.recs.length cr):=hW4.cell 2 _ (by unfold cellsS;simp)
  have q0d:w4.drew.cell? ⟨g,2,none⟩=some (.slice Ar f.recs.length cr):=q0
  obtain ⟨vs,v1,v2,v3⟩:=M2.out
  have hAr:aB Ar≠some g:=uR v1 M1.out
  have hRow4:bC 109 w4 Ar f.recs.length cr vs:=by
   have h1:bC 109 w3 Ar f.recs.length cr vs:=v1.stands (fun k hk=>H3.out.2.1.block k (v1.dB k hk) (fun e=>adf v1 M3.out hk e.symm))
   rw [HE4.out]
   exact h1.stands (fun k hk=>Below.heap_setCell w3 ⟨g,3,none⟩ _ k (by rintro rfl;exact hAr hk))
  have HRow4:=aj hRow4
  have HV:=aj (And.intro v1 (And.intro v2 v3))
  have hR4:=HR2.out.tn hT4 (fun q hq => .inl (HF2.out.px q hq))
  have HC:=aj (fun (W:World) (hb:Below w4.heap.size w4 W)=>tZ Ac nc cc r W (hR4.1.below hb) (by omega))
  have HT4:=aj hT4
  have Hbd:=aj (Below.drew (Below.refl w4.heap.size w4))
  have hglt:=hW4.lt
  have HZ:=aj (fun (W W7:World) (hb:Below w4.heap.size w4 W) (hg:W.grownBy W7 (aB Ar))=>show W7.cell? ⟨g,2,none⟩=some (.slice Ar f.recs.length cr)∧W7.frozen? ⟨g,2,none⟩=false from by
   have h1:=kC (HW4.out.below hb HW4.out.lt) hg hAr
   exact ⟨h1.cell 2 _ (by unfold cellsS;simp),h1.free 2⟩)
  clear hT4 hW4 v1 v2 v3 hAr hRow4 hR4
  go_region_law (first
   | (go_simp;go_at_call 60;(with_reducible refine Calls.mono (HC.out _ Hbd.out) ?_);rintro e w5 ⟨A5,c5,rfl,ho5,hb5⟩;have H5:=aj (And.intro ho5 (Hbd.out.trans hb5));have q05:w5.cell? ⟨g,2,none⟩=some (.slice Ar f.recs.length cr):=(H5.out.2.cell (p:=⟨g,2,none⟩) hglt).trans q0;have q06:(w5.alloc (.cells #[.slice A5 nc c5] 109)).cell? ⟨g,2,none⟩=some (.slice Ar f.recs.length cr):=((H5.out.2.alloc (Below.size H5.out.2) (.cells #[.slice A5 nc c5] 109)).cell (p:=⟨g,2,none⟩) hglt).trans q0;clear ho5 hb5;dsimp only)
   | (refine alj (e:=109) (by rfl) (.tmp 44) (.tmp 47) 85 (by rfl) _ 24 Tryz.underlying85 ab0 rfl Ar f.recs.length cr vs (by rfl) (HRow4.out.below (H5.out.2.alloc (Below.size H5.out.2) _)) w5.heap.size (.slice A5 nc c5) (by rfl) rfl (at_new _ _ _) (by omega) (by omega) ?_;intro A7 c7 w7 ht7 hg7 ha7;have hz7:=HZ.out _ w7 (H5.out.2.alloc (Below.size H5.out.2) _) hg7;have z7:=hz7.1;have y7:=hz7.2;have H7:=aj (And.intro ht7 (And.intro hg7 ha7));clear ht7 hg7 ha7 hz7)
   | fail)
  all_goals
   go_wp2_with fail
   go_ret
   obtain ⟨X',P',d1,d2,d3,d4,d5,d6⟩:=amg (b:=b) (r:=r) HF2.out HXl2.out M1.out M2.out M45.out.1 M45.out.2 H3.out.1 (by rw [List.length_append,HLB.out]) H3.out.2.1 (fun k hk=>by
    rcases H3.out.2.2 with e | e
    ·rw [e] at hk;exact .inl hk
    ·rw [e] at hk;cases hk;exact .inr rfl) HE4.out H5.out.1 H5.out.2 ((Below.refl _ _).alloc (Nat.le_refl _) (.cells #[.slice A5 nc c5] 109)) ⟨vs,H7.out.1,HV.out.2.1,HV.out.2.2⟩ H7.out.2.1 H7.out.2.2 rfl
   refine aeb (f':=fK f b r) (Qd':=Qd2) (X':=X') (P':=P') ⟨HD2.out.tn d2 (fun q hq hp=>HPq.out q hp hq),d1,HT02.out.trans d2 (fun q hq => .inl (.inl hq)),fun q hq=>?_,fun q hq=>?_,fun q hq hq2=>?_,fun q hq=>?_,fun q hq=>d5 q (.inr hq),fun q hq=>d5 q (.inl hq),d6⟩ HKD.out.1 HKD.out.2 rfl
   ·rcases d3 q hq with h1 | h1
    ·exact .inl h1
    ·right;omega
   ·rcases HQ2.out q hq with h1 | h1
    ·exact .inl h1
    ·right;omega
   ·rcases d3 q hq with h1 | h1
    ·exact HPq.out q h1 hq2
    ·have:=HXl2.out q (.inr hq2);omega
   ·rcases d4 q hq with h1 | h1
    ·rcases HX2.out q h1 with h2 | h2
     ·exact .inl h2
     ·right;omega
    ·right;omega
 ·have h1:¬ k=0:=hk0
  have e1:(k != 0)=true:=by simpa using hk0
  have HK:=aj hk0
  clear hk0 h1
  go_wp2_with fail
  go_ret
  exact aeb (f':=f) (Qd':=Qd2) (X':=fun q=>X q∨Qd2 q) (P':=P) ⟨HD2.out,HF2.out,HT02.out,fun q hq => .inl hq,fun q hq=>by
   rcases HQ2.out q hq with h1 | h1
   ·exact .inl h1
   ·right;omega,HPq.out,fun q hq=>by
   rcases HX2.out q hq with h1 | h1
   ·exact .inl h1
   ·right;omega,fun q hq => .inr hq,fun q hq => .inl hq,HXl2.out⟩ HKD.out.1 HKD.out.2 (by rw [if_neg HK.out])
end Wl
end Go.Proofs.YtpcmlopbkehffaaGreat
