/-
  A slice of slices of bytes: who reads it, who owns it, appending to it.
-/
import Derived.Test.YtpcmlopbkehffaaGreatOGAA
import Derived.Deep.Matrix
import Derived.OpenShut
set_option linter.unusedSimpArgs false
set_option linter.unusedVariables false
namespace Go.Proofs.YtpcmlopbkehffaaGreat
open Go.RowKit
def jM (A:Option Addr) (l:List UInt8) (row:Option Nat):Prop:=l≠[]→∀ a,A=some a→row≠some a.block
theorem jM.none (A:Option Addr) (l:List UInt8):jM A l .none:=fun _ _ _ h=>by cases h
theorem Sl.block {w:World} {n c:Nat} {l:List UInt8} {a:Addr} (h:Sl w (some a) n c l) (hl:l≠[]):a.block<w.heap.size:=by
 obtain ⟨b,off,e,hc⟩:=h.holds.at_ (List.length_pos_iff.2 hl)
 cases e
 exact lt_of_cell hc
theorem Sl.away {w:World} {A:Option Addr} {n c:Nat} {l:List UInt8} (h:Sl w A n c l) (row:Option Nat) (hr:∀ k,row=some k→w.heap.size≤k):jM A l row:=by
 intro hl a ha e
 subst ha
 have:=h.block hl
 have:=hr _ e
 omega
theorem Sl.grown {w w':World} {A:Option Addr} {n c:Nat} {l:List UInt8} (h:Sl w A n c l) {row:Option Nat} (hg:w.grownBy w' row) (ha:jM A l row):Sl w' A n c l:=by
 refine ⟨?_,h.len,h.cap,h.max,h.nil⟩
 intro hne
 obtain ⟨b,off,rfl,hc⟩:=h.holds hne
 refine ⟨b,off,rfl,fun k u hu=>?_⟩
 have h1:=hc k u hu
 have hl:l≠[]:=by rintro rfl;exact hne rfl
 exact hg.cell h1 (fun e=>ha hl _ rfl e.symm)
theorem Own.away {B:Nat} {w:World} {A:Option Addr} {n c:Nat} {l:List UInt8} (h:Own B w A n c l) (row:Option Nat) (hr:∀ k,row=some k→k<B):jM A l row:=by
 intro hl a ha e
 subst ha
 have:=(World.ownsRow.lt h a.block rfl).1
 have:=hr _ e
 omega
def dX (w:World) (row:Option Nat) (vs:List Value) (ls:List (List UInt8)):Prop :=
 vs.length=ls.length∧∀ i (h:i<ls.length),∃ A n c,vs[i]? = some (.slice A n c)∧Sl w A n c ls[i]∧jM A ls[i] row
theorem dX.nil (w:World) (row:Option Nat):dX w row [] []:=⟨rfl,fun i h=>absurd h (Nat.not_lt_zero i)⟩
theorem dX.one {w:World} {row:Option Nat} {A:Option Addr} {n c:Nat} {l:List UInt8} (h:Sl w A n c l) (ha:jM A l row):dX w row [.slice A n c] [l]:=by
 refine ⟨rfl,fun i hi=>?_⟩
 obtain rfl:i=0:=by simpa using hi
 exact ⟨A,n,c,rfl,h,ha⟩
theorem dX.append {w:World} {row:Option Nat} {vs us:List Value} {ls ms:List (List UInt8)} (h:dX w row vs ls) (k:dX w row us ms):dX w row (vs++us) (ls++ms):=by
 refine ⟨by rw [List.length_append,List.length_append,h.1,k.1],fun i hi=>?_⟩
 by_cases hl:i<ls.length
 ·obtain ⟨A,n,c,h1,h2,h3⟩:=h.2 i hl
  refine ⟨A,n,c,by rw [List.getElem?_append_left (by rw [h.1];exact hl)];exact h1,?_,?_⟩
  ·rw [List.getElem_append_left];exact h2
  ·rw [List.getElem_append_left];exact h3
 ·have hi':i-ls.length<ms.length:=by rw [List.length_append] at hi;omega
  obtain ⟨A,n,c,h1,h2,h3⟩:=k.2 _ hi'
  refine ⟨A,n,c,by rw [List.getElem?_append_right (by rw [h.1];omega),h.1];exact h1,?_,?_⟩
  ·rw [List.getElem_append_right (by omega)];exact h2
  ·rw [List.getElem_append_right (by omega)];exact h3
theorem dX.grown {w w':World} {row row':Option Nat} {vs:List Value} {ls:List (List UInt8)} (h:dX w row vs ls) (hg:w.grownBy w' row) (hr:row'=row∨∀ k,row'=some k→w.heap.size≤k):dX w' row' vs ls:=by
 refine ⟨h.1,fun i hi=>?_⟩
 obtain ⟨A,n,c,h1,h2,h3⟩:=h.2 i hi
 refine ⟨A,n,c,h1,h2.grown hg h3,?_⟩
 rcases hr with rfl | hr
 ·exact h3
 ·exact h2.away _ hr
theorem dX.below {w w':World} {row:Option Nat} {vs:List Value} {ls:List (List UInt8)} (h:dX w row vs ls) (hb:Below w.heap.size w w'):dX w' row vs ls :=
 ⟨h.1,fun i hi=>let ⟨A,n,c,h1,h2,h3⟩:=h.2 i hi; ⟨A,n,c,h1,h2.below hb,h3⟩⟩
theorem dX.free {w:World} {row:Option Nat} {vs:List Value} {ls:List (List UInt8)} (h:dX w row vs ls):dX w .none vs ls :=
 ⟨h.1,fun i hi=>let ⟨A,n,c,h1,h2,_⟩:=h.2 i hi; ⟨A,n,c,h1,h2,jM.none _ _⟩⟩
theorem dX.away {w:World} {row row':Option Nat} {vs:List Value} {ls:List (List UInt8)} (h:dX w row vs ls) (hr:∀ k,row'=some k→w.heap.size≤k):dX w row' vs ls :=
 ⟨h.1,fun i hi=>let ⟨A,n,c,h1,h2,_⟩:=h.2 i hi; ⟨A,n,c,h1,h2,h2.away _ hr⟩⟩
theorem dX.take {w:World} {row:Option Nat} {vs:List Value} {ls:List (List UInt8)} (h:dX w row vs ls) (m:Nat):dX w row (vs.take m) (ls.take m):=by
 refine ⟨by rw [List.length_take,List.length_take,h.1],fun i hi=>?_⟩
 rw [List.length_take] at hi
 obtain ⟨A,n,c,h1,h2,h3⟩:=h.2 i (by omega)
 refine ⟨A,n,c,by rw [List.getElem?_take,if_pos (by omega)];exact h1,?_,?_⟩
 ·rw [List.getElem_take];exact h2
 ·rw [List.getElem_take];exact h3
theorem dX.one_cell {w:World} {row:Option Nat} {vs:List Value} {ls:List (List UInt8)} (h:dX w row vs ls):∀ u∈vs,u.oneCell'=true:=by
 intro u hu
 obtain ⟨i,hi,rfl⟩:=List.getElem_of_mem hu
 obtain ⟨A,n,c,h1,_⟩:=h.2 i (by rw [← h.1];exact hi)
 rw [List.getElem?_eq_getElem hi] at h1
 rw [Option.some.inj h1]
 rfl
structure jk (row:Option Nat) (w:World) (A:Option Addr) (n c:Nat) (ls:List (List UInt8)):Prop where
 elems:∃ vs,Holds w A vs∧dX w row vs ls
 len:ls.length=n
 cap:n≤c
 max:c≤9223372036854775807
 nil:A = .none→c=0
abbrev Sls:=jk .none
theorem jk.free {row:Option Nat} {w:World} {A:Option Addr} {n c:Nat} {ls:List (List UInt8)} (h:jk row w A n c ls):Sls w A n c ls :=
 ⟨let ⟨vs,h1,h2⟩:=h.elems; ⟨vs,h1,h2.free⟩,h.len,h.cap,h.max,h.nil⟩
theorem jk.below {row:Option Nat} {w w':World} {A:Option Addr} {n c:Nat} {ls:List (List UInt8)} (h:jk row w A n c ls) (hb:Below w.heap.size w w'):jk row w' A n c ls :=
 ⟨let ⟨vs,h1,h2⟩:=h.elems; ⟨vs,h1.below hb,h2.below hb⟩,h.len,h.cap,h.max,h.nil⟩
theorem jk.away {row row':Option Nat} {w:World} {A:Option Addr} {n c:Nat} {ls:List (List UInt8)} (h:jk row w A n c ls) (hr:∀ k,row'=some k→w.heap.size≤k):jk row' w A n c ls :=
 ⟨let ⟨vs,h1,h2⟩:=h.elems; ⟨vs,h1,h2.away hr⟩,h.len,h.cap,h.max,h.nil⟩
theorem jk.none (row:Option Nat) (w:World):jk row w .none 0 0 []:=⟨⟨[],Holds.nil _ _,dX.nil _ _⟩,rfl,Nat.le_refl _,by omega,fun _=>rfl⟩
theorem jk.at_ {row:Option Nat} {w:World} {A:Option Addr} {n c:Nat} {ls:List (List UInt8)} (h:jk row w A n c ls) {k:Nat} (hk:k<ls.length) :
  ∃ b off A' n' c',A=some ⟨b,off,.none⟩∧w.cell? ⟨b,off+k,.none⟩=some (.slice A' n' c')∧Sl w A' n' c' ls[k]∧jM A' ls[k] row:=by
 obtain ⟨vs,h1,h2⟩:=h.elems
 obtain ⟨A',n',c',h3,h4,h5⟩:=h2.2 k hk
 obtain ⟨b,off,rfl,hc⟩:=h1 (by rintro rfl;simp at h3)
 exact ⟨b,off,A',n',c',rfl,hc k _ h3,h4,h5⟩
def gU (B:Nat) (w:World) (A:Option Addr) (n c:Nat) (ls:List (List UInt8)):Prop :=
 ∃ vs,w.ownsRow B 109 1 (.slice A n c) n vs∧dX w (Value.slice A n c).ownBlock vs ls
theorem gU.none (B:Nat) (w:World):gU B w .none 0 0 []:=⟨[],World.ownsRow_nil w B _ _,dX.nil _ _⟩
theorem gU.sls {B:Nat} {w:World} {A:Option Addr} {n c:Nat} {ls:List (List UInt8)} (h:gU B w A n c ls):Sls w A n c ls:=by
 obtain ⟨vs,ho,he⟩:=h
 have hh:=oM ho
 obtain ⟨hx,⟨e,rfl⟩ | ⟨g,cap,cur,e,hg,_,hnc,hcm,hs,hc⟩⟩:=ho
 ·injection e with a b c
  subst a
  subst c
  exact ⟨⟨vs,hh,he.free⟩,by rw [← he.1,hx],Nat.le_refl _,by omega,fun _=>rfl⟩
 ·injection e with a b c
  subst a c
  unfold maxLen at hcm
  exact ⟨⟨vs,hh,he.free⟩,by rw [← he.1,hx];omega,hnc,by omega,fun e=>by cases e⟩
theorem gU.from_ {B:Nat} {w:World} {A:Option Addr} {n c:Nat} {ls:List (List UInt8)} (h:gU B w A n c ls):∀ k,(Value.slice A n c).ownBlock=some k→B≤k∧k<w.heap.size:=by
 obtain ⟨vs,ho,_⟩:=h
 exact World.ownsRow.lt ho
theorem gU.later {B:Nat} {w w':World} {A:Option Addr} {n c:Nat} {ls:List (List UInt8)} (h:gU B w A n c ls) (hb:Below w.heap.size w w'):gU B w' A n c ls:=by
 obtain ⟨vs,⟨hx,ho⟩,he⟩:=h
 refine ⟨vs,⟨hx,?_⟩,he.below hb⟩
 rcases ho with h | ⟨g,cap,cur,e,hg,hh,r⟩
 ·exact .inl h
 ·refine .inr ⟨g,cap,cur,e,hg,?_,r⟩
  have hlt:g<w.heap.size:=(Array.getElem?_eq_some_iff.1 hh).1
  rw [← hh]
  exact hb.block g hlt
theorem ab1:(Tryz.prog.info? 109).map (fun i=>(i.zero,i.size,i.bytes))=some (some (.slice .none 0 0),1,24):=by kernel_rfl
theorem ah5 (w:World) (v:Value) (T:TypeId):Holds (w.alloc (.cells #[v] T)) (some ⟨w.heap.size,0,.none⟩) [v]:=by
 intro _
 refine ⟨w.heap.size,0,rfl,fun k u hu=>?_⟩
 rw [World.cell?_alloc_mark,Nat.zero_add,← hu,← Array.getElem?_toList]
theorem aea {w:World} {ops:Array Oper} {rest:List Oper} {o:Oper} {a:Act} {Q:Exit→Act→World→Prop} (hgd:Region.wanted o (yielded ops a.tmps)=true) (s x:Operand)
  (ho:o.op = .call {callee := .builtin .append,args:=#[s,x],argTypes:=#[85,85] })
  (B:Nat) (A0:Option Addr) (n0 c0:Nat) (l0:List (List UInt8)) (hs:a.eval s = .slice A0 n0 c0) (hown:gU B w A0 n0 c0 l0)
  (A:Option Addr) (m c:Nat) (l:List (List UInt8)) (hx:a.eval x = .slice A m c) (hl:jk (Value.slice A0 n0 c0).ownBlock w A m c l)
  (N:Nat) (ys:List (List UInt8)) (hN:n0+m=N) (hys:l0++l=ys) (hroom:N≤5864062014805) (hB:B≤w.heap.size)
  (h:∀ A' c' w',gU B w' A' N c' ys→Below B w w'→w.grownBy w' (Value.slice A0 n0 c0).ownBlock→wpList Tryz.prog ops Q rest (a.put o.dst (.slice A' N c')) w') :
  wpList Tryz.prog ops Q (o::rest) a w:=by
 subst hys
 obtain ⟨i0,hi0,hz0,hz1,hz2⟩:=info_parts ab1
 obtain ⟨vs,hov,hev⟩:=hown
 obtain ⟨us,hus,heu⟩:=hl.elems
 have hlen:us.length=m:=by rw [heu.1,hl.len]
 refine sV w hgd s x 85 ho B 109 i0 _ 1 24 Tryz.underlying85 hi0 hz0 hz1 hz2 rfl (by omega) (.slice A0 n0 c0) n0 vs hs hov A m c us hx
  (by omega) hus hl.nil heu.one_cell N (vs++us) hN rfl (by unfold maxLen;omega) (by omega) hB ?_
 intro A' c' w' ho' hg hat
 refine h A' c' w' ⟨vs++us,ho',?_⟩ ((Below.refl B w).grown hg hB (jY hov)) hg
 refine (hev.append heu).grown hg ?_
 rcases hat with e | e
 ·exact .inl e
 ·exact .inr fun k hk=>by rw [e] at hk;cases hk;exact Nat.le_refl _
theorem acW {w:World} {row:Option Nat} {A:Option Addr} {n c:Nat} {l:List UInt8} (T:TypeId) (h:Sl w A n c l) (ha:jM A l row) :
  jk row (w.alloc (.cells #[.slice A n c] T)) (some ⟨w.heap.size,0,.none⟩) 1 1 [l] :=
 ⟨⟨_,ah5 w _ T,dX.one (h.below ((Below.refl _ _).alloc (Nat.le_refl _) _)) ha⟩,rfl,Nat.le_refl _,by omega,fun e=>by cases e⟩
def SlsV (w:World) (v:Value):Prop:=∃ A n c ls,v = .slice A n c∧Sls w A n c ls
end Go.Proofs.YtpcmlopbkehffaaGreat
