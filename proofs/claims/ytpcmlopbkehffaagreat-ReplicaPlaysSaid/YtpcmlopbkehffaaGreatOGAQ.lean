/-
  What Mix answers; that no two numbers have one mix.
-/
import Derived.Test.YtpcmlopbkehffaaGreatOGAA
import Derived.Laws.BitsAllLaws
import Derived.Laws.BitsLemmas
import Derived.Laws.Shifts
import Derived.Deep.RegionHeld3
import Derived.Lib.OwnBridge
import Derived.Shelf.SlSortCmp.Insertion
set_option linter.unusedSimpArgs false
set_option linter.unusedVariables false
namespace Go.Proofs.YtpcmlopbkehffaaGreat
open Go.RowKit
namespace Rg
def mixI (n:Int):Int :=
 bits .xor .u64 (IntKind.u64.wrap (bits .xor .u64 (IntKind.u64.wrap (bits .xor .u64 (IntKind.u64.wrap (n+11400714819323198485)) (IntKind.u64.wrap (n+11400714819323198485) / 1073741824)*13787848793156543929)) (IntKind.u64.wrap (bits .xor .u64 (IntKind.u64.wrap (n+11400714819323198485)) (IntKind.u64.wrap (n+11400714819323198485) / 1073741824)*13787848793156543929) / 134217728)*10723151780598845931))
  (IntKind.u64.wrap (bits .xor .u64 (IntKind.u64.wrap (bits .xor .u64 (IntKind.u64.wrap (n+11400714819323198485)) (IntKind.u64.wrap (n+11400714819323198485) / 1073741824)*13787848793156543929)) (IntKind.u64.wrap (bits .xor .u64 (IntKind.u64.wrap (n+11400714819323198485)) (IntKind.u64.wrap (n+11400714819323198485) / 1073741824)*13787848793156543929) / 134217728)*10723151780598845931) / 2147483648)
def fold (k x:Nat):Nat:=x ^^^ x / 2 ^ k
def acz (n:Nat):Nat:=fold 31 (fold 27 (fold 30 ((n+11400714819323198485) % 18446744073709551616)*13787848793156543929 % 18446744073709551616)*10723151780598845931 % 18446744073709551616)
def mixG (K1 K2 K3 z1 z2 z3 n:Int):Int :=
 let a:=IntKind.u64.wrap (n+K1)
 let b:=IntKind.u64.wrap (bits .xor .u64 a (a / z1)*K2)
 let c:=IntKind.u64.wrap (bits .xor .u64 b (b / z2)*K3)
 bits .xor .u64 c (c / z3)
def atN (id i:Nat):Nat:=acz ((acz id+i) % 18446744073709551616)
end Rg
end Go.Proofs.YtpcmlopbkehffaaGreat
namespace Go.Proofs.YtpcmlopbkehffaaGreat
open Go.RowKit
def RetV (w:World) (v:Value) (e:Ending) (w':World):Prop:=e = .returned v∧w=w'
def bT (B:Nat) (w:World) (v:Value) (e:Ending) (w':World):Prop:=e = .returned v∧Below B w w'
theorem bH {B:Nat} {w w':World} {v v':Value} (h:v=v') (hb:Below B w w'):bT B w v (.returned v') w':=⟨by rw [h],hb⟩
structure Enc (α:Type) where
 cf:α→List Value
 K : Nat
 len:∀ x,(cf x).length=K
 pos:0<K
 one:∀ x,∀ u∈cf x,u.oneCell'=true
namespace Enc
variable {α:Type} (E:Enc α)
def all (ss:List α):List Value:=ss.flatMap E.cf
theorem pq (ss:List α):(E.all ss).length=ss.length*E.K:=by
 induction ss with
 | nil=>simp [all]
 | cons s ss ih =>
   rw [all,List.flatMap_cons,List.length_append,E.len,show (ss.flatMap E.cf).length=ss.length*E.K from ih,List.length_cons,Nat.add_mul]
   omega
theorem all_append (a b:List α):E.all (a++b)=E.all a++E.all b:=by simp [all]
theorem aaO (ss:List α):∀ u∈E.all ss,u.oneCell'=true:=by
 intro u hu
 obtain ⟨s,_,h⟩:=List.mem_flatMap.1 hu
 exact E.one s u h
theorem vZ:∀ (ss:List α) {k:Nat} (h:k<ss.length) (j:Nat),j<E.K→(E.all ss)[k*E.K+j]? = (E.cf ss[k])[j]?
 | s :: ss,0,_,j,hj=>by
   rw [all,List.flatMap_cons,Nat.zero_mul,Nat.zero_add,List.getElem?_append_left (by rw [E.len];exact hj)]
   rfl
 | s :: ss,k+1,h,j,hj=>by
   have e:(k+1)*E.K+j-E.K=k*E.K+j:=by rw [Nat.add_mul];omega
   rw [all,List.flatMap_cons,List.getElem?_append_right (by rw [E.len,Nat.add_mul];omega),E.len,e]
   exact vZ ss (by simpa using h) j hj
theorem aez {ss:List α} (h:ss≠[]):E.all ss≠[]:=by
 intro e
 have h1:=E.pq ss
 have h2:=List.length_pos_iff.2 h
 have h3:=Nat.mul_pos h2 E.pos
 rw [e,List.length_nil] at h1
 omega
theorem tQ (ss:List α) (m:Nat):(E.all ss).take (m*E.K)=E.all (ss.take m):=by
 induction ss generalizing m with
 | nil=>simp [all]
 | cons s ss ih =>
   rcases m with _ | m
   ·simp [all]
   ·have ih':List.take (m*E.K) (List.flatMap E.cf ss)=List.flatMap E.cf (ss.take m):=ih m
    have e:(m+1)*E.K-E.K=m*E.K:=by rw [Nat.add_mul];omega
    rw [all,List.flatMap_cons,List.take_succ_cons,all,List.flatMap_cons,List.take_append,List.take_of_length_le (by rw [E.len,Nat.add_mul];omega),E.len,e,ih']
theorem aey (ss:List α) (m:Nat):(E.all ss).drop (m*E.K)=E.all (ss.drop m):=by
 induction ss generalizing m with
 | nil=>simp [all]
 | cons s ss ih =>
   rcases m with _ | m
   ·simp [all]
   ·have ih':List.drop (m*E.K) (List.flatMap E.cf ss)=List.flatMap E.cf (ss.drop m):=ih m
    have e:(m+1)*E.K-E.K=m*E.K:=by rw [Nat.add_mul];omega
    rw [all,List.flatMap_cons,List.drop_succ_cons,all,List.drop_append,List.drop_eq_nil_of_le (by rw [E.len,Nat.add_mul];omega),E.len,e,ih',List.nil_append]
structure Row (w:World) (A:Option Addr) (n c:Nat) (ss:List α):Prop where
 holds:Holds w A (E.all ss)
 len:ss.length=n
 cap:n≤c
 max:c≤9223372036854775807
 nil:A = .none→c=0
variable {E}
theorem Row.none (w:World):E.Row w .none 0 0 []:=⟨Holds.nil _ _,rfl,Nat.le_refl _,by omega,fun _=>rfl⟩
theorem Row.keep {w w':World} {A:Option Addr} {n c:Nat} {ss:List α} (h:E.Row w A n c ss) (hk:∀ p:Addr,p.block<w.heap.size→w'.cell? p=w.cell? p):E.Row w' A n c ss :=
 ⟨h.holds.keep hk,h.len,h.cap,h.max,h.nil⟩
theorem Row.below {w w':World} {A:Option Addr} {n c:Nat} {ss:List α} (h:E.Row w A n c ss) (hb:Below w.heap.size w w'):E.Row w' A n c ss:=h.keep fun _ hp=>hb.cell hp
theorem Row.at_ {w:World} {A:Option Addr} {n c:Nat} {ss:List α} (h:E.Row w A n c ss) {k:Nat} (hk:k<ss.length) :
  ∃ b off,A=some ⟨b,off,.none⟩∧b<w.heap.size∧∀ j u,(E.cf ss[k])[j]? = some u→w.cell? ⟨b,off+k*E.K+j,.none⟩=some u:=by
 obtain ⟨b,off,e,hc⟩:=h.holds (E.aez (by rintro rfl;simp at hk))
 have key:∀ j u,(E.cf ss[k])[j]? = some u→w.cell? ⟨b,off+k*E.K+j,.none⟩=some u:=by
  intro j u hu
  have hj:j<E.K:=by
   have:=(List.getElem?_eq_some_iff.1 hu).1
   rwa [E.len] at this
  rw [Nat.add_assoc]
  exact hc _ u (by rw [E.vZ ss hk j hj];exact hu)
 refine ⟨b,off,e,?_,key⟩
 have h0:0<(E.cf ss[k]).length:=by rw [E.len];exact E.pos
 exact lt_of_cell (key 0 _ (List.getElem?_eq_getElem h0))
theorem Row.upto {w:World} {A:Option Addr} {n c:Nat} {ss:List α} (h:E.Row w A n c ss) (m:Nat) (hm:m≤n):E.Row w A m c (ss.take m) :=
 ⟨by rw [← E.tQ];exact h.holds.take _,by rw [List.length_take,h.len];omega,by have:=h.cap;omega,h.max,h.nil⟩
def nL (A:Option Addr) (c m K:Nat):Option Addr:=if c=m then A else A.map fun x=>x.add (m*K)
theorem Row.from_ {w:World} {A:Option Addr} {n c:Nat} {ss:List α} (h:E.Row w A n c ss) (m:Nat) (hm:m≤n):E.Row w (nL A c m E.K) (n-m) (c-m) (ss.drop m):=by
 have hcap:=h.cap
 have hmax:=h.max
 have hlen:=h.len
 refine ⟨?_,by rw [List.length_drop,h.len],by omega,by omega,?_⟩
 ·unfold nL
  by_cases e:c=m
  ·rw [if_pos e,List.drop_eq_nil_of_le (by omega)];exact Holds.nil _ _
  ·rw [if_neg e,← E.aey];exact h.holds.drop _
 ·intro e
  unfold nL at e
  split at e
  ·omega
  ·rcases A with _ | a
   ·have:=h.nil rfl;omega
   ·cases e
variable (E)
def Own (e:TypeId) (B:Nat) (w:World) (A:Option Addr) (n c:Nat) (ss:List α):Prop:=w.ownsRow B e E.K (.slice A n c) n (E.all ss)
variable {E} {e:TypeId}
theorem Own.none (B:Nat) (w:World):E.Own e B w .none 0 0 []:=World.ownsRow_nil w B _ _
theorem Own.len {B:Nat} {w:World} {A:Option Addr} {n c:Nat} {ss:List α} (h:E.Own e B w A n c ss):ss.length=n:=by
 have:=h.1
 rw [pq] at this
 exact Nat.eq_of_mul_eq_mul_right E.pos this
theorem Own.row {B:Nat} {w:World} {A:Option Addr} {n c:Nat} {ss:List α} (h:E.Own e B w A n c ss):E.Row w A n c ss:=by
 have hh:=oM h
 have hl:=h.len
 obtain ⟨hx,⟨e',_⟩ | ⟨g,cap,cur,e',hg,_,hnc,hcm,hs,hc⟩⟩:=h
 ·injection e' with a b c
  subst a
  subst c
  exact ⟨hh,hl,by omega,by omega,fun _=>rfl⟩
 ·injection e' with a b c
  subst a c
  unfold maxLen at hcm
  exact ⟨hh,hl,hnc,by omega,fun e=>by cases e⟩
theorem Own.from_ {B:Nat} {w:World} {A:Option Addr} {n c:Nat} {ss:List α} (h:E.Own e B w A n c ss):∀ k,(Value.slice A n c).ownBlock=some k→B≤k∧k<w.heap.size:=World.ownsRow.lt h
theorem Own.later {B:Nat} {w w':World} {A:Option Addr} {n c:Nat} {ss:List α} (h:E.Own e B w A n c ss) (hb:Below w.heap.size w w'):E.Own e B w' A n c ss:=by
 obtain ⟨hx,h | ⟨g,cap,cur,e',hg,hh,r⟩⟩:=h
 ·exact ⟨hx,.inl h⟩
 ·refine ⟨hx,.inr ⟨g,cap,cur,e',hg,?_,r⟩⟩
  have hlt:g<w.heap.size:=(Array.getElem?_eq_some_iff.1 hh).1
  rw [← hh]
  exact hb.block g hlt
theorem Own.mono {B B':Nat} {w:World} {A:Option Addr} {n c:Nat} {ss:List α} (h:E.Own e B w A n c ss) (hB:B'≤B):E.Own e B' w A n c ss:=by
 obtain ⟨hx,h | ⟨g,cap,cur,e',hg,hh,r⟩⟩:=h
 ·exact ⟨hx,.inl h⟩
 ·exact ⟨hx,.inr ⟨g,cap,cur,e',by omega,hh,r⟩⟩
theorem Own.at_ {B:Nat} {w:World} {A:Option Addr} {n n' c:Nat} {l l':List α} (h:E.Own e B w A n c l) (e1:n=n') (e2:l=l'):E.Own e B w A n' c l':=by subst e1 e2;exact h
theorem Own.kept {B:Nat} {w w':World} {A:Option Addr} {n c:Nat} {l:List α} {row:Option Nat} (h:E.Own e B w A n c l) (hg:w.grownBy w' row) (hne:(Value.slice A n c).ownBlock = .none∨(Value.slice A n c).ownBlock≠row):E.Own e B w' A n c l :=
 World.ownsRow.kept h hg hne
theorem Own.apart {B:Nat} {w w':World} {A:Option Addr} {n c:Nat} {l:List α} {row:Option Nat} (h:E.Own e B w A n c l) (hg:w.grownBy w' row) (hr:∀ k,row=some k→k<B):E.Own e B w' A n c l:=by
 refine h.kept hg ?_
 rcases hA:(Value.slice A n c).ownBlock with _ | k
 ·exact .inl rfl
 ·refine .inr fun e=>?_
  have h1:=(h.from_ k hA).1
  have h2:=hr k e.symm
  omega
theorem Own.place {B:Nat} {w:World} {A:Option Addr} {n c:Nat} {ss:List α} (h:E.Own e B w A n c ss) (hn:0<n):∃ g,A=some ⟨g,0,.none⟩∧B≤g∧g<w.heap.size∧n≤c:=acZ h hn
theorem aiv (w:World) (ss:List α) (cs:Array Value) (hcs:cs.toList=E.all ss) (n:Nat) (hn:ss.length=n) (hm:n*E.K≤9223372036854775807) (B:Nat) (hB:B≤w.heap.size) :
  E.Own e B (w.alloc (.cells cs e)) (some ⟨w.heap.size,0,.none⟩) n n ss:=by
 have hl:=E.pq ss
 have hpos:=E.pos
 have hnm:n≤n*E.K:=Nat.le_mul_of_pos_right n hpos
 refine ⟨by rw [hl,hn],.inr ⟨w.heap.size,n,cs,rfl,hB,heap_alloc_new w _,Nat.le_refl _,by unfold maxLen;omega,?_,?_⟩⟩
 ·rw [← Array.length_toList,hcs,hl,hn]
 ·rw [hcs,List.take_of_length_le (by rw [hl,hn];omega)]
theorem adw (w:World) (s:α) (cs:Array Value) (hcs:cs.toList=E.cf s) (T:TypeId):E.Row (w.alloc (.cells cs T)) (some ⟨w.heap.size,0,.none⟩) 1 1 [s]:=by
 refine ⟨fun _=>⟨w.heap.size,0,rfl,fun k u hu=>?_⟩,rfl,Nat.le_refl _,by omega,fun e=>by cases e⟩
 have hu':(E.cf s)[k]? = some u:=by simpa [all] using hu
 rw [World.cell?_alloc_mark,Nat.zero_add,← Array.getElem?_toList,hcs]
 exact hu'
theorem amf {w:World} {ops:Array Oper} {rest:List Oper} {o:Oper} {a:Act} {Q:Exit→Act→World→Prop} (hgd:Region.wanted o (yielded ops a.tmps)=true) (s x:Operand) (t:TypeId)
  (ho:o.op = .call {callee := .builtin .append,args:=#[s,x],argTypes:=#[t,t] })
  (z:Value) (by_:Nat) (ht:Tryz.prog.underlying t=some (.slice e)) (hinfo:(Tryz.prog.info? e).map (fun i=>(i.zero,i.size,i.bytes))=some (some z,E.K,by_)) (hz:z.cells.size=E.K)
  (B:Nat) (A0:Option Addr) (n0 c0:Nat) (l0:List α) (hs:a.eval s = .slice A0 n0 c0) (hown:E.Own e B w A0 n0 c0 l0)
  (A:Option Addr) (m c:Nat) (l:List α) (hx:a.eval x = .slice A m c) (hl:E.Row w A m c l)
  (N:Nat) (ys:List α) (hN:n0+m=N) (hys:l0++l=ys) (hroom:N*by_≤140737488355328) (hlen:N≤1000000000000) (hB:B≤w.heap.size)
  (h : ∀ A' c' w',E.Own e B w' A' N c' ys→Below B w w'→w.grownBy w' (Value.slice A0 n0 c0).ownBlock →
   ((Value.slice A' N c').ownBlock=(Value.slice A0 n0 c0).ownBlock∨(Value.slice A' N c').ownBlock=some w.heap.size)→wpList Tryz.prog ops Q rest (a.put o.dst (.slice A' N c')) w') :
  wpList Tryz.prog ops Q (o::rest) a w:=by
 subst hys
 obtain ⟨i0,hi0,hz0,hz1,hz2⟩:=info_parts hinfo
 refine sV w hgd s x t ho B e i0 _ E.K by_ ht hi0 hz0 hz1 hz2 hz E.pos (.slice A0 n0 c0) n0 (E.all l0) hs hown A m c (E.all l) hx
  (by rw [pq,hl.len]) hl.holds hl.nil (E.aaO l) N (E.all (l0++l)) hN (E.all_append l0 l).symm (by unfold maxLen;omega) hroom hB ?_
 intro A' c' w' ho' hg hat
 exact h A' c' w' ho' ((Below.refl B w).grown hg hB (jY hown)) hg hat
end Enc
end Go.Proofs.YtpcmlopbkehffaaGreat
namespace Go.Proofs.YtpcmlopbkehffaaGreat
namespace Rg
structure PtD where
 pos:Nat
 id:Nat
instance:Inhabited PtD:=⟨⟨0,0⟩⟩
def PtD.Le (a b:PtD):Prop:=a.pos<b.pos∨(a.pos=b.pos∧a.id≤b.id)
instance (a b:PtD):Decidable (a.Le b):=inferInstanceAs (Decidable (a.pos<b.pos∨(a.pos=b.pos∧a.id≤b.id)))
theorem PtD.Le.trans {a b c:PtD} (h1:a.Le b) (h2:b.Le c):a.Le c:=by
 unfold PtD.Le at *
 omega
theorem PtD.Le.refl (a:PtD):a.Le a:=by
 unfold PtD.Le
 omega
def Sorted (r:List PtD):Prop:=r.Pairwise PtD.Le
def ownF (r:List PtD) (h:Nat):Nat :=
 match r.find? fun p=>decide (h≤p.pos) with
 | some p=>p.id
 | none=>match r with
   | []=>0
   | p::_=>p.id
def IsOwn (r:List PtD) (h:Nat) (p:PtD):Prop :=
 p ∈ r∧((h≤p.pos∧∀ q∈r,h≤q.pos→p.Le q)∨((∀ q∈r,q.pos<h)∧∀ q∈r,p.Le q))
def ptsOf (atF:Nat→Nat→Nat) (ids:List Nat) (points:Nat):List PtD:=ids.flatMap fun id=>(List.range points).map fun i=>⟨atF id i,id⟩
def jL:Nat→List Nat→Bool
 | _,[]=>true
 | l,i::is=>decide (l<i)&&jL i is
end Rg
end Go.Proofs.YtpcmlopbkehffaaGreat
namespace Go.Proofs.YtpcmlopbkehffaaGreat
open Go.RowKit
namespace Rg
def cfP (p:PtD):List Value:=[.int .u64 (p.pos:Nat),.int .u64 (p.id:Nat)]
def ptE:Enc PtD:=⟨cfP,2,fun _=>rfl,by decide,fun p u hu=>by
 simp [cfP] at hu
 rcases hu with rfl | rfl <;> rfl⟩
def iI:Enc Nat:=⟨fun n=>[.int .u64 (n:Nat)],1,fun _=>rfl,by decide,fun p u hu=>by
 simp at hu
 subst hu
 rfl⟩
def intE:Enc Int:=⟨fun n=>[.int .i64 n],1,fun _=>rfl,by decide,fun p u hu=>by
 simp at hu
 subst hu
 rfl⟩
def fD (a b:Nat):Int:=if a<b then -1 else if b<a then 1 else 0
def nE (w:World) (k:Int) (e:Ending) (w':World):Prop:=e = .returned (.int .i64 k)∧w=w'
theorem lT {w:World} {k k':Int} (h:k=k'):nE w k (.returned (.int .i64 k')) w:=⟨by rw [h],rfl⟩
set_option maxHeartbeats 1000000 in
theorem uD (a:Nat) (w:World):Calls Tryz.prog 142 #[.int .u64 (a:Nat)] w fun e w'=>e = .returned (.bool false)∧w=w':=by
 go_enter Tryz.func142,Tryz.ntmps142
 go_wp2_with fail
 go_ret
 exact ⟨by simp,rfl⟩
set_option maxHeartbeats 2000000 in
theorem wP (a b:Nat) (w:World):Calls Tryz.prog 150 #[.int .u64 (a:Nat),.int .u64 (b:Nat)] w (nE w (fD a b)):=by
 have Hn:=aj (fun (x:Nat) W=>uD x W)
 rcases Nat.lt_trichotomy a b with h | h | h
 ·have Hk:=aj (show fD a b = -1 by unfold fD;rw [if_pos h])
  have e1:decide (a<b)=true:=decide_eq_true h
  clear h
  go_enter Tryz.func150,Tryz.ntmps150
  go_wp2_with (go_at_call 142;(with_reducible refine Calls.mono (Hn.out _ _) ?_);rintro e w' ⟨rfl,rfl⟩)
  go_ret
  exact lT Hk.out
 ·subst h
  have Hk:=aj (show fD a a=0 by unfold fD;rw [if_neg (by omega),if_neg (by omega)])
  have e1:decide (a<a)=false:=decide_eq_false (by omega)
  go_enter Tryz.func150,Tryz.ntmps150
  go_wp2_with (go_at_call 142;(with_reducible refine Calls.mono (Hn.out _ _) ?_);rintro e w' ⟨rfl,rfl⟩)
  go_ret
  exact lT Hk.out
 ·have Hk:=aj (show fD a b=1 by unfold fD;rw [if_neg (by omega),if_pos h])
  have e1:decide (a<b)=false:=decide_eq_false (by omega)
  have e2:decide (b<a)=true:=decide_eq_true h
  clear h
  go_enter Tryz.func150,Tryz.ntmps150
  go_wp2_with (go_at_call 142;(with_reducible refine Calls.mono (Hn.out _ _) ?_);rintro e w' ⟨rfl,rfl⟩)
  go_ret
  exact lT Hk.out
def orI (a b:Int):Int:=if a=0 then b else a
set_option maxHeartbeats 2000000 in
theorem ais (b:Nat) (x y:Int) (w:World) (h0:w.cell? ⟨b,0,none⟩=some (.int .i64 x)) (h1:w.cell? ⟨b,1,none⟩=some (.int .i64 y)) :
  Calls Tryz.prog 169 #[.slice (some ⟨b,0,none⟩) 2 2] w (nE w (orI x y)):=by
 have Hk:=aj (show orI x y=if x=0 then y else x from rfl)
 generalize orI x y=r at *
 have e0:((0:Int) != 0)=false:=by decide
 by_cases hx:x=0
 ·subst hx
  by_cases hy:y=0
  ·subst hy
   have Hr:=aj (show r=0 by rw [Hk.out];rfl)
   clear Hk
   go_enter Tryz.func169,Tryz.ntmps169
   go_wp2
   go_loop [8] (fun i=>∃ k:Nat,k≤2∧i = .int .i64 k) (fun i=>2-(intOf i).toNat)
   case atStart=>exact ⟨0,by omega,rfl⟩
   case round =>
    obtain ⟨k,hk,rfl⟩:=hrel
    rcases (show k=0∨k=1∨k=2 by omega) with rfl | rfl | rfl
    ·go_wp2
     go_round
     case rel=>exact ⟨1,by omega,rfl⟩
     case measure=>simp [intOf]
    ·go_wp2
     go_round
     case rel=>exact ⟨2,by omega,rfl⟩
     case measure=>simp [intOf]
    ·go_wp2
     go_ret
     exact lT Hr.out
  ·have e1:(y != 0)=true:=by simpa using hy
   have Hr:=aj (show r=y by rw [Hk.out,if_pos rfl])
   clear Hk hy
   go_enter Tryz.func169,Tryz.ntmps169
   go_wp2
   go_loop [8] (fun i=>∃ k:Nat,k≤1∧i = .int .i64 k) (fun i=>2-(intOf i).toNat)
   case atStart=>exact ⟨0,by omega,rfl⟩
   case round =>
    obtain ⟨k,hk,rfl⟩:=hrel
    rcases (show k=0∨k=1 by omega) with rfl | rfl
    ·go_wp2
     go_round
     case rel=>exact ⟨1,by omega,rfl⟩
     case measure=>simp [intOf]
    ·go_wp2
     go_ret
     exact lT Hr.out
 ·have e1:(x != 0)=true:=by simpa using hx
  have Hr:=aj (show r=x by rw [Hk.out,if_neg hx])
  clear Hk hx
  go_enter Tryz.func169,Tryz.ntmps169
  go_wp2
  go_loop [8] (fun i=>∃ k:Nat,k≤0∧i = .int .i64 k) (fun i=>2-(intOf i).toNat)
  case atStart=>exact ⟨0,by omega,rfl⟩
  case round =>
   obtain ⟨k,hk,rfl⟩:=hrel
   obtain rfl:k=0:=by omega
   go_wp2
   go_ret
   exact lT Hr.out
def oD (a b:PtD):Int:=orI (fD a.pos b.pos) (fD a.id b.id)
theorem ltPt (a b:PtD):ltOf oD a b=decide (¬ b.Le a):=by
 unfold ltOf oD orI fD PtD.Le
 by_cases h1:a.pos<b.pos
 ·simp [h1];try omega
 ·by_cases h2:b.pos<a.pos
  ·simp [h1,h2];try omega
  ·by_cases h3:a.id<b.id
   ·simp [h1,h2,h3];try omega
   ·by_cases h4:b.id<a.id
    ·simp [h1,h2,h3,h4];try omega
    ·simp [h1,h2,h3,h4];try omega
abbrev iE (p:PtD):Value := .agg #[.int .u64 (p.pos:Nat),.int .u64 (p.id:Nat)]
theorem acF (w:World) (cs:Array Value) (T:TypeId) (n:Nat) (hn:w.heap.size=n) (k:Nat) (u:Value) (hu:cs[k]? = some u):(w.alloc (.cells cs T)).drew.cell? ⟨n,k,none⟩=some u:=by
 subst hn
 show (w.alloc (.cells cs T)).cell? ⟨w.heap.size,k,none⟩=some u
 rw [World.cell?_alloc_mark,hu]
def amn (k:Int) (W:World) (e:Ending) (w':World):Prop:=e = .returned (.int .i64 k)∧∃ q os',w'=Go.Sort.grow (W.drewN q) os'
end Rg
end Go.Proofs.YtpcmlopbkehffaaGreat
