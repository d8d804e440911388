/-
  A range over a function, at the wide fence: what the statement owes, and one round of it, also where the round's own variable is laid in memory.
-/
import Derived.Test.YtpcmlopbkehffaaGreatOGAA
import Derived.Test.YtpcmlopbkehffaaGreatOGAQ
import Derived.Test.YtpcmlopbkehffaaGreatOGBB
import Derived.Test.YtpcmlopbkehffaaGreatOGBC
import Derived.Test.YtpcmlopbkehffaaGreatOShelf
import Derived.WalkKit
import Derived.RangeFuncOwn
import Derived.RangeFuncBox
import Derived.Deep.QuietTactic
import Derived.Maps.RangeWalk
import Derived.RangeFuncNested
import Derived.RangeFuncBound
import Derived.RangeFuncCalls
import Derived.RangeFuncLeaves
import Derived.RangeFuncGives
import Derived.Sort.MapsRangeIn
import Derived.OwnWalkIn
import Derived.TacticsInMore
import Derived.RegionIn
import Derived.LoopNIn
import Derived.LoopIn
import Derived.Shelf.Abstract
import Derived.Shelf.RegionOpen
import Derived.Shelf.SlSortCmp.NoneTotal
import Derived.Shelf.GgClosure.Gives
import Derived.Lib.OwnBridge
set_option linter.unusedSimpArgs false
set_option linter.unusedVariables false
namespace Go.Proofs.YtpcmlopbkehffaaGreat
open Go.RowKit
attribute [local go_sem] Oper.semAt_some
theorem al9 {P:Program} {n:Nat} {g:Operand} {ps:Array Tmp} {assign body:Code} {Q:Exit→Act→World→Prop} {a:Act} {w:World} (D:Nat) (hD:w.heap.size=D) (gf:Nat) (lb:Array Value) (hg:a.eval g = .func (.func gf) #[] lb)
  (eg:∀ args w,(callFunc gf args).run P w = .ok (.enter gf args) w)
  (h : ∀ (fn:FuncId) (rec:LoopState→Option Code→Loop),rec=(fun st pe => {state:=st,pending:=pe,fn,tmps:=a.tmps,params:=ps,assign,body,defers:=D}) →
   CallsIn Fence.wide (n-1) P gf (#[.func (.yield (D+1)) #[] #[]]++lb) ((w.alloc (.deferred (some []))).alloc (.loop (rec .ready none)))
    (rangePost Fence.wide n P (D+1) Q {a with defers := {target := .collected D,args:=#[] } :: a.defers})) :
  (Code.rangeFunc g ps assign body).wpIn Fence.wide n P Q a w:=by
 subst hD
 refine wpIn_rangeFunc ?_
 intro fn _
 rw [show Fence.wide.round=none from rfl]
 obtain ⟨rec,hrec⟩:∃ rec:LoopState→Option Code→Loop,rec=fun st pe => {state:=st,pending:=pe,fn,tmps:=a.tmps,params:=ps,assign,body,defers:=w.heap.size} := ⟨_,rfl⟩
 have h':=h fn rec hrec
 obtain ⟨W1,hW1⟩:∃ W1,(w.alloc (.deferred (some []))).alloc (.loop (rec .ready none))=W1:=⟨_,rfl⟩
 rw [hW1] at h'
 clear h
 refine ⟨w.heap.size+1,[{target := .collected w.heap.size,args:=#[] }],W1,{target := .fn (.func gf) lb,args:=#[.func (.yield (w.heap.size+1)) #[] #[]] },W1,gf,
  #[.func (.yield (w.heap.size+1)) #[] #[]]++lb,W1,?_,?_,?_,?_,?_,?_⟩
 ·rw [← hW1,hrec];exact run_enterLoop_outer _ _ _ _ _
 ·simp only [resolve,hg]
  simp [go_sem]
 ·intro f' _;trivial
 ·simp [invoke,go_sem,eg]
 ·intro e;cases e
 ·exact h'
theorem wide_round {P:Program} {m l:Nat} {fn:FuncId} {tmps:Array Value} {ps:Array Tmp} {assign body:Code} {ds:Nat} {args:Array Value} {W:World} (W1:World) (rec:LoopState→Option Code→Loop)
  (hrec:rec=fun st pe => {state:=st,pending:=pe,fn,tmps,params:=ps,assign,body,defers:=ds}) (hl:W.heap[l]? = some (.loop (rec .ready none))) (hl1:W1.heap[l]? = some (.loop (rec .ready none))) (hps:args.size=ps.size) (a₁:Act)
  (hassign:∀ K:Act→World→Prop,K a₁ W1→assign.wpIn (Fence.wide.inRound l) m P (Exit.then K (fun _ _ _=>False)) {tmps:=(ps.zip args).foldl (fun t (p,v)=>t.setIfInBounds p v) tmps,defers:=[] } W)
  (R':World→Prop) (hbody:body.wpIn (Fence.wide.inRound l) m P (fun ex _ W'=>ex = .normal∧W'.heap[l]? = some (.loop (rec .busy none))∧R' W') a₁ (W1.putObj l (.loop (rec .busy none))))
  (R:Ending→World→Prop) (hR:∀ W',W'.heap[l]? = some (.loop (rec .busy none))→R' W'→R (.returned (.bool true)) (W'.putObj l (.loop (rec .ready none)))) :
  YieldAt Fence.wide m P l args W R:=by
 have hy:=run_yield (P:=P) (args:=args) hl (by rw [hrec];exact hps)
 rw [hrec] at hy
 refine ⟨fn,_,assign,body,hy,roundIn_of_wpIn trivial (hassign _ ⟨_,run_beginRound hl1 (by rw [hrec]),?_⟩)⟩
 have e1:({rec .ready none with state := .busy} : Loop)=rec .busy none:=by rw [hrec]
 rw [e1]
 refine wpIn_mono hbody ?_
 rintro e a3 W3 ⟨rfl,hb,hr⟩
 have:=run_endRound (P:=P) none hb
 have e2:({rec .busy none with state:=if (none:Option Code).isNone then .ready else .done,pending:=none} : Loop)=rec .ready none:=by rw [hrec];rfl
 rw [e2] at this
 exact ⟨_,_,this,hR _ hb hr⟩
end Go.Proofs.YtpcmlopbkehffaaGreat
namespace Go.Proofs.YtpcmlopbkehffaaGreat
open Go.RowKit
open Go.Maps (Keyed keyOf_int_mk int_keyed)
namespace Vw
def pF (x:Nat):Value := .int .u64 (x:Nat)
theorem afN {x y:Nat} (h:pF x=pF y):x=y:=by
 unfold pF at h
 injection h with _ h
 omega
def eu (v:Value):Option (DataW Value×List MemPlace):=some (.held v,[])
abbrev ku (x:Nat):Lit := .int .u64 (x:Nat)
theorem rG:Keyed Tryz.prog 33:=int_keyed Tryz.underlying33
theorem agA {x:Nat} (h:x<18446744073709551616):(Lit.int .u64 (x:Nat)).wf=true:=by
 simp [Lit.wf,IntKind.min,IntKind.max,IntKind.bits,IntKind.signed]
 omega
theorem xH {x:Nat} (h:x<18446744073709551616):keyOf Tryz.prog 33 (.int .u64 (x:Nat))=some (ku x):=keyOf_int_mk Tryz.underlying33 (agA h)
theorem xI {x y:Nat} (h:x≠y):ku x≠ku y:=fun e=>h (by injection e;omega)
theorem agz (x y:Nat):(ku x).sameKey (ku y)=decide (x=y):=by
 by_cases h:x=y
 ·subst h;simp [Lit.sameKey]
 ·rw [Maps.sameKey_ne (xI h),decide_eq_false h]
theorem ab4 {key:Value} {kl:Lit} (h:keyOf Tryz.prog 33 key=some kl):∃ x:Nat,key=pF x∧kl=ku x∧x<18446744073709551616:=by
 cases key <;> simp [keyOf,Tryz.underlying33,mapKey] at h
 rename_i q a
 obtain ⟨⟨rfl,hw⟩,rfl⟩:=h
 have h1:0≤a∧a≤18446744073709551615:=by simpa [Lit.wf,IntKind.min,IntKind.max,IntKind.bits,IntKind.signed] using hw
 obtain ⟨x,rfl⟩:∃ x:Nat,a=(x:Int):=⟨a.toNat,by omega⟩
 exact ⟨x,rfl,rfl,by omega⟩
def og (D0:DataW Value) (left:Lit→Bool) (ss:List Nat):Prop:=ss.Nodup∧∀ x:Nat,x∈ss ↔ (Maps.has D0 (ku x)=true∧left (ku x)=false)
theorem og.start (D0:DataW Value):og D0 (Maps.has D0) []:=⟨List.nodup_nil,fun x=>by cases Maps.has D0 (ku x) <;> simp⟩
theorem og.step {D0:DataW Value} {left:Lit→Bool} {ss:List Nat} (h:og D0 left ss) {x:Nat} {y:DataW Value} (hlk:left (ku x)=true) (hat:∀ zd,D0.atKey (ku x) zd=y) :
  og D0 (fun z=>left z && !z.sameKey (ku x)) (ss++[x]):=by
 have hhas:Maps.has D0 (ku x)=true:=Maps.has_true_of_atKey hat
 have hnew:x ∉ ss:=fun hx=>by
  have:=((h.2 x).1 hx).2
  rw [hlk] at this
  cases this
 refine ⟨List.nodup_append.2 ⟨h.1,by simp,fun a ha b hb=>by simp at hb;subst hb;exact fun e=>hnew (e ▸ ha)⟩,fun y=>?_⟩
 show y∈ss++[x] ↔ Maps.has D0 (ku y)=true∧(left (ku y) && !(ku y).sameKey (ku x))=false
 rw [agz]
 by_cases hy:y=x
 ·subst hy
  simp [hhas]
 ·simp [h.2 y,hy]
def amm (D0:DataW Value) (ss:List Nat):Prop:=ss.Nodup∧∀ x:Nat,x∈ss ↔ Maps.has D0 (ku x)=true
theorem aiz {w W:World} {b nn:Nat} {D0:DataW Value} (hown:w.ownsMap Tryz.prog 33 eu b nn D0) (hW:Below w.heap.size w W):W.ownsMap Tryz.prog 33 eu b nn D0:=by
 have hbl:=hown.lt
 obtain ⟨es,clock,hb,Ft,hs,hD⟩:=hown
 exact ⟨es,clock,(hW.block b hbl).trans hb,Ft,hs,hD⟩
end Vw
end Go.Proofs.YtpcmlopbkehffaaGreat
namespace Go.Proofs.YtpcmlopbkehffaaGreat
open Go.RowKit Ru
set_option maxRecDepth 100000 in
set_option maxHeartbeats 4000000 in
theorem values_in (n l Bs:Nat) (hn:1≤n) (A:Option Addr) (c:Nat) (ss:List ay) (J:Nat→World→Prop)
  (hrow:∀ k W,J k W→bW W A ss.length c ss) (halloc:∀ k W o,J k W→J k (W.alloc (.cells o 122)))
  (hY:∀ k (h:k<ss.length) W,J k W→YieldAt Fence.wide (n-1) Tryz.prog l #[jv ss[k]] W fun e W'=>e = .returned (.bool true)∧J (k+1) W')
  (W:World) (hs:Whole W Bs 37 #[.slice A ss.length c]) (h0:J 0 W) :
  CallsIn Fence.wide n Tryz.prog 174 #[.func (.yield l) #[] #[],.pointer (some ⟨Bs,0,none⟩)] W fun e W'=>(∃ v,e = .returned v)∧J ss.length W':=by
 have HY:=aj hY
 have Hrow:=aj hrow
 have Halloc:=aj halloc
 have hcap:=(hrow 0 W h0).cap
 have hmax:=(hrow 0 W h0).max
 have H0:=aj h0
 have cs:=hs.cell 0 _ rfl
 clear hY hrow halloc h0 hs
 refine callsIn_of_wp Tryz.func174 rfl trivial ?_ rfl
 simp only [Tryz.ntmps174,List.size_toArray,List.length_cons,List.length_nil,Nat.reduceAdd,Nat.reduceSub,Array.replicate_succ,Array.replicate_zero,List.push_toArray,List.append_toArray,List.nil_append,List.cons_append]
 gi_wp2
 clear cs
 gi_loopw [7] (fun vi wr=>∃ k:Nat,k≤ss.length∧vi = .int .i64 (k:Nat)∧Hid (J k wr)) (fun vi _=>ss.length-(intOf vi).toNat)
 case atStart=>exact ⟨0,Nat.zero_le _,rfl,H0⟩
 case round =>
  obtain ⟨k,hk,rfl,HJ⟩:=hrel
  by_cases hlt:k<ss.length
  ·obtain ⟨b,off,rfl,hc⟩:=(Hrow.out k wr HJ.out).at_ hlt
   obtain ⟨c0,c1,c2,c3,c4,c5,c6,c7⟩:=hc
   have x1:(k:Int)<(ss.length:Int):=by omega
   have x2:(0:Int)≤(k:Int):=by omega
   obtain ⟨fn,tmps,assign,body,hy,hR⟩:=HY.out k hlt (wr.alloc (.cells (spanCells ss[k]) 122)) (Halloc.out k wr _ HJ.out)
   unfold spanCells at hy hR
   generalize ss[k]=s at *
   gi_wp2
   refine hR.mono ?_
   rintro e W3 ⟨rfl,hJ3⟩
   have HJ3:=aj hJ3
   clear hJ3 c0 c1 c2 c3 c4 c5 c6 c7
   gi_wp2
   go_roundw
   case rel=>exact ⟨k+1,by omega,by go_num,HJ3⟩
   case measure=>simp [intOf] <;> omega
  ·obtain rfl:k=ss.length:=by omega
   gi_wp2
   go_end0
   exact ⟨⟨_,rfl⟩,HJ.out⟩
end Go.Proofs.YtpcmlopbkehffaaGreat
namespace Go.Proofs.YtpcmlopbkehffaaGreat
open Go.RowKit Ru
attribute [local go_sem] Oper.semAt_some
theorem eP.block {B:Nat} {w w':World} {A:Option Addr} {n c:Nat} {rs:List ay} (h:eP B w A n c rs) (hk:∀ (g:Nat) (o:Obj),w.heap[g]? = some o→o.isCells=true→w'.heap[g]? = w.heap[g]?):eP B w' A n c rs:=by
 obtain ⟨hx,h | ⟨g,cap,cur,e',hg,hh,r⟩⟩:=h
 ·exact ⟨hx,.inl h⟩
 ·exact ⟨hx,.inr ⟨g,cap,cur,e',hg,(hk g _ hh rfl).trans hh,r⟩⟩
theorem eP.other {B:Nat} {w:World} {A:Option Addr} {n c:Nat} {rs:List ay} (h:eP B w A n c rs) {g:Nat} {t:TypeId} {cs:Array Value} (hg:Whole w g t cs) (hne:122≠t):(Value.slice A n c).ownBlock≠some g:=by
 rcases h.2 with ⟨e',_⟩ | ⟨g',cap,cur,e',_,hh,_⟩
 ·rw [e'];simp [Value.ownBlock]
 ·rw [e']
  intro he
  have:g'=g:=by simpa [Value.ownBlock] using he
  subst this
  unfold Whole at hg
  rw [hh] at hg
  injection hg with hg
  injection hg with _ ht
  exact hne ht
theorem eP.object {B:Nat} {w:World} {A:Option Addr} {n c:Nat} {rs:List ay} (h:eP B w A n c rs) {g:Nat} {o:Obj} (hg:w.heap[g]? = some o) (ho:o.isCells=false):(Value.slice A n c).ownBlock≠some g:=by
 rcases h.2 with ⟨e',_⟩ | ⟨g',cap,cur,e',_,hh,_⟩
 ·rw [e'];simp [Value.ownBlock]
 ·rw [e']
  intro he
  have:g'=g:=by simpa [Value.ownBlock] using he
  subst this
  rw [hh] at hg
  cases hg
  cases ho
theorem Whole.grown {w w':World} {g:Nat} {t:TypeId} {cs:Array Value} {row:Option Nat} (h:Whole w g t cs) (hb:w.grownBy w' row) (hg:row≠some g):Whole w' g t cs:=(hb.block g h.lt (Ne.symm hg)).trans h
theorem ait {B:Nat} {w:World} {A:Option Addr} {n c:Nat} {rs:List ay} (h:eP B w A n c rs) {g:Nat} {t:TypeId} {cs:Array Value} (hg:Whole w g t cs) (hne:122≠t) (v:Value):eP B (w.setCell ⟨g,0,Option.none⟩ v) A n c rs:=by
 refine World.ownsRow.kept h (row:=some g) ?_ (.inr (h.other hg hne))
 exact ⟨rfl,rfl,rfl,by show _≤(w.heap.modify _ _).size;rw [Array.size_modify];exact Nat.le_refl _,fun i _ hi=>Below.heap_setCell w ⟨g,0,Option.none⟩ v i (by rintro rfl;exact hi rfl)⟩
theorem ala (W:World) (g:Nat) (hg:W.heap.size=g) (s:ay) (T:TypeId):∀ j u,(cellsOf s)[j]? = some u→(W.alloc (.cells (spanCells s) T)).cell? ((⟨g,0,none⟩:Addr).add j)=some u:=by
 subst hg
 intro j u hu
 rw [add_plain,World.cell?_alloc_mark,← hu]
 simp [cellsOf,spanCells]
theorem aa5 (s:ay):∀ u∈cellsOf s,u.oneCell'=true:=by
 intro u hu
 simp [cellsOf] at hu
 rcases hu with rfl | rfl | rfl | rfl | rfl | rfl | rfl | rfl
 all_goals rfl
structure JA (w:World) (ss:List ay) (k:Nat) (W:World):Prop where
 bel:Below w.heap.size w W
 row:∃ A c,Whole W w.heap.size 37 #[.slice A k c]∧eP w.heap.size W A k c (ss.take k)
 wW:W.heap[w.heap.size+1]? = some (.deferred (some []))
theorem JA.move {w W W':World} {ss:List ay} {k:Nat} (h:JA w ss k W) (hb:Below w.heap.size w W') (hk:∀ g o,W.heap[g]? = some o→(o.isCells=true∨g=w.heap.size+1)→W'.heap[g]? = W.heap[g]?):JA w ss k W':=by
 obtain ⟨_,⟨A,c,h2,h3⟩,h7⟩:=h
 exact ⟨hb,⟨A,c,(hk _ _ h2 (.inl rfl)).trans h2,h3.block fun g o hg ho=>hk g o hg (.inl ho)⟩,(hk _ _ h7 (.inr rfl)).trans h7⟩
theorem JA.ze {w W:World} {ss:List ay} {k:Nat} {lo:Loop} (h:JA w ss k W) (hl:W.heap[w.heap.size+1+1]? = some (.loop lo)) (lo':Loop):JA w ss k (W.putObj (w.heap.size+1+1) (.loop lo')):=by
 refine h.move (h.bel.trans (belowK_b (w:=w) (Nat.le_refl _) W _ _ _ (by omega) hl rfl rfl)) fun g o hg ho=>World.putObj_heap_other ?_
 rintro rfl
 rw [hl] at hg
 cases hg
 rcases ho with ho | ho
 ·cases ho
 ·omega
theorem JA.alloc {w W:World} {ss:List ay} {k:Nat} (h:JA w ss k W) (o:Obj):JA w ss k (W.alloc o) :=
 h.move (h.bel.alloc h.bel.size _) fun _ _ hg _=>Below.heap_alloc _ _ _ (Array.getElem?_eq_some_iff.1 hg).1
theorem agu (w:World) (ss:List ay) (lo:Loop) :
  JA w ss 0 (((w.alloc (.cells #[.slice none 0 0] 37)).alloc (.deferred (some []))).alloc (.loop lo)) ∧
  (((w.alloc (.cells #[.slice none 0 0] 37)).alloc (.deferred (some []))).alloc (.loop lo)).heap[w.heap.size+1+1]? = some (.loop lo):=by
 refine ⟨⟨?_,⟨none,0,?_,eP.none _ _⟩,?_⟩,?_⟩
 ·repeat (first | exact Below.refl _ _ | refine Below.alloc ?_ (by simp;omega) _ | refine Below.alloc ?_ (by simp) _)
 ·exact ((aP w _ _).alloc _).alloc _
 ·have h:=World.alloc_heap_new (w.alloc (.cells #[.slice none 0 0] 37)) (.deferred (some []))
  simp only [World.size_alloc] at h
  exact (Below.heap_alloc _ _ _ (by simp)).trans h
 ·have h:=World.alloc_heap_new ((w.alloc (.cells #[.slice none 0 0] 37)).alloc (.deferred (some []))) (.loop lo)
  simp only [World.size_alloc] at h
  exact h
def aap (w:World) (ss:List ay) (e:Ending) (w':World):Prop:=∃ A c,e = .returned (.slice A ss.length c)∧eP w.heap.size w' A ss.length c ss∧Below w.heap.size w w'
set_option maxRecDepth 100000 in
set_option maxHeartbeats 8000000 in
theorem aeL (Bs:Nat) (A0:Option Addr) (c0:Nat) (ss:List ay) (w:World) (hs:bW w A0 ss.length c0 ss) (hb:Whole w Bs 37 #[.slice A0 ss.length c0]) (hm:ss.length≤1000000) :
  Calls Tryz.prog 183 #[.slice none 0 0,.func (.func 174) #[] #[.pointer (some ⟨Bs,0,none⟩)]] w (aap w ss):=by
 have Hs:=aj hs
 have Hb:=aj hb
 clear hs hb
 refine (callsIn_wide (n:=3)).1 ?_
 refine callsIn_of_wp_marks Tryz.func183 rfl trivial ?_ rfl
 simp only [Tryz.ntmps183,List.size_toArray,List.length_cons,List.length_nil,Nat.reduceAdd,Nat.reduceSub,Array.replicate_succ,Array.replicate_zero,List.push_toArray,List.append_toArray,List.nil_append,List.cons_append]
 gi_wp2
 refine al9 (w.heap.size+1) (by simp) 174 _ rfl (enters_of Tryz.func174 (by kernel_rfl) rfl) ?_
 intro fn rec hrec
 have Hrec:=aj hrec
 have hpend:(rec .ready none).pending=none:=by rw [hrec]
 have hstate:(rec .ready none).state ≠ .busy:=by rw [hrec];intro e;cases e
 have Hpend:=aj hpend
 have Hstate:=aj hstate
 clear hrec hpend hstate
 obtain ⟨hJ0,hl0⟩:=agu w ss (rec .ready none)
 refine (values_in (3-1) (w.heap.size+1+1) Bs (by decide) A0 c0 ss
  (fun k W=>k≤ss.length∧JA w ss k W∧W.heap[w.heap.size+1+1]? = some (.loop (rec .ready none))) ?hrow ?halloc ?hY _ (((Hb.out.alloc _).alloc _).alloc _) ⟨Nat.zero_le _,hJ0,hl0⟩).mono ?_
 case hrow =>
  rintro k W ⟨h0,h1,h2⟩
  exact Hs.out.below h1.bel
 case halloc =>
  rintro k W o ⟨h0,h1,h2⟩
  exact ⟨h0,h1.alloc _,(Below.heap_alloc _ _ _ (Array.getElem?_eq_some_iff.1 h2).1).trans h2⟩
 case hY =>
  rintro k hk W ⟨h0,hJ,hl⟩
  have htk:=List.take_succ_eq_append_getElem hk
  generalize ss[k]=s at *
  have hl1:(W.alloc (.cells (spanCells s) 122)).heap[w.heap.size+1+1]? = some (.loop (rec .ready none)):=(Below.heap_alloc _ _ _ (Array.getElem?_eq_some_iff.1 hl).1).trans hl
  have hJ1:=hJ.alloc (.cells (spanCells s) 122)
  have hJb:=hJ1.ze hl1 (rec .busy none)
  have hlb:=World.putObj_heap_same (o := .loop (rec .busy none)) (Array.getElem?_eq_some_iff.1 hl1).1
  have hG:w.heap.size+1+1<W.heap.size:=(Array.getElem?_eq_some_iff.1 hl).1
  have hvar:Whole ((W.alloc (.cells (spanCells s) 122)).putObj (w.heap.size+1+1) (.loop (rec .busy none))) W.heap.size 122 (spanCells s):=(World.putObj_heap_other (by omega)).trans (aP W _ _)
  refine wide_round (W.alloc (.cells (spanCells s) 122)) rec Hrec.out hl hl1 rfl {tmps:=#[.slice none 0 0,.func (.func 174) #[] #[.pointer (some ⟨Bs,0,none⟩)],.pointer (some ⟨w.heap.size,0,none⟩),undef,.slice none 0 0,.pointer (some ⟨W.heap.size,0,none⟩),.func (.func 174) #[] #[.pointer (some ⟨Bs,0,none⟩)],jv s,undef,undef,undef,undef,undef],defers:=[] } ?_
   (fun W'=>JA w ss (k+1) W') ?_ _ ?_
  ·intro K hK
   unfold spanCells at hK
   gi_wp2
   exact hK
  ·generalize (W.alloc (.cells (spanCells s) 122)).putObj (w.heap.size+1+1) (.loop (rec .busy none))=Wb at hJb hlb hvar ⊢
   generalize W.heap.size=G at *
   clear hJ1 hl1 hJ hl
   obtain ⟨A,c,hlrow,hown⟩:=hJb.row
   obtain ⟨i0,hi,hz0,hz1,hz2⟩:=info_parts ab2
   have hbs:=hJb.bel.size
   have hlt:=hlrow.lt
   have cl:=hlrow.cell 0 _ rfl
   have fl:=hlrow.free 0
   have v0:=hvar.cell 0 (.int .u64 (s.trace:Nat)) rfl
   have v1:=hvar.cell 1 (.int .u64 (s.id:Nat)) rfl
   have v2:=hvar.cell 2 (.int .u64 (s.parent:Nat)) rfl
   have v3:=hvar.cell 3 (.int .u64 (s.start:Nat)) rfl
   have v4:=hvar.cell 4 (.int .u64 (s.len:Nat)) rfl
   have v5:=hvar.cell 5 (.string s.service) rfl
   have v6:=hvar.cell 6 (.string s.name) rfl
   have v7:=hvar.cell 7 (.bool s.fail) rfl
   gi_wp2_with (gi_at_builtin;refine wpListIn_append_own _ rfl (.tmp 8) (.tmp 10) 37 rfl w.heap.size 122 i0 _ 8 80 Tryz.underlying37 hi hz0 hz1 hz2 rfl (by decide) _ _ _ rfl (World.ownsRow.alloc hown _) ⟨Wb.heap.size,0,none⟩ 1 1 (cellsOf s) rfl rfl (ala Wb Wb.heap.size rfl s 122) (aa5 s) (by unfold maxLen;omega) (by omega) (by simp;omega) ?_;intro v' w2 hown' hgrow _;obtain ⟨g',cap',rfl⟩:=ownsRow_succ hown';have hl2:=(hlrow.alloc (.cells (spanCells s) 122)).grown hgrow (hown.other hlrow (by decide));have cl2:=hl2.cell 0 _ rfl;have fl2:=hl2.free 0)
   have hbel2:Below w.heap.size w w2:=by
    refine Below.trans ?_ ((Below.refl w.heap.size (Wb.alloc (.cells (spanCells s) 122))).grown hgrow (by simp;omega) (fun k hk=>(hown.from_ k hk).1))
    exact hJb.bel.alloc hbs _
   have keep:∀ (g:Nat) (o:Obj),Wb.heap[g]? = some o→(Value.slice A k c).ownBlock≠some g→g≠w.heap.size→(w2.setCell ⟨w.heap.size,0,none⟩ (.slice (some ⟨g',0,none⟩) (k+1) cap')).heap[g]? = some o:=by
    intro g o hg hne hne2
    have hlt:=(Array.getElem?_eq_some_iff.1 hg).1
    have k2:(Wb.alloc (.cells (spanCells s) 122)).heap[g]? = some o:=(Below.heap_alloc _ _ _ hlt).trans hg
    have k3:w2.heap[g]? = some o:=(hgrow.block g (by simp;omega) (Ne.symm hne)).trans k2
    exact (Below.heap_setCell w2 ⟨w.heap.size,0,none⟩ _ g hne2).trans k3
   have hown2:eP w.heap.size w2 (some ⟨g',0,none⟩) (k+1) cap' (ss.take (k+1)):=by
    have h:=hown'
    rw [show iH (ss.take k)++cellsOf s=iH (ss.take (k+1)) by rw [htk,ae4];simp [iH]] at h
    exact h
   exact ⟨keep _ _ hlb (hown.object hlb rfl) (by omega),hbel2.setCell (p:=⟨w.heap.size,0,none⟩) (Nat.le_refl _) _,⟨some ⟨g',0,none⟩,cap',hl2.store 0 _,ait (t:=37) hown2 hl2 (by decide) _⟩,
    keep _ _ hJb.wW (hown.object hJb.wW rfl) (by omega)⟩
  ·rintro W' hb h1
   refine ⟨rfl,by omega,?_,World.putObj_heap_same (Array.getElem?_eq_some_iff.1 hb).1⟩
   exact h1.ze hb (rec .ready none)
 rintro e W ⟨⟨v,rfl⟩,_,hJ,hl⟩
 have he:=run_endLoop (P:=Tryz.prog) hl Hstate.out
 have hJ2:=hJ.ze hl {rec .ready none with state := .exhausted}
 obtain ⟨W2,hW2⟩:∃ W2,W.putObj (w.heap.size+1+1) (.loop {rec .ready none with state := .exhausted})=W2:=⟨_,rfl⟩
 rw [hW2] at he hJ2
 refine ⟨(rec .ready none).pending,W2,he,?_⟩
 rw [Hpend.out]
 clear hJ hl he hJ0 hl0 hW2
 obtain ⟨A,c,hlrow,hown⟩:=hJ2.row
 rw [List.take_length] at hown
 have cl:=hlrow.cell 0 _ rfl
 gi_wp2
 have hK:=hJ2.wW
 refine ⟨by simp,.inl ⟨_,_,rfl,run_takeDeferred hK,?_⟩⟩
 have hown4:=ownsRow_putObj hown (.deferred none) hK rfl
 have hbel4:=hJ2.bel.trans (belowK_b (w:=w) (Nat.le_refl _) W2 _ _ (.deferred none) (by omega) hK rfl rfl)
 exact ⟨.slice A ss.length c,by simp [results,Tryz.results183,go_sem],A,c,rfl,hown4,hbel4⟩
set_option maxHeartbeats 1000000 in
theorem afi (Bs:Nat) (A0:Option Addr) (c0:Nat) (ss:List ay) (w:World) (hs:bW w A0 ss.length c0 ss) (hb:Whole w Bs 37 #[.slice A0 ss.length c0]) (hm:ss.length≤1000000) :
  Calls Tryz.prog 172 #[.func (.func 174) #[] #[.pointer (some ⟨Bs,0,none⟩)]] w (aap w ss):=by
 have H:=aj (aeL Bs A0 c0 ss w hs hb hm)
 clear hs hb
 go_enter Tryz.func172,Tryz.ntmps172
 go_wp2_with fail
 refine Calls.mono H.out ?_
 rintro e w1 ⟨A,c,rfl,ho,hb⟩
 go_wp2_with fail
 go_ret
 exact ⟨A,c,rfl,ho,hb⟩
end Go.Proofs.YtpcmlopbkehffaaGreat
namespace Go.Proofs.YtpcmlopbkehffaaGreat
open Go.RowKit Ru
def fD (a b:Nat):Int:=if a<b then -1 else if b<a then 1 else 0
def nE (w:World) (k:Int) (e:Ending) (w':World):Prop:=e = .returned (.int .i64 k)∧w=w'
theorem lT {w:World} {k k':Int} (h:k=k'):nE w k (.returned (.int .i64 k')) w:=⟨by rw [h],rfl⟩
set_option maxHeartbeats 1000000 in
theorem uD (a:Nat) (w:World):Calls Tryz.prog 142 #[.int .u64 (a:Nat)] w fun e w'=>e = .returned (.bool false)∧w=w':=by
 go_enter Tryz.func142,Tryz.ntmps142
 go_wp2_with fail
 go_ret
 exact ⟨by simp,rfl⟩
set_option maxHeartbeats 2000000 in
theorem wP (a b:Nat) (w:World):Calls Tryz.prog 150 #[.int .u64 (a:Nat),.int .u64 (b:Nat)] w (nE w (fD a b)):=by
 have Hn:=aj (fun (x:Nat) W=>uD x W)
 rcases Nat.lt_trichotomy a b with h | h | h
 ·have Hk:=aj (show fD a b = -1 by unfold fD;rw [if_pos h])
  have e1:decide (a<b)=true:=decide_eq_true h
  clear h
  go_enter Tryz.func150,Tryz.ntmps150
  go_wp2_with (go_at_call 142;(with_reducible refine Calls.mono (Hn.out _ _) ?_);rintro e w' ⟨rfl,rfl⟩)
  go_ret
  exact lT Hk.out
 ·subst h
  have Hk:=aj (show fD a a=0 by unfold fD;rw [if_neg (by omega),if_neg (by omega)])
  have e1:decide (a<a)=false:=decide_eq_false (by omega)
  go_enter Tryz.func150,Tryz.ntmps150
  go_wp2_with (go_at_call 142;(with_reducible refine Calls.mono (Hn.out _ _) ?_);rintro e w' ⟨rfl,rfl⟩)
  go_ret
  exact lT Hk.out
 ·have Hk:=aj (show fD a b=1 by unfold fD;rw [if_neg (by omega),if_pos h])
  have e1:decide (a<b)=false:=decide_eq_false (by omega)
  have e2:decide (b<a)=true:=decide_eq_true h
  clear h
  go_enter Tryz.func150,Tryz.ntmps150
  go_wp2_with (go_at_call 142;(with_reducible refine Calls.mono (Hn.out _ _) ?_);rintro e w' ⟨rfl,rfl⟩)
  go_ret
  exact lT Hk.out
instance:Inhabited ay:=⟨ay.zero⟩
def oC (a b:ay):Int:=fD a.id b.id
theorem uH (a b:ay):ltOf oC a b=decide (a.id<b.id):=by
 unfold ltOf oC fD
 by_cases h1:a.id<b.id
 ·simp [h1]
 ·by_cases h2:b.id<a.id <;> simp [h1,h2]
theorem alp:Go.Sort.SWO (ltOf oC) where
 irrefl x:=by rw [uH];simp
 trans x y z h1 h2:=by rw [uH] at *;simp at *;omega
 ntrans x y z h1 h2:=by rw [uH] at *;simp at *;omega
set_option maxHeartbeats 1000000 in
theorem aeY (a b:ay) (W:World):Calls Tryz.prog 149 #[jv a,jv b] W fun e w'=>e = .returned (.int .i64 (oC a b))∧∃ q os',w'=Go.Sort.grow (W.drewN q) os':=by
 have Hc:=aj (fun W'=>wP a.id b.id W')
 unfold nE at Hc
 have Hk:=aj (show oC a b=fD a.id b.id from rfl)
 generalize fD a.id b.id=k at *
 generalize oC a b=k2 at *
 obtain rfl:=Hk.out
 clear Hk
 go_enter Tryz.func149,Tryz.ntmps149
 go_wp2_with fail
 refine Calls.mono (Hc.out _) ?_
 rintro e w' ⟨rfl,rfl⟩
 go_wp2_with fail
 go_ret
 exact ⟨rfl,0,_,by rw [Go.Sort.alloc_eq_grow,Go.Sort.alloc_eq_grow,Go.Sort.grow_grow];rfl⟩
def qC (ss:List ay):Prop:=∀ i j (_:i<j) (hj:j<ss.length),ss[i].id≤ss[j].id
def aem (B:Nat) (w:World) (A:Option Addr) (n c:Nat) (ss:List ay) (e:Ending) (w':World):Prop:=e = .returned (.tuple #[])∧∃ ss',ss'.Perm ss∧qC ss'∧bW w' A n c ss'∧Below B w w'
theorem agi {w:World} {g:Nat} {n c:Nat} {ss:List ay} (h:bW w (some ⟨g,0,none⟩) n c ss) (hf:∀ o,w.frozen? ⟨g,o,none⟩=false):Go.Sort.HoldsK cellsOf 8 w g 0 ss.toArray:=by
 intro j hj
 rw [Go.Sort.size_flatK] at hj
 have hj':j<ss.length*8:=by simpa using hj
 refine ⟨?_,hf _⟩
 rw [Go.Sort.get_flatK _ _ _ _ hj]
 have hk:j / 8<ss.length:=by omega
 obtain ⟨b,off,e,hc⟩:=h.at_ hk
 injection e with e
 injection e with e1 e2
 subst e1 e2
 have hg:(cellsOf ss[j / 8])[j % 8]? = some ((cellsOf (ss.toArray[j / 8]!))[j % 8]!):=by
  have e1:ss.toArray[j / 8]! = ss[j / 8]:=by simp [getElem!_pos,hk]
  rw [e1]
  have hl:j % 8<(cellsOf ss[j / 8]).length:=by rw [qP];omega
  rw [List.getElem?_eq_getElem hl,getElem!_pos (cellsOf ss[j / 8]) (j % 8) hl]
 have:=hc.cell (j % 8) _ hg
 rwa [show 0+j / 8*8+j % 8=0+j by omega] at this
theorem akn {w:World} {g:Nat} {n c:Nat} {ss:List ay} (h:Go.Sort.HoldsK cellsOf 8 w g 0 ss.toArray) (h1:ss.length=n) (h2:n≤c) (h3:c≤9223372036854775807):bW w (some ⟨g,0,none⟩) n c ss:=by
 refine ⟨fun _=>⟨g,0,rfl,fun k hk=>zI fun j u hu=>?_⟩,h1,h2,h3,fun e=>by cases e⟩
 have hj:j<8:=(List.getElem?_eq_some_iff.1 hu).1
 have:=(h.cell (i:=k) (c:=j) (by simpa using hk) hj).1
 rw [this]
 have e1:ss.toArray[k]! = ss[k]:=by simp [getElem!_pos,hk]
 rw [e1,getElem!_pos (cellsOf ss[k]) j hj]
 exact (List.getElem?_eq_getElem (by exact hj)).symm.trans hu
theorem aeV {B:Nat} {w:World} {g m:Nat} {d:Array ay} {os:Array Obj} (hg:B≤g) (hB:B≤w.heap.size):Below B w (sortWorldK cellsOf 8 w g 0 m d os):=by
 unfold sortWorldK Go.Sort.putRowK
 have h1:Below B w (Go.Sort.putRow id (Go.Sort.ahead w m) g 0 (Go.Sort.flatK cellsOf 8 d)):=Lib.below_putRow (Below.refl B w) hg
 have h2:=(below_grown (Go.Sort.putRow id (Go.Sort.ahead w m) g 0 (Go.Sort.flatK cellsOf 8 d)) 0 os)
 rw [Go.Sort.ahead_zero] at h2
 exact h1.trans (h2.mono (Nat.le_trans hB h1.size))
set_option maxHeartbeats 2000000 in
theorem ak9 (B:Nat) (A:Option Addr) (n c:Nat) (ss:List ay) (w:World) (ho:eP B w A n c ss) (hB:B≤w.heap.size) (hm:n≤1000000) :
  Calls Tryz.prog 173 #[.slice A n c,.func (.func 149) #[] #[]] w (aem B w A n c ss):=by
 have hrow:=ho.row
 have hl:=ho.len
 rcases Nat.eq_zero_or_pos n with h0 | hpos
 ·subst h0
  have hcon:=AnyF.slices_SortFunc_none Sh.sortSpans A c (.func (.func 149) #[] #[]) w
  refine Calls.mono hcon ?_
  rintro e w' ⟨rfl,rfl⟩
  exact ⟨rfl,ss,List.Perm.refl _,fun i j _ hj=>absurd hj (by omega),hrow,Below.refl _ _⟩
 ·obtain ⟨g,rfl,hg,hlt⟩:∃ g,A=some ⟨g,0,none⟩∧B≤g∧g<w.heap.size:=by
   obtain ⟨hx,⟨e',_⟩ | ⟨g,cap,cur,e',hg,hh,_⟩⟩:=ho
   ·injection e' with a b c
    omega
   ·injection e' with a b c
    exact ⟨g,a,hg,(Array.getElem?_eq_some_iff.1 hh).1⟩
  have hH:=agi hrow (fun o=>World.ownsRow.frozenAt ho o)
  have hcon:=AnyQ.slices_SortFunc Sh.sortSpans 8 Tryz.isAgg122 Tryz.sizeOf122 cellsOf (fun _=>rfl) (fun x v hv=>aa5 x v hv) oC alp 149 #[] g 0 c ss.toArray w
   (enters_of Tryz.func149 (by kernel_rfl) rfl) (fun _ _ _ _ x y=>aeY x y _) hH hlt (by simp;omega)
  have hsz:ss.toArray.size=n:=by simpa using hl
  rw [hsz] at hcon
  refine Calls.mono hcon ?_
  rintro e w' ⟨rfl,d',m,os,hp,hs,rfl⟩
  have hd:d'.size=n:=by rw [hp.1,hsz]
  refine ⟨rfl,d'.toList,?_,?_,?_,aeV hg hB⟩
  ·have h3:=hp.2.2
   rw [show d'.extract 0 n=d' by rw [← hd];simp,show ss.toArray.extract 0 n=ss.toArray by rw [← hsz];simp] at h3
   simpa using h3
  ·intro i j hij hj
   have hj':j<d'.size:=by simpa using hj
   have h4:=hs i j (Nat.zero_le _) hij (by omega)
   rw [uH] at h4
   have e1:d'[j]! = d'[j]:=getElem!_pos d' j hj'
   have e2:d'[i]! = d'[i]'(by omega):=getElem!_pos d' i (by omega)
   rw [e1,e2] at h4
   have:=of_decide_eq_false h4
   simp only [Array.getElem_toList]
   omega
  ·have h5:=holdsK_sortWorldK_c cellsOf 8 w g 0 ss.toArray d' m os hH hlt (by rw [hd,hsz])
   have h6:Go.Sort.HoldsK cellsOf 8 (sortWorldK cellsOf 8 w g 0 m d' os) g 0 d'.toList.toArray:=by simpa using h5
   exact akn h6 (by simpa using hd) hrow.cap hrow.max
end Go.Proofs.YtpcmlopbkehffaaGreat
namespace Go.Proofs.YtpcmlopbkehffaaGreat
open Go.RowKit Ru
set_option maxHeartbeats 1000000 in
theorem ahL (n:Nat) (w:World):Calls Tryz.prog 131 #[.int .u64 (n:Nat)] w fun e w'=>e = .returned (.int .u64 (n:Nat))∧Below w.heap.size w w':=by
 go_enter Tryz.func131,Tryz.ntmps131
 go_wp2_with fail
 go_ret
 exact ⟨rfl,Below.refl _ _⟩
set_option maxHeartbeats 1000000 in
theorem ahN (s:ay) (w:World):Calls Tryz.prog 152 #[jv s] w fun e w'=>e = .returned (.int .u64 (s.id:Nat))∧Below w.heap.size w w':=by
 go_enter Tryz.func152,Tryz.ntmps152
 go_wp2_with fail
 go_ret
 exact ⟨rfl,(Below.refl _ _).alloc (Nat.le_refl _) _⟩
set_option maxHeartbeats 1000000 in
theorem ahM (s:aJ) (w:World):Calls Tryz.prog 154 #[rR s] w fun e w'=>e = .returned (.int .u64 (s.id:Nat))∧Below w.heap.size w w':=by
 go_enter Tryz.func154,Tryz.ntmps154
 go_wp2_with fail
 go_ret
 exact ⟨rfl,(Below.refl _ _).alloc (Nat.le_refl _) _⟩
set_option maxRecDepth 20000 in
set_option maxHeartbeats 2000000 in
theorem aki (A:Option Addr) (n c:Nat) (l:List Nat) (w:World) (hs:Row w A n c (eG l)) :
  Calls Tryz.prog 130 #[.slice A n c,.func (.func 131) #[] #[]] w (iw w (eB l)):=by
 obtain rfl:n=l.length:=by rw [← hs.len];simp [eG]
 have eg:∀ args w,(callFunc 131 args).run Tryz.prog w = .ok (.enter 131 args) w:=enters_of Tryz.func131 (by kernel_rfl) rfl
 have Hs:=aj hs
 have hle:=hs.cap
 have hmx:=hs.max
 clear hs
 go_enter Tryz.func130,Tryz.ntmps130
 go_wp2_with fail
 go_loopw [5,11] (fun vl vi wr=>∃ (k a:Nat),k≤l.length∧vl = .int .u64 (a:Nat)∧vi = .int .i64 (k:Nat)∧Hid (eB l=ig a (l.drop k))∧Hid (Below w.heap.size w wr)) (fun _ vi _=>l.length-(intOf vi).toNat)
 case atStart=>exact ⟨0,0,Nat.zero_le _,rfl,rfl,aj rfl,aj (Below.refl _ _)⟩
 case round =>
  obtain ⟨k,a,hk,rfl,rfl,Hr,Hw⟩:=hrel
  by_cases hlt:k<l.length
  ·obtain ⟨b,off,rfl,hc⟩:=(Hs.out.below Hw.out).at_ (k:=k) (by simpa [eG] using hlt)
   have c0:wr.cell? ⟨b,off+k,none⟩=some (.int .u64 (l[k]:Nat)):=by rw [hc];simp [eG]
   clear hc
   have Hd:=aj (show l.drop k=l[k]::l.drop (k+1) from List.drop_eq_getElem_cons hlt)
   have x1:(k:Int)<(l.length:Int):=by omega
   have x2:(0:Int)≤(k:Int):=by omega
   have Hc:=aj (fun W=>ahL l[k] W)
   by_cases hx:l[k]≤a
   ·have Hf:=aj (show eB l=false by rw [Hr.out,Hd.out,sH hx])
    have e1:decide (l[k]≤a)=true:=decide_eq_true hx
    clear hx
    generalize l[k]=s at *
    go_wp2_with (go_at_fn 131;(with_reducible refine Calls.mono (Hc.out _) ?_);rintro e w2 ⟨rfl,hb2⟩;have Hw2:=aj (show Below w.heap.size w w2 from Hw.out.trans (hb2.mono Hw.out.size));clear hb2)
    go_ret
    exact aD Hf.out Hw2.out
   ·have Hf:=aj (show eB l=ig l[k] (l.drop (k+1)) by rw [Hr.out,Hd.out,sI (by omega)])
    have e1:decide (l[k]≤a)=false:=decide_eq_false hx
    clear hx
    generalize l[k]=s at *
    go_wp2_with (go_at_fn 131;(with_reducible refine Calls.mono (Hc.out _) ?_);rintro e w2 ⟨rfl,hb2⟩;have Hw2:=aj (show Below w.heap.size w w2 from Hw.out.trans (hb2.mono Hw.out.size));clear hb2)
    go_roundw
    case rel=>exact ⟨k+1,s,by omega,rfl,by go_num,Hf,Hw2⟩
    case measure=>simp [intOf] <;> omega
  ·obtain rfl:k=l.length:=by omega
   have Hf:=aj (show eB l=true by rw [Hr.out,List.drop_eq_nil_of_le (by simp)];rfl)
   go_wp2_with fail
   go_ret
   exact aD Hf.out Hw.out
set_option maxRecDepth 20000 in
set_option maxHeartbeats 2000000 in
theorem akm (A:Option Addr) (n c:Nat) (l:List ay) (w:World) (hs:bW w A n c l) :
  Calls Tryz.prog 151 #[.slice A n c,.func (.func 152) #[] #[]] w (iw w (eB (l.map ay.id))):=by
 obtain rfl:=hs.len
 have eg:∀ args w,(callFunc 152 args).run Tryz.prog w = .ok (.enter 152 args) w:=enters_of Tryz.func152 (by kernel_rfl) rfl
 have Hs:=aj hs
 have hle:=hs.cap
 have hmx:=hs.max
 clear hs
 go_enter Tryz.func151,Tryz.ntmps151
 go_wp2_with fail
 go_loopw [5,11] (fun vl vi wr=>∃ (k a:Nat),k≤l.length∧vl = .int .u64 (a:Nat)∧vi = .int .i64 (k:Nat)∧Hid (eB (l.map ay.id)=ig a ((l.map ay.id).drop k))∧Hid (Below w.heap.size w wr)) (fun _ vi _=>l.length-(intOf vi).toNat)
 case atStart=>exact ⟨0,0,Nat.zero_le _,rfl,rfl,aj rfl,aj (Below.refl _ _)⟩
 case round =>
  obtain ⟨k,a,hk,rfl,rfl,Hr,Hw⟩:=hrel
  by_cases hlt:k<l.length
  ·obtain ⟨b,off,rfl,hc⟩:=(Hs.out.below Hw.out).at_ hlt
   obtain ⟨c0,c1,c2,c3,c4,c5,c6,c7⟩:=hc
   have Hd:=aj (show (l.map ay.id).drop k=l[k].id::(l.map ay.id).drop (k+1) from by rw [List.drop_eq_getElem_cons (by simpa using hlt)];simp)
   have x1:(k:Int)<(l.length:Int):=by omega
   have x2:(0:Int)≤(k:Int):=by omega
   have Hc:=aj (fun W=>ahN l[k] W)
   by_cases hx:l[k].id≤a
   ·have Hf:=aj (show eB (l.map ay.id)=false by rw [Hr.out,Hd.out,sH hx])
    have e1:decide (l[k].id≤a)=true:=decide_eq_true hx
    clear hx
    generalize l[k]=s at *
    go_wp2_with (go_at_fn 152;(with_reducible refine Calls.mono (Hc.out _) ?_);rintro e w2 ⟨rfl,hb2⟩;have Hw2:=aj (show Below w.heap.size w w2 from (Hw.out.alloc Hw.out.size _).trans (hb2.mono (Hw.out.alloc Hw.out.size _).size));clear hb2)
    go_ret
    exact aD Hf.out Hw2.out
   ·have Hf:=aj (show eB (l.map ay.id)=ig l[k].id ((l.map ay.id).drop (k+1)) by rw [Hr.out,Hd.out,sI (by omega)])
    have e1:decide (l[k].id≤a)=false:=decide_eq_false hx
    clear hx
    generalize l[k]=s at *
    go_wp2_with (go_at_fn 152;(with_reducible refine Calls.mono (Hc.out _) ?_);rintro e w2 ⟨rfl,hb2⟩;have Hw2:=aj (show Below w.heap.size w w2 from (Hw.out.alloc Hw.out.size _).trans (hb2.mono (Hw.out.alloc Hw.out.size _).size));clear hb2)
    go_roundw
    case rel=>exact ⟨k+1,s.id,by omega,rfl,by go_num,Hf,Hw2⟩
    case measure=>simp [intOf] <;> omega
  ·obtain rfl:k=l.length:=by omega
   have Hf:=aj (show eB (l.map ay.id)=true by rw [Hr.out,List.drop_eq_nil_of_le (by simp)];rfl)
   go_wp2_with fail
   go_ret
   exact aD Hf.out Hw.out
set_option maxRecDepth 20000 in
set_option maxHeartbeats 2000000 in
theorem akj (A:Option Addr) (n c:Nat) (l:List aJ) (w:World) (hs:eO w A n c l) :
  Calls Tryz.prog 153 #[.slice A n c,.func (.func 154) #[] #[]] w (iw w (eB (l.map aJ.id))):=by
 obtain rfl:=hs.len
 have eg:∀ args w,(callFunc 154 args).run Tryz.prog w = .ok (.enter 154 args) w:=enters_of Tryz.func154 (by kernel_rfl) rfl
 have Hs:=aj hs
 have hle:=hs.cap
 have hmx:=hs.max
 clear hs
 go_enter Tryz.func153,Tryz.ntmps153
 go_wp2_with fail
 go_loopw [5,11] (fun vl vi wr=>∃ (k a:Nat),k≤l.length∧vl = .int .u64 (a:Nat)∧vi = .int .i64 (k:Nat)∧Hid (eB (l.map aJ.id)=ig a ((l.map aJ.id).drop k))∧Hid (Below w.heap.size w wr)) (fun _ vi _=>l.length-(intOf vi).toNat)
 case atStart=>exact ⟨0,0,Nat.zero_le _,rfl,rfl,aj rfl,aj (Below.refl _ _)⟩
 case round =>
  obtain ⟨k,a,hk,rfl,rfl,Hr,Hw⟩:=hrel
  by_cases hlt:k<l.length
  ·obtain ⟨b,off,rfl,hc⟩:=(Hs.out.below Hw.out).at_ hlt
   obtain ⟨c0,c1,c2⟩:=hc
   have Hd:=aj (show (l.map aJ.id).drop k=l[k].id::(l.map aJ.id).drop (k+1) from by rw [List.drop_eq_getElem_cons (by simpa using hlt)];simp)
   have x1:(k:Int)<(l.length:Int):=by omega
   have x2:(0:Int)≤(k:Int):=by omega
   have Hc:=aj (fun W=>ahM l[k] W)
   by_cases hx:l[k].id≤a
   ·have Hf:=aj (show eB (l.map aJ.id)=false by rw [Hr.out,Hd.out,sH hx])
    have e1:decide (l[k].id≤a)=true:=decide_eq_true hx
    clear hx
    generalize l[k]=s at *
    go_wp2_with (go_at_fn 154;(with_reducible refine Calls.mono (Hc.out _) ?_);rintro e w2 ⟨rfl,hb2⟩;have Hw2:=aj (show Below w.heap.size w w2 from (Hw.out.alloc Hw.out.size _).trans (hb2.mono (Hw.out.alloc Hw.out.size _).size));clear hb2)
    go_ret
    exact aD Hf.out Hw2.out
   ·have Hf:=aj (show eB (l.map aJ.id)=ig l[k].id ((l.map aJ.id).drop (k+1)) by rw [Hr.out,Hd.out,sI (by omega)])
    have e1:decide (l[k].id≤a)=false:=decide_eq_false hx
    clear hx
    generalize l[k]=s at *
    go_wp2_with (go_at_fn 154;(with_reducible refine Calls.mono (Hc.out _) ?_);rintro e w2 ⟨rfl,hb2⟩;have Hw2:=aj (show Below w.heap.size w w2 from (Hw.out.alloc Hw.out.size _).trans (hb2.mono (Hw.out.alloc Hw.out.size _).size));clear hb2)
    go_roundw
    case rel=>exact ⟨k+1,s.id,by omega,rfl,by go_num,Hf,Hw2⟩
    case measure=>simp [intOf] <;> omega
  ·obtain rfl:k=l.length:=by omega
   have Hf:=aj (show eB (l.map aJ.id)=true by rw [Hr.out,List.drop_eq_nil_of_le (by simp)];rfl)
   go_wp2_with fail
   go_ret
   exact aD Hf.out Hw.out
end Go.Proofs.YtpcmlopbkehffaaGreat
namespace Go.Proofs.YtpcmlopbkehffaaGreat
open Go.RowKit Ru
theorem adu:∀ (l:List Nat) (a:Nat),ig a l=true ↔ (∀ x∈l,a<x)∧l.Pairwise (· < ·)
 | [],a=>by simp [ig]
 | x :: r,a=>by
   rw [ig,Bool.and_eq_true,decide_eq_true_eq,adu r x,List.pairwise_cons]
   constructor
   ·rintro ⟨h1,h2,h3⟩
    refine ⟨fun y hy=>?_,h2,h3⟩
    rcases List.mem_cons.1 hy with rfl | hy
    ·exact h1
    ·have:=h2 y hy;omega
   ·rintro ⟨h1,h2,h3⟩
    exact ⟨h1 x (by simp),h2,h3⟩
theorem akl {l:List Nat} (h:l.Pairwise (· ≤ ·)):eB l=(decide l.Nodup&&l.all fun x=>decide (0<x)):=by
 rw [Bool.eq_iff_iff,Bool.and_eq_true,decide_eq_true_eq,List.all_eq_true]
 unfold eB
 rw [adu]
 simp only [decide_eq_true_eq]
 constructor
 ·rintro ⟨h1,h2⟩
  exact ⟨h2.imp (fun h=>Nat.ne_of_lt h),h1⟩
 ·rintro ⟨h1,h2⟩
  refine ⟨h2,?_⟩
  have:=h.and h1
  exact this.imp fun ⟨a,b⟩=>Nat.lt_of_le_of_ne a b
theorem akk {ss ss':List ay} (hp:ss'.Perm ss) (hs:qC ss'):eB (ss'.map ay.id)=(decide (ss.map ay.id).Nodup&&(ss.map ay.id).all fun x=>decide (0<x)):=by
 rw [akl]
 ·have hm:=hp.map ay.id
  rw [decide_eq_decide.2 hm.nodup_iff]
  congr 1
  rw [Bool.eq_iff_iff,List.all_eq_true,List.all_eq_true]
  exact ⟨fun h x hx=>h x (hm.mem_iff.2 hx),fun h x hx=>h x (hm.mem_iff.1 hx)⟩
 ·rw [List.pairwise_map,List.pairwise_iff_getElem]
  intro i j hi hj hij
  exact hs i j hij hj
def gN (tr:Nat) (s:ay):Bool:=decide (s.trace=tr)&&(fq s==0)
def jg (tr:Nat) (ss:List ay):Bool:=ss.all (gN tr)&&decide (ss.map ay.id).Nodup
theorem ah3 {tr:Nat} {s:ay} (h:gN tr s=true):0<s.id:=by
 unfold gN at h
 rw [Bool.and_eq_true,beq_iff_eq] at h
 have:=(wG (akh h.2).1).2.1
 omega
theorem alg {tr:Nat} {ss ss':List ay} (ha:∀ j (hj:j<ss.length),gN tr ss[j]=true) (hp:ss'.Perm ss) (hs:qC ss'):jg tr ss=eB (ss'.map ay.id):=by
 have h1:ss.all (gN tr)=true:=List.all_eq_true.2 fun s h=>by
  obtain ⟨j,hj,rfl⟩:=List.getElem_of_mem h
  exact ha j hj
 have h2:((ss.map ay.id).all fun x=>decide (0<x))=true:=List.all_eq_true.2 fun x hx=>by
  obtain ⟨s,h,rfl⟩:=List.mem_map.1 hx
  exact decide_eq_true (ah3 (List.all_eq_true.1 h1 s h))
 rw [akk hp hs,h2,Bool.and_true]
 unfold jg
 rw [h1,Bool.true_and]
theorem adR {tr:Nat} {ss:List ay} {s:ay} (hm:s∈ss) (h:gN tr s=false):jg tr ss=false:=by
 unfold jg
 rw [List.all_eq_false.2 ⟨s,hm,by rw [h];decide⟩]
 rfl
set_option maxHeartbeats 1000000 in
theorem al4 (A:Option Addr) (n c:Nat) (w:World):Calls Tryz.prog 148 #[.slice A n c] w fun e w'=>e = .returned (.func (.func 174) #[] #[.pointer (some ⟨w.heap.size,0,none⟩)])∧w'=w.alloc (.cells #[.slice A n c] 37):=by
 go_enter Tryz.func148,Tryz.ntmps148
 go_wp2_with fail
 go_ret
 exact ⟨rfl,rfl⟩
def aen (w:World) (ss:List ay) (e:Ending) (w':World):Prop:=∃ A c ss',e = .returned (.slice A ss.length c)∧ss'.Perm ss∧qC ss'∧bW w' A ss.length c ss'∧Below w.heap.size w w'
set_option maxHeartbeats 1000000 in
theorem ak8 (Bs:Nat) (A0:Option Addr) (c0:Nat) (ss:List ay) (w:World) (hs:bW w A0 ss.length c0 ss) (hb:Whole w Bs 37 #[.slice A0 ss.length c0]) (hm:ss.length≤1000000) :
  Calls Tryz.prog 147 #[.func (.func 174) #[] #[.pointer (some ⟨Bs,0,none⟩)],.func (.func 149) #[] #[]] w (aen w ss):=by
 have Hc:=aj (afi Bs A0 c0 ss w hs hb hm)
 clear hs hb
 go_enter Tryz.func147,Tryz.ntmps147
 go_wp2_with fail
 refine Calls.mono Hc.out ?_
 rintro e w1 ⟨A,c,rfl,ho,hb1⟩
 have Hs:=aj (ak9 w.heap.size A ss.length c ss w1 ho hb1.size hm)
 have Hb1:=aj hb1
 clear ho hb1
 go_wp2_with fail
 refine Calls.mono Hs.out ?_
 rintro e w2 ⟨rfl,ss',hp,hs',hr,hb2⟩
 have Hp:=aj hp
 have Hs':=aj hs'
 have Hr:=aj hr
 have Hb2:=aj (Hb1.out.trans hb2)
 clear hp hs' hr hb2
 go_wp2_with fail
 go_ret
 exact ⟨A,c,ss',rfl,Hp.out,Hs'.out,Hr.out,Hb2.out⟩
theorem sD {a b:Bool} (h:a=b):Ending.returned (.bool b) = .returned (.bool a):=by rw [h]
def gu (is:Bool) (n m:Nat):Bool:=if is=true then decide (1≤n)&&decide (n≤m) else decide (n=0)
set_option maxHeartbeats 1000000 in
theorem agJ (is:Bool) (n m:Nat) (w:World):Calls Tryz.prog 127 #[.bool is,.int .i64 (n:Nat),.int .i64 (m:Nat)] w fun e w'=>e = .returned (.bool (gu is n m))∧w=w':=by
 cases is
 ·by_cases h:n=0
  ·have Hk:=aj (show gu false n m=true by unfold gu;rw [if_neg (by decide),decide_eq_true h])
   have e1:((n:Int)==0)=true:=by rw [beq_iff_eq];omega
   clear h
   go_enter Tryz.func127,Tryz.ntmps127
   go_wp2_with fail
   go_ret
   exact ⟨sD Hk.out,rfl⟩
  ·have Hk:=aj (show gu false n m=false by unfold gu;rw [if_neg (by decide),decide_eq_false h])
   have e1:((n:Int)==0)=false:=by rw [beq_eq_false_iff_ne];omega
   clear h
   go_enter Tryz.func127,Tryz.ntmps127
   go_wp2_with fail
   go_ret
   exact ⟨sD Hk.out,rfl⟩
 ·by_cases h:1≤n
  ·have e1:decide ((1:Int)≤(n:Int))=true:=decide_eq_true (by omega)
   by_cases h2:n≤m
   ·have Hk:=aj (show gu true n m=true by unfold gu;rw [if_pos rfl,decide_eq_true h,decide_eq_true h2];rfl)
    have e2:decide (n≤m)=true:=decide_eq_true h2
    clear h h2
    go_enter Tryz.func127,Tryz.ntmps127
    go_wp2_with fail
    go_ret
    exact ⟨sD Hk.out,rfl⟩
   ·have Hk:=aj (show gu true n m=false by unfold gu;rw [if_pos rfl,decide_eq_false h2];simp)
    have e2:decide (n≤m)=false:=decide_eq_false h2
    clear h h2
    go_enter Tryz.func127,Tryz.ntmps127
    go_wp2_with fail
    go_ret
    exact ⟨sD Hk.out,rfl⟩
  ·have e1:decide ((1:Int)≤(n:Int))=false:=decide_eq_false (by omega)
   have Hk:=aj (show gu true n m=false by unfold gu;rw [if_pos rfl,decide_eq_false h];rfl)
   clear h
   go_enter Tryz.func127,Tryz.ntmps127
   go_wp2_with fail
   go_ret
   exact ⟨sD Hk.out,rfl⟩
theorem xM (is:Bool) (n:Nat) (w:World):Calls Tryz.prog 127 #[.bool is,.int .i64 (n:Nat),.int .i64 16] w fun e w'=>e = .returned (.bool (gu is n 16))∧w=w':=agJ is n 16 w
set_option maxRecDepth 20000 in
set_option maxHeartbeats 4000000 in
theorem alh (tr:Nat) (A:Option Addr) (n c:Nat) (ss:List ay) (w:World) (hs:bW w A n c ss) (hw:∀ s∈ss,s.Wf) (hm:n≤1000000) :
  Calls Tryz.prog 128 #[.int .u64 (tr:Nat),.slice A n c] w (iw w (jg tr ss)):=by
 obtain rfl:=hs.len
 have Hs:=aj hs
 have hle:=hs.cap
 have hmx:=hs.max
 have Hr:=aj (fun W s (h:s∈ss)=>zw s W (hw s h))
 have Hbad:=aj (fun s (h:s∈ss) (h2:gN tr s=false)=>adR h h2)
 clear hs hw
 go_enter Tryz.func128,Tryz.ntmps128
 go_wp2_with fail
 go_loopw [10] (fun vi wr=>∃ k:Nat,k≤ss.length∧vi = .int .i64 (k:Nat)∧Hid (∀ j (hj:j<ss.length),j<k→gN tr ss[j]=true)∧Hid (Below w.heap.size w wr)) (fun vi _=>ss.length-(intOf vi).toNat)
 case atStart=>exact ⟨0,Nat.zero_le _,rfl,aj (fun j _ h=>absurd h (by omega)),aj (Below.refl _ _)⟩
 case round =>
  obtain ⟨k,hk,rfl,Hg,Hw⟩:=hrel
  by_cases hlt:k<ss.length
  ·obtain ⟨b,off,rfl,hc⟩:=(Hs.out.below Hw.out).at_ hlt
   obtain ⟨c0,c1,c2,c3,c4,c5,c6,c7⟩:=hc
   have x1:(k:Int)<(ss.length:Int):=by omega
   have x2:(0:Int)≤(k:Int):=by omega
   have Hc:=aj (fun W=>Hr.out W ss[k] (List.getElem_mem hlt))
   have Hb:=aj (Hbad.out ss[k] (List.getElem_mem hlt))
   have Hn:=aj (fun (h:gN tr ss[k]=true)=>show ∀ j (hj:j<ss.length),j<k+1→gN tr ss[j]=true from fun j hj h2=>by
    by_cases e:j=k
    ·subst e;exact h
    ·exact Hg.out j hj (by omega))
   have Hw1:=aj (fun (o:Obj)=>show Below w.heap.size w (wr.alloc o) from Hw.out.alloc Hw.out.size _)
   by_cases ht:ss[k].trace=tr
   ·have e1:(((ss[k].trace:Nat):Int) != (tr:Int))=false:=by rw [ht];simp
    by_cases hr:fq ss[k]=0
    ·have Hn2:=aj (Hn.out (by unfold gN;rw [decide_eq_true ht,hr];rfl))
     rw [hr] at Hc
     clear ht hr
     generalize ss[k]=s at *
     go_wp2_with fail
     refine Calls.mono (Hc.out _) ?_
     rintro e w2 ⟨rfl,hb2⟩
     have Hw2:=aj ((Hw1.out _).trans (hb2.mono (Hw1.out _).size))
     clear hb2 c0 c1 c2 c3 c4 c5 c6 c7
     go_wp2_with fail
     go_roundw
     case rel=>exact ⟨k+1,by omega,by go_num,Hn2,Hw2⟩
     case measure=>simp [intOf] <;> omega
    ·have Hf:=aj (Hb.out (by unfold gN;rw [show (fq ss[k]==0)=false from beq_eq_false_iff_ne.2 hr];simp))
     have e2:(fq ss[k] != 0)=true:=bne_iff_ne.2 hr
     clear ht hr
     generalize hq:fq ss[k]=q at *
     clear hq
     generalize ss[k]=s at *
     go_wp2_with fail
     refine Calls.mono (Hc.out _) ?_
     rintro e w2 ⟨rfl,hb2⟩
     have Hw2:=aj ((Hw1.out _).trans (hb2.mono (Hw1.out _).size))
     clear hb2 c0 c1 c2 c3 c4 c5 c6 c7
     go_wp2_with fail
     go_ret
     exact aD Hf.out Hw2.out
   ·have Hf:=aj (Hb.out (by unfold gN;rw [decide_eq_false ht];rfl))
    have e1:(((ss[k].trace:Nat):Int) != (tr:Int))=true:=by rw [bne_iff_ne];omega
    clear ht
    generalize ss[k]=s at *
    go_wp2_with fail
    go_ret
    exact aD Hf.out (Hw1.out _)
  ·obtain rfl:k=ss.length:=by omega
   have Hv:=aj (fun W=>al4 A ss.length c W)
   have Hsf:=aj (fun (W:World) (hb:Below w.heap.size w W)=>ak8 W.heap.size A c ss (W.alloc (.cells #[.slice A ss.length c] 37)) (Hs.out.below (hb.alloc hb.size _)) (aP W _ _) hm)
   have Hgood:=aj (fun ss' (hp:ss'.Perm ss) (hs':qC ss')=>alg (tr:=tr) (fun j hj=>Hg.out j hj hj) hp hs')
   go_wp2_with fail
   refine Calls.mono (Hv.out _) ?_
   rintro e w1 ⟨rfl,rfl⟩
   go_wp2_with fail
   refine Calls.mono (Hsf.out _ Hw.out) ?_
   rintro e w2 ⟨A2,c2,ss',rfl,hp,hs',hr,hb2⟩
   have Hri:=aj (akm A2 ss.length c2 ss' w2 hr)
   rw [← Hgood.out ss' hp hs'] at Hri
   have Hw2:=aj ((Hw.out.alloc Hw.out.size _).trans (hb2.mono (Hw.out.alloc Hw.out.size _).size))
   clear hp hs' hr hb2
   go_wp2_with fail
   refine Calls.mono Hri.out ?_
   rintro e w3 ⟨rfl,hb3⟩
   go_wp2_with fail
   go_ret
   exact aD rfl (Hw2.out.trans (hb3.mono Hw2.out.size))
end Go.Proofs.YtpcmlopbkehffaaGreat
namespace Go.Proofs.YtpcmlopbkehffaaGreat
open Go.RowKit Ru
structure iU where
 trace:Bool
 jP:Bool
 answer:Bool
 verdict:Bool
 spans:Bool
 members:Bool
 ids:Bool
 deriving DecidableEq
abbrev rX (h:iU):Value := .agg #[.bool h.trace,.bool h.jP,.bool h.answer,.bool h.verdict,.bool h.spans,.bool h.members,.bool h.ids]
def yR (h:iU):Array Value:=#[.bool h.trace,.bool h.jP,.bool h.answer,.bool h.verdict,.bool h.spans,.bool h.members,.bool h.ids]
def aV (k:Int):iU :=
 if k=1 then ⟨true,false,false,false,true,false,false⟩ else
 if k=2 then ⟨true,false,false,false,true,false,false⟩ else
 if k=3 then ⟨false,false,false,false,false,true,false⟩ else
 if k=4 then ⟨true,true,false,false,false,false,false⟩ else
 if k=5 then ⟨true,true,true,true,false,false,false⟩ else
 if k=6 then ⟨true,true,false,true,false,false,false⟩ else
 if k=7 then ⟨true,true,true,false,false,false,false⟩ else
 if k=8 then ⟨true,false,false,true,false,false,false⟩ else
 if k=9 then ⟨true,true,false,false,true,false,false⟩ else
 if k=10 then ⟨true,false,false,false,false,false,true⟩ else
 ⟨false,false,false,false,false,false,false⟩
theorem aiG:aV 1=⟨true,false,false,false,true,false,false⟩:=by unfold aV;simp
theorem aiI:aV 2=⟨true,false,false,false,true,false,false⟩:=by unfold aV;simp
theorem aiJ:aV 3=⟨false,false,false,false,false,true,false⟩:=by unfold aV;simp
theorem ac1:aV 4=⟨true,true,false,false,false,false,false⟩:=by unfold aV;simp
theorem aiK:aV 5=⟨true,true,true,true,false,false,false⟩:=by unfold aV;simp
theorem ac2:aV 6=⟨true,true,false,true,false,false,false⟩:=by unfold aV;simp
theorem aiL:aV 7=⟨true,true,true,false,false,false,false⟩:=by unfold aV;simp
theorem aiM:aV 8=⟨true,false,false,true,false,false,false⟩:=by unfold aV;simp
theorem aiN:aV 9=⟨true,true,false,false,true,false,false⟩:=by unfold aV;simp
theorem aiH:aV 10=⟨true,false,false,false,false,false,true⟩:=by unfold aV;simp
theorem ac3 {k:Int} (h:¬ (1≤k∧k≤10)):aV k=⟨false,false,false,false,false,false,false⟩:=by
 unfold aV
 rw [if_neg (by omega)]
 rw [if_neg (by omega)]
 rw [if_neg (by omega)]
 rw [if_neg (by omega)]
 rw [if_neg (by omega)]
 rw [if_neg (by omega)]
 rw [if_neg (by omega)]
 rw [if_neg (by omega)]
 rw [if_neg (by omega)]
 rw [if_neg (by omega)]
theorem rH {k:Int} (h:1≤k∧k≤10):k=1∨k=2∨k=3∨k=4∨k=5∨k=6∨k=7∨k=8∨k=9∨k=10:=by omega
def vS (w:World) (h:iU) (e:Ending) (w':World):Prop:=e = .returned (rX h)∧Below w.heap.size w w'
theorem kT {w w':World} {h:iU} {v:Value} (e:rX h=v) (hb:Below w.heap.size w w'):vS w h (.returned v) w':=⟨by rw [e],hb⟩
set_option maxRecDepth 20000 in
set_option maxHeartbeats 4000000 in
theorem aiQ (k:Int) (w:World):Calls Tryz.prog 91 #[.int .i64 k] w (vS w (aV k)):=by
 by_cases h:1≤k∧k≤10
 ·rcases rH h with rfl | rfl | rfl | rfl | rfl | rfl | rfl | rfl | rfl | rfl
  ·have Hk:=aj aiG
   go_enter Tryz.func91,Tryz.ntmps91
   go_wp2_with fail
   exact bodyPost_ret (v := .agg #[.bool true,.bool false,.bool false,.bool false,.bool true,.bool false,.bool false]) (by simp [results,Tryz.results91,go_sem]) rfl (kT (by rw [Hk.out]) (by repeat (first | exact Below.refl _ _ | refine Below.setCell ?_ (Nat.le_refl _) _ | refine Below.alloc ?_ (Nat.le_refl _) _)))
  ·have Hk:=aj aiI
   go_enter Tryz.func91,Tryz.ntmps91
   go_wp2_with fail
   exact bodyPost_ret (v := .agg #[.bool true,.bool false,.bool false,.bool false,.bool true,.bool false,.bool false]) (by simp [results,Tryz.results91,go_sem]) rfl (kT (by rw [Hk.out]) (by repeat (first | exact Below.refl _ _ | refine Below.setCell ?_ (Nat.le_refl _) _ | refine Below.alloc ?_ (Nat.le_refl _) _)))
  ·have Hk:=aj aiJ
   go_enter Tryz.func91,Tryz.ntmps91
   go_wp2_with fail
   exact bodyPost_ret (v := .agg #[.bool false,.bool false,.bool false,.bool false,.bool false,.bool true,.bool false]) (by simp [results,Tryz.results91,go_sem]) rfl (kT (by rw [Hk.out]) (by repeat (first | exact Below.refl _ _ | refine Below.setCell ?_ (Nat.le_refl _) _ | refine Below.alloc ?_ (Nat.le_refl _) _)))
  ·have Hk:=aj ac1
   go_enter Tryz.func91,Tryz.ntmps91
   go_wp2_with fail
   exact bodyPost_ret (v := .agg #[.bool true,.bool true,.bool false,.bool false,.bool false,.bool false,.bool false]) (by simp [results,Tryz.results91,go_sem]) rfl (kT (by rw [Hk.out]) (by repeat (first | exact Below.refl _ _ | refine Below.setCell ?_ (Nat.le_refl _) _ | refine Below.alloc ?_ (Nat.le_refl _) _)))
  ·have Hk:=aj aiK
   go_enter Tryz.func91,Tryz.ntmps91
   go_wp2_with fail
   exact bodyPost_ret (v := .agg #[.bool true,.bool true,.bool true,.bool true,.bool false,.bool false,.bool false]) (by simp [results,Tryz.results91,go_sem]) rfl (kT (by rw [Hk.out]) (by repeat (first | exact Below.refl _ _ | refine Below.setCell ?_ (Nat.le_refl _) _ | refine Below.alloc ?_ (Nat.le_refl _) _)))
  ·have Hk:=aj ac2
   go_enter Tryz.func91,Tryz.ntmps91
   go_wp2_with fail
   exact bodyPost_ret (v := .agg #[.bool true,.bool true,.bool false,.bool true,.bool false,.bool false,.bool false]) (by simp [results,Tryz.results91,go_sem]) rfl (kT (by rw [Hk.out]) (by repeat (first | exact Below.refl _ _ | refine Below.setCell ?_ (Nat.le_refl _) _ | refine Below.alloc ?_ (Nat.le_refl _) _)))
  ·have Hk:=aj aiL
   go_enter Tryz.func91,Tryz.ntmps91
   go_wp2_with fail
   exact bodyPost_ret (v := .agg #[.bool true,.bool true,.bool true,.bool false,.bool false,.bool false,.bool false]) (by simp [results,Tryz.results91,go_sem]) rfl (kT (by rw [Hk.out]) (by repeat (first | exact Below.refl _ _ | refine Below.setCell ?_ (Nat.le_refl _) _ | refine Below.alloc ?_ (Nat.le_refl _) _)))
  ·have Hk:=aj aiM
   go_enter Tryz.func91,Tryz.ntmps91
   go_wp2_with fail
   exact bodyPost_ret (v := .agg #[.bool true,.bool false,.bool false,.bool true,.bool false,.bool false,.bool false]) (by simp [results,Tryz.results91,go_sem]) rfl (kT (by rw [Hk.out]) (by repeat (first | exact Below.refl _ _ | refine Below.setCell ?_ (Nat.le_refl _) _ | refine Below.alloc ?_ (Nat.le_refl _) _)))
  ·have Hk:=aj aiN
   go_enter Tryz.func91,Tryz.ntmps91
   go_wp2_with fail
   exact bodyPost_ret (v := .agg #[.bool true,.bool true,.bool false,.bool false,.bool true,.bool false,.bool false]) (by simp [results,Tryz.results91,go_sem]) rfl (kT (by rw [Hk.out]) (by repeat (first | exact Below.refl _ _ | refine Below.setCell ?_ (Nat.le_refl _) _ | refine Below.alloc ?_ (Nat.le_refl _) _)))
  ·have Hk:=aj aiH
   go_enter Tryz.func91,Tryz.ntmps91
   go_wp2_with fail
   exact bodyPost_ret (v := .agg #[.bool true,.bool false,.bool false,.bool false,.bool false,.bool false,.bool true]) (by simp [results,Tryz.results91,go_sem]) rfl (kT (by rw [Hk.out]) (by repeat (first | exact Below.refl _ _ | refine Below.setCell ?_ (Nat.le_refl _) _ | refine Below.alloc ?_ (Nat.le_refl _) _)))
 ·have Hk:=aj (ac3 h)
  have e1:(k==1)=false:=by rw [beq_eq_false_iff_ne];omega
  have e2:(k==2)=false:=by rw [beq_eq_false_iff_ne];omega
  have e3:(k==3)=false:=by rw [beq_eq_false_iff_ne];omega
  have e4:(k==4)=false:=by rw [beq_eq_false_iff_ne];omega
  have e5:(k==5)=false:=by rw [beq_eq_false_iff_ne];omega
  have e6:(k==6)=false:=by rw [beq_eq_false_iff_ne];omega
  have e7:(k==7)=false:=by rw [beq_eq_false_iff_ne];omega
  have e8:(k==8)=false:=by rw [beq_eq_false_iff_ne];omega
  have e9:(k==9)=false:=by rw [beq_eq_false_iff_ne];omega
  have e10:(k==10)=false:=by rw [beq_eq_false_iff_ne];omega
  clear h
  go_enter Tryz.func91,Tryz.ntmps91
  go_wp2_with fail
  exact bodyPost_ret (v := .agg #[.bool false,.bool false,.bool false,.bool false,.bool false,.bool false,.bool false]) (by simp [results,Tryz.results91,go_sem]) rfl (kT (by rw [Hk.out]) (by repeat (first | exact Below.refl _ _ | refine Below.setCell ?_ (Nat.le_refl _) _ | refine Below.alloc ?_ (Nat.le_refl _) _)))
def iZ (m:aJ):Bool:=decide (0<m.inc)&&(decide (0≤m.state)&&decide (m.state≤2))
def jV (ms:List aJ):Bool:=ms.all iZ&&eB (ms.map aJ.id)
theorem acv {ms:List aJ} {m:aJ} (hm:m∈ms) (h:iZ m=false):jV ms=false:=by
 unfold jV
 rw [List.all_eq_false.2 ⟨m,hm,by rw [h];decide⟩]
 rfl
theorem acw {ms:List aJ} (h:∀ j (hj:j<ms.length),iZ ms[j]=true):jV ms=eB (ms.map aJ.id):=by
 unfold jV
 rw [List.all_eq_true.2 fun m hm=>by
  obtain ⟨j,hj,rfl⟩:=List.getElem_of_mem hm
  exact h j hj]
 rfl
set_option maxRecDepth 20000 in
set_option maxHeartbeats 4000000 in
theorem ahg (A:Option Addr) (n c:Nat) (ms:List aJ) (w:World) (hs:eO w A n c ms) :
  Calls Tryz.prog 129 #[.slice A n c] w (iw w (jV ms)):=by
 obtain rfl:=hs.len
 have Hs:=aj hs
 have hle:=hs.cap
 have hmx:=hs.max
 have Hbad:=aj (fun s (h:s∈ms) (h2:iZ s=false)=>acv h h2)
 clear hs
 go_enter Tryz.func129,Tryz.ntmps129
 go_wp2_with fail
 go_loopw [7] (fun vi wr=>∃ k:Nat,k≤ms.length∧vi = .int .i64 (k:Nat)∧Hid (∀ j (hj:j<ms.length),j<k→iZ ms[j]=true)∧Hid (Below w.heap.size w wr)) (fun vi _=>ms.length-(intOf vi).toNat)
 case atStart=>exact ⟨0,Nat.zero_le _,rfl,aj (fun j _ h=>absurd h (by omega)),aj (Below.refl _ _)⟩
 case round =>
  obtain ⟨k,hk,rfl,Hg,Hw⟩:=hrel
  by_cases hlt:k<ms.length
  ·obtain ⟨b,off,rfl,hc⟩:=(Hs.out.below Hw.out).at_ hlt
   obtain ⟨c0,c1,c2⟩:=hc
   have x1:(k:Int)<(ms.length:Int):=by omega
   have x2:(0:Int)≤(k:Int):=by omega
   have Hb:=aj (Hbad.out ms[k] (List.getElem_mem hlt))
   have Hn:=aj (fun (h:iZ ms[k]=true)=>show ∀ j (hj:j<ms.length),j<k+1→iZ ms[j]=true from fun j hj h2=>by
    by_cases e:j=k
    ·subst e;exact h
    ·exact Hg.out j hj (by omega))
   have Hw1:=aj (fun (o:Obj)=>show Below w.heap.size w (wr.alloc o) from Hw.out.alloc Hw.out.size _)
   have Hok:=aj (show iZ ms[k]=(decide (0<ms[k].inc)&&(decide (0≤ms[k].state)&&decide (ms[k].state≤2))) from rfl)
   generalize iZ ms[k]=ok at *
   generalize ms[k]=s at *
   by_cases h1:s.inc=0
   ·have Hf:=aj (Hb.out (by rw [Hok.out,decide_eq_false (by omega)];rfl))
    have e1:(((s.inc:Nat):Int)==0)=true:=by rw [beq_iff_eq];omega
    clear h1
    go_wp2_with fail
    go_ret
    exact aD Hf.out (Hw1.out _)
   have e1:(((s.inc:Nat):Int)==0)=false:=by rw [beq_eq_false_iff_ne];omega
   by_cases h2:s.state<0
   ·have Hf:=aj (Hb.out (by rw [Hok.out,decide_eq_false (show ¬ 0≤s.state by omega)];simp))
    have e2:decide (s.state<0)=true:=decide_eq_true h2
    clear h1
    go_wp2_with fail
    go_ret
    exact aD Hf.out (Hw1.out _)
   have e2:decide (s.state<0)=false:=decide_eq_false h2
   by_cases h3:2<s.state
   ·have Hf:=aj (Hb.out (by rw [Hok.out,decide_eq_false (show ¬ s.state≤2 by omega)];simp))
    have e3:decide (2<s.state)=true:=decide_eq_true h3
    clear h1
    go_wp2_with fail
    go_ret
    exact aD Hf.out (Hw1.out _)
   have e3:decide (2<s.state)=false:=decide_eq_false h3
   have Hn2:=aj (Hn.out (by rw [Hok.out,decide_eq_true (by omega),decide_eq_true (by omega),decide_eq_true (by omega)];rfl))
   clear h1
   go_wp2_with fail
   go_roundw
   case rel=>exact ⟨k+1,by omega,by go_num,Hn2,aj (Hw1.out _)⟩
   case measure=>simp [intOf] <;> omega
  ·obtain rfl:k=ms.length:=by omega
   have Hri:=aj (akj A ms.length c ms wr (Hs.out.below Hw.out))
   rw [← acw (fun j hj=>Hg.out j hj hj)] at Hri
   go_wp2_with fail
   refine Calls.mono Hri.out ?_
   rintro e w3 ⟨rfl,hb3⟩
   go_wp2_with fail
   go_ret
   exact aD rfl (Hw.out.trans (hb3.mono Hw.out.size))
end Go.Proofs.YtpcmlopbkehffaaGreat
namespace Go.Proofs.YtpcmlopbkehffaaGreat
open Go.RowKit Ru
structure av where
 kind:Int
 trace:Nat
 bn:Nat
 aZ:Nat
 sn:Nat
 bM:Nat
 v : Int
 ok:Bool
 spans:List ay
 members:List aJ
 ids:List Nat
structure aT where
 a1:Option Addr
 c1:Nat
 a2:Option Addr
 c2:Nat
 a3:Option Addr
 c3:Nat
abbrev aM (p:av) (s:aT):Value := .agg #[.int .i64 p.kind,.int .u64 (p.trace:Nat),.int .u64 (p.bn:Nat),.int .u64 (p.aZ:Nat),.int .u64 (p.sn:Nat),.int .u64 (p.bM:Nat),.int .i64 p.v,.bool p.ok,.slice s.a1 p.spans.length s.c1,.slice s.a2 p.members.length s.c2,.slice s.a3 p.ids.length s.c3]
def bL (p:av) (s:aT):Array Value:=#[.int .i64 p.kind,.int .u64 (p.trace:Nat),.int .u64 (p.bn:Nat),.int .u64 (p.aZ:Nat),.int .u64 (p.sn:Nat),.int .u64 (p.bM:Nat),.int .i64 p.v,.bool p.ok,.slice s.a1 p.spans.length s.c1,.slice s.a2 p.members.length s.c2,.slice s.a3 p.ids.length s.c3]
structure bP (w:World) (p:av) (s:aT):Prop where
 r1:bW w s.a1 p.spans.length s.c1 p.spans
 r2:eO w s.a2 p.members.length s.c2 p.members
 r3:Row w s.a3 p.ids.length s.c3 (eG p.ids)
theorem bP.below {w w':World} {p:av} {s:aT} (h:bP w p s) (hb:Below w.heap.size w w'):bP w' p s:=⟨h.r1.below hb,h.r2.below hb,h.r3.below hb⟩
structure av.Wf (p:av):Prop where
 trace:p.trace<18446744073709551616
 bn:p.bn<18446744073709551616
 aZ:p.aZ<18446744073709551616
 sn:p.sn<18446744073709551616
 bM:p.bM<18446744073709551616
 spans:∀ s∈p.spans,s.Wf
 members:∀ m∈p.members,m.Wf
 ids:∀ n∈p.ids,n<18446744073709551616
def lD (h:iU):Int:=if h.answer then 0 else if h.verdict then 1 else 0
def lF (h:iU):Int:=if h.verdict then 3 else 0
def mM (is:Bool) (n node:Nat):Bool:=if is then decide (n≠0) else decide (n=0)&&decide (node=0)
def kM (h:iU) (p:av):Bool:=(h.trace==decide (p.trace≠0))&&(mM h.jP p.bn p.aZ&&(decide (lD h≤p.v)&&decide (p.v≤lF h)))
def isB (n node:Nat):Bool := !(decide (n=0)&&decide (node=0))
def lQ (h:iU) (p:av):Bool :=
 if h.answer then if p.ok then isB p.sn p.bM==decide (p.v≠0) else isB p.sn p.bM&&decide (p.v=0) else !p.ok && !isB p.sn p.bM
set_option maxRecDepth 100000 in
theorem aaX (a b:Nat) (w:World):(Op.equalIn 10000 35 (.agg #[.int .u64 (a:Nat),.int .u64 (b:Nat)]) (.agg #[.int .u64 0,.int .u64 0])).run Tryz.prog w = .ok (!isB a b) w:=by
 rw [run_equalIn_agg w 9999 35 _ _ (by kernel_rfl) (by kernel_rfl)]
 simp [Program.fieldsOf,Tryz.underlying35,Op.eqFields,part,go_sem]
 unfold isB
 by_cases h1:a=0 <;> by_cases h2:b=0 <;> simp [h1,h2]
theorem aaY (a b:Nat) (w:World):(binOp .neq 35 (.agg #[.int .u64 (a:Nat),.int .u64 (b:Nat)]) (.agg #[.int .u64 0,.int .u64 0])).run Tryz.prog w = .ok (.bool (isB a b)) w:=by
 rw [run_neq_struct,aaX]
 simp [go_sem]
abbrev zU (w:World) (h:iU) (p:av) (s:aT):World:=(w.alloc (.cells (yR h) 164)).alloc (.cells (bL p s) 41)
theorem wK (w:World) (h:iU) (p:av) (s:aT):Below w.heap.size w (zU w h p s):=((Below.refl w.heap.size w).alloc (Nat.le_refl _) _).alloc (by simp) _
set_option maxRecDepth 20000 in
set_option maxHeartbeats 8000000 in
theorem ahK (h:iU) (p:av) (s:aT) (w:World) :
  Calls Tryz.prog 92 #[rX h,aM p s] w (iw w (kM h p)):=by
 have Ha:=aj (wK w h p s)
 have kn:=fun (a b:Nat) (w:World)=>aaY a b w
 have Hk:=aj (show kM h p=((h.trace==decide (p.trace≠0))&&(mM h.jP p.bn p.aZ&&(decide (lD h≤p.v)&&decide (p.v≤lF h)))) from rfl)
 generalize kM h p=r at *
 obtain ⟨ht,hb,ha,hv,h5,h6,h7⟩:=h
 obtain ⟨k,tr,bn,bd,sn,sd,v,ok,l1,l2,l3⟩:=p
 simp only at Hk
 have hbad:ht≠decide (tr≠0)→Hid (r=false):=fun h1=>aj (by rw [Hk.out,show (ht==decide (tr≠0))=false from beq_eq_false_iff_ne.2 h1];rfl)
 have hgood:ht=decide (tr≠0)→Hid (r=(mM hb bn bd&&(decide (lD ⟨ht,hb,ha,hv,h5,h6,h7⟩≤v)&&decide (v≤lF ⟨ht,hb,ha,hv,h5,h6,h7⟩)))):=fun h1=>aj (by rw [Hk.out,show (ht==decide (tr≠0))=true from beq_iff_eq.2 h1];rfl)
 have Hbad:=aj hbad
 have Hgood:=aj hgood
 clear hbad hgood Hk
 by_cases h0:tr=0
 ·have e0:((tr:Int) != 0)=false:=by rw [bne_eq_false_iff_eq];omega
  cases ht
  ·have Hk2:=Hgood.out (by rw [decide_eq_false (by omega)])
   clear Hbad Hgood h0
   cases hbl:mM hb bn bd
   ·have Hf:=aj (show r=false by rw [Hk2.out,hbl];rfl)
    clear Hk2
    cases hb
    ·have e2:isB bn bd=true:=by unfold isB;rw [show (decide (bn=0)&&decide (bd=0))=false from hbl];rfl
     clear hbl
     go_enter Tryz.func92,Tryz.ntmps92
     go_wp2_with fail
     go_ret
     exact aD Hf.out Ha.out
    ·have e2:((bn:Int)==0)=true:=by
      have:decide (bn≠0)=false:=hbl
      rw [decide_eq_false_iff_not] at this
      rw [beq_iff_eq]
      omega
     clear hbl
     go_enter Tryz.func92,Tryz.ntmps92
     go_wp2_with fail
     go_ret
     exact aD Hf.out Ha.out
   ·have Hlo:=aj (fun (h:¬ lD ⟨false,hb,ha,hv,h5,h6,h7⟩≤v)=>show r=false by rw [Hk2.out,hbl,decide_eq_false h];rfl)
    have Hhi:=aj (fun (h:¬ v≤lF ⟨false,hb,ha,hv,h5,h6,h7⟩)=>show r=false by rw [Hk2.out,hbl,decide_eq_false h];simp)
    have Hok:=aj (fun (h:lD ⟨false,hb,ha,hv,h5,h6,h7⟩≤v) (h2:v≤lF ⟨false,hb,ha,hv,h5,h6,h7⟩)=>show r=true by rw [Hk2.out,hbl,decide_eq_true h,decide_eq_true h2];rfl)
    clear Hk2
    have e2:hb=false→isB bn bd=false:=by
     rintro rfl
     unfold isB
     rw [show (decide (bn=0)&&decide (bd=0))=true from hbl]
     rfl
    have e3:hb=true→((bn:Int)==0)=false:=by
     rintro rfl
     have:decide (bn≠0)=true:=hbl
     rw [decide_eq_true_eq] at this
     rw [beq_eq_false_iff_ne]
     omega
    clear hbl
    cases hb
    all_goals
     first
      | (have e4:=e2 rfl)
      | (have e4:=e3 rfl)
     clear e2 e3
     cases ha
     all_goals
      cases hv
    ·by_cases hl:0≤v
     ·have l1:decide (0≤v)=true:=decide_eq_true hl
      by_cases hm:v≤0
      ·have Hf:=aj (Hok.out hl hm)
       have l2:decide (v≤0)=true:=decide_eq_true hm
       clear Hlo Hhi Hok
       go_enter Tryz.func92,Tryz.ntmps92
       go_wp2_with fail
       go_ret
       exact aD Hf.out Ha.out
      ·have Hf:=aj (Hhi.out hm)
       have l2:decide (v≤0)=false:=decide_eq_false hm
       clear Hlo Hhi Hok
       go_enter Tryz.func92,Tryz.ntmps92
       go_wp2_with fail
       go_ret
       exact aD Hf.out Ha.out
     ·have Hf:=aj (Hlo.out hl)
      have l1:decide (0≤v)=false:=decide_eq_false hl
      clear Hlo Hhi Hok
      go_enter Tryz.func92,Tryz.ntmps92
      go_wp2_with fail
      go_ret
      exact aD Hf.out Ha.out
    ·by_cases hl:1≤v
     ·have l1:decide (1≤v)=true:=decide_eq_true hl
      by_cases hm:v≤3
      ·have Hf:=aj (Hok.out hl hm)
       have l2:decide (v≤3)=true:=decide_eq_true hm
       clear Hlo Hhi Hok
       go_enter Tryz.func92,Tryz.ntmps92
       go_wp2_with fail
       go_ret
       exact aD Hf.out Ha.out
      ·have Hf:=aj (Hhi.out hm)
       have l2:decide (v≤3)=false:=decide_eq_false hm
       clear Hlo Hhi Hok
       go_enter Tryz.func92,Tryz.ntmps92
       go_wp2_with fail
       go_ret
       exact aD Hf.out Ha.out
     ·have Hf:=aj (Hlo.out hl)
      have l1:decide (1≤v)=false:=decide_eq_false hl
      clear Hlo Hhi Hok
      go_enter Tryz.func92,Tryz.ntmps92
      go_wp2_with fail
      go_ret
      exact aD Hf.out Ha.out
    ·by_cases hl:0≤v
     ·have l1:decide (0≤v)=true:=decide_eq_true hl
      by_cases hm:v≤0
      ·have Hf:=aj (Hok.out hl hm)
       have l2:decide (v≤0)=true:=decide_eq_true hm
       clear Hlo Hhi Hok
       go_enter Tryz.func92,Tryz.ntmps92
       go_wp2_with fail
       go_ret
       exact aD Hf.out Ha.out
      ·have Hf:=aj (Hhi.out hm)
       have l2:decide (v≤0)=false:=decide_eq_false hm
       clear Hlo Hhi Hok
       go_enter Tryz.func92,Tryz.ntmps92
       go_wp2_with fail
       go_ret
       exact aD Hf.out Ha.out
     ·have Hf:=aj (Hlo.out hl)
      have l1:decide (0≤v)=false:=decide_eq_false hl
      clear Hlo Hhi Hok
      go_enter Tryz.func92,Tryz.ntmps92
      go_wp2_with fail
      go_ret
      exact aD Hf.out Ha.out
    ·by_cases hl:0≤v
     ·have l1:decide (0≤v)=true:=decide_eq_true hl
      by_cases hm:v≤3
      ·have Hf:=aj (Hok.out hl hm)
       have l2:decide (v≤3)=true:=decide_eq_true hm
       clear Hlo Hhi Hok
       go_enter Tryz.func92,Tryz.ntmps92
       go_wp2_with fail
       go_ret
       exact aD Hf.out Ha.out
      ·have Hf:=aj (Hhi.out hm)
       have l2:decide (v≤3)=false:=decide_eq_false hm
       clear Hlo Hhi Hok
       go_enter Tryz.func92,Tryz.ntmps92
       go_wp2_with fail
       go_ret
       exact aD Hf.out Ha.out
     ·have Hf:=aj (Hlo.out hl)
      have l1:decide (0≤v)=false:=decide_eq_false hl
      clear Hlo Hhi Hok
      go_enter Tryz.func92,Tryz.ntmps92
      go_wp2_with fail
      go_ret
      exact aD Hf.out Ha.out
    ·by_cases hl:0≤v
     ·have l1:decide (0≤v)=true:=decide_eq_true hl
      by_cases hm:v≤0
      ·have Hf:=aj (Hok.out hl hm)
       have l2:decide (v≤0)=true:=decide_eq_true hm
       clear Hlo Hhi Hok
       go_enter Tryz.func92,Tryz.ntmps92
       go_wp2_with fail
       go_ret
       exact aD Hf.out Ha.out
      ·have Hf:=aj (Hhi.out hm)
       have l2:decide (v≤0)=false:=decide_eq_false hm
       clear Hlo Hhi Hok
       go_enter Tryz.func92,Tryz.ntmps92
       go_wp2_with fail
       go_ret
       exact aD Hf.out Ha.out
     ·have Hf:=aj (Hlo.out hl)
      have l1:decide (0≤v)=false:=decide_eq_false hl
      clear Hlo Hhi Hok
      go_enter Tryz.func92,Tryz.ntmps92
      go_wp2_with fail
      go_ret
      exact aD Hf.out Ha.out
    ·by_cases hl:1≤v
     ·have l1:decide (1≤v)=true:=decide_eq_true hl
      by_cases hm:v≤3
      ·have Hf:=aj (Hok.out hl hm)
       have l2:decide (v≤3)=true:=decide_eq_true hm
       clear Hlo Hhi Hok
       go_enter Tryz.func92,Tryz.ntmps92
       go_wp2_with fail
       go_ret
       exact aD Hf.out Ha.out
      ·have Hf:=aj (Hhi.out hm)
       have l2:decide (v≤3)=false:=decide_eq_false hm
       clear Hlo Hhi Hok
       go_enter Tryz.func92,Tryz.ntmps92
       go_wp2_with fail
       go_ret
       exact aD Hf.out Ha.out
     ·have Hf:=aj (Hlo.out hl)
      have l1:decide (1≤v)=false:=decide_eq_false hl
      clear Hlo Hhi Hok
      go_enter Tryz.func92,Tryz.ntmps92
      go_wp2_with fail
      go_ret
      exact aD Hf.out Ha.out
    ·by_cases hl:0≤v
     ·have l1:decide (0≤v)=true:=decide_eq_true hl
      by_cases hm:v≤0
      ·have Hf:=aj (Hok.out hl hm)
       have l2:decide (v≤0)=true:=decide_eq_true hm
       clear Hlo Hhi Hok
       go_enter Tryz.func92,Tryz.ntmps92
       go_wp2_with fail
       go_ret
       exact aD Hf.out Ha.out
      ·have Hf:=aj (Hhi.out hm)
       have l2:decide (v≤0)=false:=decide_eq_false hm
       clear Hlo Hhi Hok
       go_enter Tryz.func92,Tryz.ntmps92
       go_wp2_with fail
       go_ret
       exact aD Hf.out Ha.out
     ·have Hf:=aj (Hlo.out hl)
      have l1:decide (0≤v)=false:=decide_eq_false hl
      clear Hlo Hhi Hok
      go_enter Tryz.func92,Tryz.ntmps92
      go_wp2_with fail
      go_ret
      exact aD Hf.out Ha.out
    ·by_cases hl:0≤v
     ·have l1:decide (0≤v)=true:=decide_eq_true hl
      by_cases hm:v≤3
      ·have Hf:=aj (Hok.out hl hm)
       have l2:decide (v≤3)=true:=decide_eq_true hm
       clear Hlo Hhi Hok
       go_enter Tryz.func92,Tryz.ntmps92
       go_wp2_with fail
       go_ret
       exact aD Hf.out Ha.out
      ·have Hf:=aj (Hhi.out hm)
       have l2:decide (v≤3)=false:=decide_eq_false hm
       clear Hlo Hhi Hok
       go_enter Tryz.func92,Tryz.ntmps92
       go_wp2_with fail
       go_ret
       exact aD Hf.out Ha.out
     ·have Hf:=aj (Hlo.out hl)
      have l1:decide (0≤v)=false:=decide_eq_false hl
      clear Hlo Hhi Hok
      go_enter Tryz.func92,Tryz.ntmps92
      go_wp2_with fail
      go_ret
      exact aD Hf.out Ha.out
  ·have Hf:=Hbad.out (by rw [decide_eq_false (by omega)];decide)
   clear Hbad Hgood h0
   go_enter Tryz.func92,Tryz.ntmps92
   go_wp2_with fail
   go_ret
   exact aD Hf.out Ha.out
 ·have e0:((tr:Int) != 0)=true:=by rw [bne_iff_ne];omega
  cases ht
  ·have Hf:=Hbad.out (by rw [decide_eq_true (by omega)];decide)
   clear Hbad Hgood h0
   go_enter Tryz.func92,Tryz.ntmps92
   go_wp2_with fail
   go_ret
   exact aD Hf.out Ha.out
  ·have Hk2:=Hgood.out (by rw [decide_eq_true (by omega)])
   clear Hbad Hgood h0
   cases hbl:mM hb bn bd
   ·have Hf:=aj (show r=false by rw [Hk2.out,hbl];rfl)
    clear Hk2
    cases hb
    ·have e2:isB bn bd=true:=by unfold isB;rw [show (decide (bn=0)&&decide (bd=0))=false from hbl];rfl
     clear hbl
     go_enter Tryz.func92,Tryz.ntmps92
     go_wp2_with fail
     go_ret
     exact aD Hf.out Ha.out
    ·have e2:((bn:Int)==0)=true:=by
      have:decide (bn≠0)=false:=hbl
      rw [decide_eq_false_iff_not] at this
      rw [beq_iff_eq]
      omega
     clear hbl
     go_enter Tryz.func92,Tryz.ntmps92
     go_wp2_with fail
     go_ret
     exact aD Hf.out Ha.out
   ·have Hlo:=aj (fun (h:¬ lD ⟨true,hb,ha,hv,h5,h6,h7⟩≤v)=>show r=false by rw [Hk2.out,hbl,decide_eq_false h];rfl)
    have Hhi:=aj (fun (h:¬ v≤lF ⟨true,hb,ha,hv,h5,h6,h7⟩)=>show r=false by rw [Hk2.out,hbl,decide_eq_false h];simp)
    have Hok:=aj (fun (h:lD ⟨true,hb,ha,hv,h5,h6,h7⟩≤v) (h2:v≤lF ⟨true,hb,ha,hv,h5,h6,h7⟩)=>show r=true by rw [Hk2.out,hbl,decide_eq_true h,decide_eq_true h2];rfl)
    clear Hk2
    have e2:hb=false→isB bn bd=false:=by
     rintro rfl
     unfold isB
     rw [show (decide (bn=0)&&decide (bd=0))=true from hbl]
     rfl
    have e3:hb=true→((bn:Int)==0)=false:=by
     rintro rfl
     have:decide (bn≠0)=true:=hbl
     rw [decide_eq_true_eq] at this
     rw [beq_eq_false_iff_ne]
     omega
    clear hbl
    cases hb
    all_goals
     first
      | (have e4:=e2 rfl)
      | (have e4:=e3 rfl)
     clear e2 e3
     cases ha
     all_goals
      cases hv
    ·by_cases hl:0≤v
     ·have l1:decide (0≤v)=true:=decide_eq_true hl
      by_cases hm:v≤0
      ·have Hf:=aj (Hok.out hl hm)
       have l2:decide (v≤0)=true:=decide_eq_true hm
       clear Hlo Hhi Hok
       go_enter Tryz.func92,Tryz.ntmps92
       go_wp2_with fail
       go_ret
       exact aD Hf.out Ha.out
      ·have Hf:=aj (Hhi.out hm)
       have l2:decide (v≤0)=false:=decide_eq_false hm
       clear Hlo Hhi Hok
       go_enter Tryz.func92,Tryz.ntmps92
       go_wp2_with fail
       go_ret
       exact aD Hf.out Ha.out
     ·have Hf:=aj (Hlo.out hl)
      have l1:decide (0≤v)=false:=decide_eq_false hl
      clear Hlo Hhi Hok
      go_enter Tryz.func92,Tryz.ntmps92
      go_wp2_with fail
      go_ret
      exact aD Hf.out Ha.out
    ·by_cases hl:1≤v
     ·have l1:decide (1≤v)=true:=decide_eq_true hl
      by_cases hm:v≤3
      ·have Hf:=aj (Hok.out hl hm)
       have l2:decide (v≤3)=true:=decide_eq_true hm
       clear Hlo Hhi Hok
       go_enter Tryz.func92,Tryz.ntmps92
       go_wp2_with fail
       go_ret
       exact aD Hf.out Ha.out
      ·have Hf:=aj (Hhi.out hm)
       have l2:decide (v≤3)=false:=decide_eq_false hm
       clear Hlo Hhi Hok
       go_enter Tryz.func92,Tryz.ntmps92
       go_wp2_with fail
       go_ret
       exact aD Hf.out Ha.out
     ·have Hf:=aj (Hlo.out hl)
      have l1:decide (1≤v)=false:=decide_eq_false hl
      clear Hlo Hhi Hok
      go_enter Tryz.func92,Tryz.ntmps92
      go_wp2_with fail
      go_ret
      exact aD Hf.out Ha.out
    ·by_cases hl:0≤v
     ·have l1:decide (0≤v)=true:=decide_eq_true hl
      by_cases hm:v≤0
      ·have Hf:=aj (Hok.out hl hm)
       have l2:decide (v≤0)=true:=decide_eq_true hm
       clear Hlo Hhi Hok
       go_enter Tryz.func92,Tryz.ntmps92
       go_wp2_with fail
       go_ret
       exact aD Hf.out Ha.out
      ·have Hf:=aj (Hhi.out hm)
       have l2:decide (v≤0)=false:=decide_eq_false hm
       clear Hlo Hhi Hok
       go_enter Tryz.func92,Tryz.ntmps92
       go_wp2_with fail
       go_ret
       exact aD Hf.out Ha.out
     ·have Hf:=aj (Hlo.out hl)
      have l1:decide (0≤v)=false:=decide_eq_false hl
      clear Hlo Hhi Hok
      go_enter Tryz.func92,Tryz.ntmps92
      go_wp2_with fail
      go_ret
      exact aD Hf.out Ha.out
    ·by_cases hl:0≤v
     ·have l1:decide (0≤v)=true:=decide_eq_true hl
      by_cases hm:v≤3
      ·have Hf:=aj (Hok.out hl hm)
       have l2:decide (v≤3)=true:=decide_eq_true hm
       clear Hlo Hhi Hok
       go_enter Tryz.func92,Tryz.ntmps92
       go_wp2_with fail
       go_ret
       exact aD Hf.out Ha.out
      ·have Hf:=aj (Hhi.out hm)
       have l2:decide (v≤3)=false:=decide_eq_false hm
       clear Hlo Hhi Hok
       go_enter Tryz.func92,Tryz.ntmps92
       go_wp2_with fail
       go_ret
       exact aD Hf.out Ha.out
     ·have Hf:=aj (Hlo.out hl)
      have l1:decide (0≤v)=false:=decide_eq_false hl
      clear Hlo Hhi Hok
      go_enter Tryz.func92,Tryz.ntmps92
      go_wp2_with fail
      go_ret
      exact aD Hf.out Ha.out
    ·by_cases hl:0≤v
     ·have l1:decide (0≤v)=true:=decide_eq_true hl
      by_cases hm:v≤0
      ·have Hf:=aj (Hok.out hl hm)
       have l2:decide (v≤0)=true:=decide_eq_true hm
       clear Hlo Hhi Hok
       go_enter Tryz.func92,Tryz.ntmps92
       go_wp2_with fail
       go_ret
       exact aD Hf.out Ha.out
      ·have Hf:=aj (Hhi.out hm)
       have l2:decide (v≤0)=false:=decide_eq_false hm
       clear Hlo Hhi Hok
       go_enter Tryz.func92,Tryz.ntmps92
       go_wp2_with fail
       go_ret
       exact aD Hf.out Ha.out
     ·have Hf:=aj (Hlo.out hl)
      have l1:decide (0≤v)=false:=decide_eq_false hl
      clear Hlo Hhi Hok
      go_enter Tryz.func92,Tryz.ntmps92
      go_wp2_with fail
      go_ret
      exact aD Hf.out Ha.out
    ·by_cases hl:1≤v
     ·have l1:decide (1≤v)=true:=decide_eq_true hl
      by_cases hm:v≤3
      ·have Hf:=aj (Hok.out hl hm)
       have l2:decide (v≤3)=true:=decide_eq_true hm
       clear Hlo Hhi Hok
       go_enter Tryz.func92,Tryz.ntmps92
       go_wp2_with fail
       go_ret
       exact aD Hf.out Ha.out
      ·have Hf:=aj (Hhi.out hm)
       have l2:decide (v≤3)=false:=decide_eq_false hm
       clear Hlo Hhi Hok
       go_enter Tryz.func92,Tryz.ntmps92
       go_wp2_with fail
       go_ret
       exact aD Hf.out Ha.out
     ·have Hf:=aj (Hlo.out hl)
      have l1:decide (1≤v)=false:=decide_eq_false hl
      clear Hlo Hhi Hok
      go_enter Tryz.func92,Tryz.ntmps92
      go_wp2_with fail
      go_ret
      exact aD Hf.out Ha.out
    ·by_cases hl:0≤v
     ·have l1:decide (0≤v)=true:=decide_eq_true hl
      by_cases hm:v≤0
      ·have Hf:=aj (Hok.out hl hm)
       have l2:decide (v≤0)=true:=decide_eq_true hm
       clear Hlo Hhi Hok
       go_enter Tryz.func92,Tryz.ntmps92
       go_wp2_with fail
       go_ret
       exact aD Hf.out Ha.out
      ·have Hf:=aj (Hhi.out hm)
       have l2:decide (v≤0)=false:=decide_eq_false hm
       clear Hlo Hhi Hok
       go_enter Tryz.func92,Tryz.ntmps92
       go_wp2_with fail
       go_ret
       exact aD Hf.out Ha.out
     ·have Hf:=aj (Hlo.out hl)
      have l1:decide (0≤v)=false:=decide_eq_false hl
      clear Hlo Hhi Hok
      go_enter Tryz.func92,Tryz.ntmps92
      go_wp2_with fail
      go_ret
      exact aD Hf.out Ha.out
    ·by_cases hl:0≤v
     ·have l1:decide (0≤v)=true:=decide_eq_true hl
      by_cases hm:v≤3
      ·have Hf:=aj (Hok.out hl hm)
       have l2:decide (v≤3)=true:=decide_eq_true hm
       clear Hlo Hhi Hok
       go_enter Tryz.func92,Tryz.ntmps92
       go_wp2_with fail
       go_ret
       exact aD Hf.out Ha.out
      ·have Hf:=aj (Hhi.out hm)
       have l2:decide (v≤3)=false:=decide_eq_false hm
       clear Hlo Hhi Hok
       go_enter Tryz.func92,Tryz.ntmps92
       go_wp2_with fail
       go_ret
       exact aD Hf.out Ha.out
     ·have Hf:=aj (Hlo.out hl)
      have l1:decide (0≤v)=false:=decide_eq_false hl
      clear Hlo Hhi Hok
      go_enter Tryz.func92,Tryz.ntmps92
      go_wp2_with fail
      go_ret
      exact aD Hf.out Ha.out
end Go.Proofs.YtpcmlopbkehffaaGreat
