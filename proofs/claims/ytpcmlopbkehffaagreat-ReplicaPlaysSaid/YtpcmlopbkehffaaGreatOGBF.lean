/-
  What the reference's Spans (of layer 3 and of layer 5) and rise answer.
-/
import Derived.Test.YtpcmlopbkehffaaGreatOGBE
set_option linter.unusedSimpArgs false
set_option linter.unusedVariables false
namespace Go.Proofs.YtpcmlopbkehffaaGreat
open Go.RowKit Ru
def eqF {α:Type} (f:α→α→Bool):List α→List α→Bool
 | [],[]=>true
 | a::l,b::m=>f a b&&eqF f l m
 | _,_=>false
theorem qV {α:Type} (f:α→α→Bool):∀ (l m:List α),l.length≠m.length→eqF f l m=false
 | [],[],h=>absurd rfl h
 | [],_::_,_=>rfl
 | _::_,[],_=>rfl
 | a :: l,b::m,h=>by
   rw [eqF,qV f l m (by simpa using h),Bool.and_false]
theorem qR {α:Type} (f:α→α→Bool):∀ (l m:List α) (k:Nat) (h1:k<l.length) (h2:k<m.length),f l[k] m[k]=false→eqF f l m=false
 | [],_,_,h1,_,_=>absurd h1 (by simp)
 | _::_,[],_,_,h2,_=>absurd h2 (by simp)
 | a :: l,b::m,0,_,_,h=>by
   rw [eqF,show f a b=false from h]
   rfl
 | a :: l,b::m,k+1,h1,h2,h=>by
   rw [eqF,qR f l m k (by simpa using h1) (by simpa using h2) h,Bool.and_false]
theorem qU {α:Type} (f:α→α→Bool):∀ (l m:List α),l.length=m.length→(∀ k (h1:k<l.length) (h2:k<m.length),f l[k] m[k]=true)→eqF f l m=true
 | [],[],_,_=>rfl
 | [],_::_,h,_=>by simp at h
 | _::_,[],h,_=>by simp at h
 | a :: l,b::m,h,g=>by
   rw [eqF,show f a b=true from g 0 (by simp) (by simp),Bool.true_and]
   exact qU f l m (by simpa using h) fun k h1 h2=>g (k+1) (by simpa using h1) (by simpa using h2)
set_option maxRecDepth 20000 in
set_option maxHeartbeats 4000000 in
theorem ajU (A A':Option Addr) (n n' c c':Nat) (ss ts:List ay) (w:World) (h1:bW w A n c ss) (h2:bW w A' n' c' ts) :
  Calls Tryz.prog 44 #[.slice A n c,.slice A' n' c'] w (iw w (eqF iJ ss ts)):=by
 obtain rfl:=h1.len
 obtain rfl:=h2.len
 have hle:=Nat.le_trans h1.cap h1.max
 have hle2:=Nat.le_trans h2.cap h2.max
 have H1:=aj h1
 have H2:=aj h2
 clear h1 h2
 by_cases hl:ss.length=ts.length
 rotate_left
 ·have Hf:=aj (qV iJ ss ts hl)
  have e1:((ss.length:Int) != (ts.length:Int))=true:=by rw [bne_iff_ne];omega
  clear hl
  go_enter Tryz.func44,Tryz.ntmps44
  go_wp2_with fail
  go_ret
  exact aD Hf.out (Below.refl _ _)
 have e1:((ss.length:Int) != (ts.length:Int))=false:=by rw [bne_eq_false_iff_eq];omega
 have Hl:=aj hl
 have kn:=fun (a b:ay) (w:World)=>alc a b w
 have hl1:ss.length≤ts.length:=by omega
 have hl2:ts.length≤ss.length:=by omega
 clear hl
 go_enter Tryz.func44,Tryz.ntmps44
 go_wp2_with fail
 go_loopw [5] (fun vi wr=>∃ k:Nat,k≤ss.length∧vi = .int .i64 (k:Nat)∧Hid (∀ j (hj:j<ss.length) (hj2:j<ts.length),j<k→iJ ss[j] ts[j]=true)∧Hid (Below w.heap.size w wr)) (fun vi _=>ss.length-(intOf vi).toNat)
 case atStart=>exact ⟨0,Nat.zero_le _,rfl,aj (fun j _ _ h=>absurd h (by omega)),aj (Below.refl _ _)⟩
 case round =>
  obtain ⟨k,hk,rfl,Hg,Hw⟩:=hrel
  by_cases hlt:k<ss.length
  ·have hlt2:k<ts.length:=by omega
   obtain ⟨b,off,rfl,s1⟩:=(H1.out.below Hw.out).at_ hlt
   obtain ⟨b',off',rfl,s2⟩:=(H2.out.below Hw.out).at_ hlt2
   obtain ⟨a0,a1,a2,a3,a4,a5,a6,a7⟩:=s1
   obtain ⟨d0,d1,d2,d3,d4,d5,d6,d7⟩:=s2
   have x1:(k:Int)<(ss.length:Int):=by omega
   have x3:(k:Int)<(ts.length:Int):=by omega
   have x2:(0:Int)≤(k:Int):=by omega
   have Hn:=aj (fun (h:iJ ss[k] ts[k]=true)=>show ∀ j (hj:j<ss.length) (hj2:j<ts.length),j<k+1→iJ ss[j] ts[j]=true from fun j hj hj2 h2=>by
    by_cases e:j=k
    ·subst e;exact h
    ·exact Hg.out j hj hj2 (by omega))
   have Hb:=aj (fun (h:iJ ss[k] ts[k]=false)=>qR iJ ss ts k hlt hlt2 h)
   generalize ss[k]=s at *
   generalize ts[k]=t at *
   cases hq:iJ s t
   ·have Hf:=aj (Hb.out hq)
    go_wp2_with fail
    go_quiet (fail)
    clear a0 a1 a2 a3 a4 a5 a6 a7 d0 d1 d2 d3 d4 d5 d6 d7
    go_wp2_with fail
    go_ret
    exact aD Hf.out (below_drewN Hw.out _)
   ·have Hn2:=aj (Hn.out hq)
    go_wp2_with fail
    go_quiet (fail)
    clear a0 a1 a2 a3 a4 a5 a6 a7 d0 d1 d2 d3 d4 d5 d6 d7
    go_wp2_with fail
    go_roundw
    case rel=>exact ⟨k+1,by omega,by go_num,Hn2,aj (below_drewN Hw.out _)⟩
    case measure=>simp [intOf] <;> omega
  ·obtain rfl:k=ss.length:=by omega
   have Hf:=aj (qU iJ ss ts Hl.out fun j hj hj2=>Hg.out j hj hj2 hj)
   go_wp2_with fail
   go_ret
   exact aD Hf.out Hw.out
def inF (n:Nat):Bool:=decide (1≤n)&&decide (n≤16)
theorem xD (n:Nat):(n<1∧inF n=false)∨(1≤n∧16<n∧inF n=false)∨(1≤n∧n≤16∧inF n=true):=by
 unfold inF
 by_cases h1:1≤n
 ·by_cases h2:n≤16
  ·exact .inr (.inr ⟨h1,h2,by rw [decide_eq_true h1,decide_eq_true h2];rfl⟩)
  ·exact .inr (.inl ⟨h1,by omega,by rw [decide_eq_false h2];simp⟩)
 ·exact .inl ⟨by omega,by rw [decide_eq_false h1];rfl⟩
def jL (l:List Nat):Bool:=eB l&&inF l.length
set_option maxRecDepth 20000 in
set_option maxHeartbeats 4000000 in
theorem kX (A:Option Addr) (n c:Nat) (l:List Nat) (w:World) (hs:Row w A n c (eG l)) :
  Calls Tryz.prog 69 #[.slice A n c] w (iw w (jL l)):=by
 obtain rfl:n=l.length:=by rw [← hs.len];simp [eG]
 have Hs:=aj hs
 have hle:=hs.cap
 have hmx:=hs.max
 clear hs
 go_enter Tryz.func69,Tryz.ntmps69
 go_wp2_with fail
 go_loopw [3] (fun vi wr=>∃ k a:Nat,k≤l.length∧vi = .int .i64 (k:Nat)∧Hid (eB l=ig a (l.drop k))∧Hid (k=0→a=0)∧Hid (∀ j (hj:j<l.length),k=j+1→l[j]=a)∧Hid (Below w.heap.size w wr)) (fun vi _=>l.length-(intOf vi).toNat)
 case atStart=>exact ⟨0,0,Nat.zero_le _,rfl,aj rfl,aj (fun _=>rfl),aj (fun j _ h=>by omega),aj (Below.refl _ _)⟩
 case round =>
  obtain ⟨k,a,hk,rfl,Hr,H0,H1,Hw⟩:=hrel
  by_cases hlt:k<l.length
  ·obtain ⟨b,off,rfl,hc⟩:=(Hs.out.below Hw.out).at_ (k:=k) (by simpa [eG] using hlt)
   have c0:wr.cell? ⟨b,off+k,none⟩=some (.int .u64 (l[k]:Nat)):=by rw [hc];simp [eG]
   clear hc
   have Hd:=aj (show l.drop k=l[k]::l.drop (k+1) from List.drop_eq_getElem_cons hlt)
   have x1:(k:Int)<(l.length:Int):=by omega
   have x2:(0:Int)≤(k:Int):=by omega
   have Hno:=aj (fun (h:l[k]≤a)=>show jL l=false by unfold jL;rw [Hr.out,Hd.out,sH h];rfl)
   have Hyes:=aj (fun (h:a<l[k])=>show eB l=ig l[k] (l.drop (k+1)) by rw [Hr.out,Hd.out,sI h])
   have Hlast:=aj (show ∀ j (hj:j<l.length),k+1=j+1→l[j]=l[k] from fun j hj h=>by
    obtain rfl:j=k:=by omega
    rfl)
   cases k with
   | zero =>
     obtain rfl:=H0.out rfl
     simp only [Nat.add_zero] at c0
     generalize l[0]=x at *
     by_cases hx:x=0
     ·have Hf:=aj (Hno.out (by omega))
      have e1:((x:Int)==0)=true:=by rw [beq_iff_eq];omega
      clear hx
      go_wp2_with fail
      go_quiet (fail)
      clear c0
      go_wp2_with fail
      go_ret
      exact aD Hf.out (below_drewN Hw.out _)
     ·have Hf:=aj (Hyes.out (by omega))
      have e1:((x:Int)==0)=false:=by rw [beq_eq_false_iff_ne];omega
      have e2:decide (0<0)=false:=rfl
      clear hx
      go_wp2_with fail
      go_quiet (fail)
      clear c0
      go_wp2_with fail
      go_roundw
      case rel=>exact ⟨1,x,by omega,by go_num,Hf,aj (fun h=>by omega),Hlast,aj (below_drewN Hw.out _)⟩
      case measure=>simp [intOf] <;> omega
   | succ i =>
     have hil:i<l.length:=by omega
     have ha:=H1.out i hil rfl
     have d0:wr.cell? ⟨b,off+i,none⟩=some (.int .u64 (a:Nat)):=by
      obtain ⟨b2,off2,e,hc⟩:=(Hs.out.below Hw.out).at_ (k:=i) (by simpa [eG] using hil)
      injection e with e
      injection e with e1 e2
      subst e1 e2
      rw [hc]
      simp [eG,ha]
     clear ha
     generalize l[i+1]=x at *
     have i0:(0:Int)≤(i:Int):=by omega
     have i1:(i:Int)<(l.length:Int):=by omega
     have e2:decide (0<i+1)=true:=decide_eq_true (by omega)
     by_cases hx:x=0
     ·have Hf:=aj (Hno.out (by omega))
      have e1:((x:Int)==0)=true:=by rw [beq_iff_eq];omega
      clear hx
      go_wp2_with fail
      go_quiet (fail)
      clear c0 d0
      go_wp2_with fail
      go_ret
      exact aD Hf.out (below_drewN Hw.out _)
     ·have e1:((x:Int)==0)=false:=by rw [beq_eq_false_iff_ne];omega
      clear hx
      by_cases hxa:x≤a
      ·have Hf:=aj (Hno.out hxa)
       have e3:decide (x≤a)=true:=decide_eq_true hxa
       go_wp2_with fail
       go_quiet (fail)
       clear c0 d0
       go_wp2_with fail
       go_ret
       exact aD Hf.out (below_drewN Hw.out _)
      ·have Hf:=aj (Hyes.out (by omega))
       have e3:decide (x≤a)=false:=decide_eq_false hxa
       go_wp2_with fail
       go_quiet (fail)
       clear c0 d0
       go_wp2_with fail
       go_roundw
       case rel=>exact ⟨i+1+1,x,by omega,by go_num,Hf,aj (fun h=>by omega),Hlast,aj (below_drewN Hw.out _)⟩
       case measure=>simp [intOf] <;> omega
  ·obtain rfl:k=l.length:=by omega
   have Hf:=aj (show jL l=inF l.length by unfold jL;rw [Hr.out,List.drop_eq_nil_of_le (Nat.le_refl _)];rfl)
   rcases xD l.length with ⟨h1,h2⟩ | ⟨h1,h3,h2⟩ | ⟨h1,h3,h2⟩
   ·have e1:decide ((1:Int)≤(l.length:Int))=false:=decide_eq_false (by omega)
    have Hf2:=aj (Hf.out.trans h2)
    clear h2
    go_wp2_with fail
    go_ret
    exact aD Hf2.out Hw.out
   ·have e1:decide ((1:Int)≤(l.length:Int))=true:=decide_eq_true (by omega)
    have e2:decide ((l.length:Int)≤16)=false:=decide_eq_false (by omega)
    have Hf2:=aj (Hf.out.trans h2)
    clear h2
    go_wp2_with fail
    go_ret
    exact aD Hf2.out Hw.out
   ·have e1:decide ((1:Int)≤(l.length:Int))=true:=decide_eq_true (by omega)
    have e2:decide ((l.length:Int)≤16)=true:=decide_eq_true (by omega)
    have Hf2:=aj (Hf.out.trans h2)
    clear h2
    go_wp2_with fail
    go_ret
    exact aD Hf2.out Hw.out
end Go.Proofs.YtpcmlopbkehffaaGreat
namespace Go.Proofs.YtpcmlopbkehffaaGreat
open Go.RowKit Ru
def iq (tr:Nat) (ss:List ay):Bool:=jg tr ss&&inF ss.length
theorem adQ {tr:Nat} {ss:List ay} (h:jg tr ss=false):iq tr ss=false:=by unfold iq;rw [h];rfl
theorem ale {tr:Nat} {ss:List ay} {i j:Nat} (hi:i<ss.length) (hj:j<ss.length) (hij:j<i) (h:ss[j].id=ss[i].id):jg tr ss=false:=by
 unfold jg
 rw [decide_eq_false,Bool.and_false]
 intro hn
 have h2:=List.pairwise_iff_getElem.1 hn j i (by simpa using hj) (by simpa using hi) hij
 simp at h2
 exact h2 h
theorem ald {tr:Nat} {ss:List ay} (h1:∀ j (hj:j<ss.length),gN tr ss[j]=true) (h2:∀ i j (hi:i<ss.length) (hj:j<ss.length),j<i→ss[j].id≠ss[i].id):jg tr ss=true:=by
 unfold jg
 rw [List.all_eq_true.2 fun s h=>by
  obtain ⟨j,hj,rfl⟩:=List.getElem_of_mem h
  exact h1 j hj,decide_eq_true]
 ·rfl
 ·refine List.pairwise_iff_getElem.2 fun i j hi hj hij=>?_
  simp at hi hj
  simp
  exact h2 j i hj hi hij
set_option maxRecDepth 20000 in
set_option maxHeartbeats 8000000 in
theorem kY (tr:Nat) (A:Option Addr) (n c:Nat) (ss:List ay) (w:World) (hs:bW w A n c ss) (hw:∀ s∈ss,s.Wf) :
  Calls Tryz.prog 67 #[.int .u64 (tr:Nat),.slice A n c] w (iw w (iq tr ss)):=by
 obtain rfl:=hs.len
 have Hs:=aj hs
 have hle:=hs.cap
 have hmx:=hs.max
 have Hr:=aj (fun W s (h:s∈ss)=>ajL s W (hw s h))
 have Hbad:=aj (fun s (h:s∈ss) (h2:gN tr s=false)=>adQ (adR h h2))
 have Hdup:=aj (fun i j (hi:i<ss.length) (hj:j<ss.length) (hij:j<i) (h:ss[j].id=ss[i].id)=>adQ (ale (tr:=tr) hi hj hij h))
 clear hs hw
 go_enter Tryz.func67,Tryz.ntmps67
 go_wp2_with fail
 go_loopw [5] (fun vi wr=>∃ i:Nat,i≤ss.length∧vi = .int .i64 (i:Nat)∧Hid (∀ j (hj:j<ss.length),j<i→gN tr ss[j]=true)∧Hid (∀ q j (hq:q<ss.length) (hj:j<ss.length),j<q→q<i→ss[j].id≠ss[q].id)∧Hid (Below w.heap.size w wr)) (fun vi _=>ss.length-(intOf vi).toNat)
 case atStart=>exact ⟨0,Nat.zero_le _,rfl,aj (fun j _ h=>absurd h (by omega)),aj (fun q j _ _ _ h=>absurd h (by omega)),aj (Below.refl _ _)⟩
 case round =>
  obtain ⟨i,hi,rfl,Hg,Hd,Hw⟩:=hrel
  rename_i wr0
  by_cases hlt:i<ss.length
  ·obtain ⟨b,off,rfl,hc⟩:=(Hs.out.below Hw.out).at_ hlt
   have Hat:=aj hc
   obtain ⟨c0,c1,c2,c3,c4,c5,c6,c7⟩:=hc
   have x1:(i:Int)<(ss.length:Int):=by omega
   have x2:(0:Int)≤(i:Int):=by omega
   have Hc:=aj (fun W=>Hr.out W ss[i] (List.getElem_mem hlt))
   have Hb:=aj (Hbad.out ss[i] (List.getElem_mem hlt))
   have Hn:=aj (fun (h:gN tr ss[i]=true)=>show ∀ j (hj:j<ss.length),j<i+1→gN tr ss[j]=true from fun j hj h2=>by
    by_cases e:j=i
    ·subst e;exact h
    ·exact Hg.out j hj (by omega))
   have Hdi:=aj (fun j (hj:j<ss.length) (hij:j<i)=>Hdup.out i j hlt hj hij)
   have Hnd:=aj (fun (h:∀ j (hj:j<ss.length),j<i→ss[j].id≠ss[i].id)=>show ∀ q j (hq:q<ss.length) (hj:j<ss.length),j<q→q<i+1→ss[j].id≠ss[q].id from fun q j hq hj hjq hq2=>by
    by_cases e:q=i
    ·subst e;exact h j hj hjq
    ·exact Hd.out q j hq hj hjq (by omega))
   by_cases hr:fq ss[i]=0
   rotate_left
   ·have Hf:=aj (Hb.out (by unfold gN;rw [show (fq ss[i]==0)=false from beq_eq_false_iff_ne.2 hr];simp))
    have e2:(fq ss[i] != 0)=true:=bne_iff_ne.2 hr
    clear hr
    generalize hq:fq ss[i]=q at *
    clear hq
    generalize ss[i]=s at *
    go_wp2_with fail
    refine Calls.mono (Hc.out _) ?_
    rintro e w2 ⟨rfl,hb2⟩
    have Hw2:=aj (Hw.out.trans (hb2.mono Hw.out.size))
    clear hb2 c0 c1 c2 c3 c4 c5 c6 c7
    go_wp2_with fail
    go_ret
    exact aD Hf.out Hw2.out
   ·rw [hr] at Hc
    by_cases ht:ss[i].trace=tr
    rotate_left
    ·have Hf:=aj (Hb.out (by unfold gN;rw [decide_eq_false ht];rfl))
     have e1:(((ss[i].trace:Nat):Int) != (tr:Int))=true:=by rw [bne_iff_ne];omega
     clear ht hr
     generalize ss[i]=s at *
     go_wp2_with fail
     refine Calls.mono (Hc.out _) ?_
     rintro e w2 ⟨rfl,hb2⟩
     have Hw2:=aj (Hw.out.trans (hb2.mono Hw.out.size))
     obtain ⟨c0',c1',c2',c3',c4',c5',c6',c7'⟩:=Hat.out.keep (fun p hp=>hb2.cell hp)
     clear hb2 c0 c1 c2 c3 c4 c5 c6 c7
     go_wp2_with fail
     go_ret
     exact aD Hf.out Hw2.out
    ·have Hn2:=aj (Hn.out (by unfold gN;rw [decide_eq_true ht,hr];rfl))
     have e1:(((ss[i].trace:Nat):Int) != (tr:Int))=false:=by rw [ht];simp
     clear ht hr
     generalize hsi:ss[i]=s at *
     have Hsi:=aj hsi
     clear hsi
     go_wp2_with fail
     refine Calls.mono (Hc.out _) ?_
     rintro e w2 ⟨rfl,hb2⟩
     have Hw2:=aj (Hw.out.trans (hb2.mono Hw.out.size))
     obtain ⟨c0',c1',c2',c3',c4',c5',c6',c7'⟩:=Hat.out.keep (fun p hp=>hb2.cell hp)
     clear hb2 c0 c1 c2 c3 c4 c5 c6 c7
     go_wp2_with fail
     clear c0' c1' c2' c3' c4' c5' c6' c7' e1
     go_loopw [6] (fun vk wr2=>∃ k:Nat,k≤i∧vk = .int .i64 (k:Nat)∧Hid (∀ j (hj:j<ss.length),j<k→ss[j].id≠s.id)∧Hid (Below w.heap.size w wr2)) (fun vk _=>i-(intOf vk).toNat)
     case atStart=>exact ⟨0,Nat.zero_le _,rfl,aj (fun j _ h=>absurd h (by omega)),Hw2⟩
     case round =>
      obtain ⟨k,hk,rfl,Hne,Hw3⟩:=hrel
      by_cases hki:k<i
      ·have hkl:k<ss.length:=by omega
       obtain ⟨b1,off1,e1,s1⟩:=(Hs.out.below Hw3.out).at_ hlt
       injection e1 with e1
       injection e1 with e2 e3
       subst e2 e3
       rw [Hsi.out] at s1
       obtain ⟨b2,off2,e1,s2⟩:=(Hs.out.below Hw3.out).at_ hkl
       injection e1 with e1
       injection e1 with e2 e3
       subst e2 e3
       have a1:=s1.c1
       have d1:=s2.c1
       clear s1 s2
       have y1:(k:Int)<(ss.length:Int):=by omega
       have y2:(0:Int)≤(k:Int):=by omega
       have Hdk:=aj (Hdi.out k hkl hki)
       have Hnk:=aj (fun (h:ss[k].id≠s.id)=>show ∀ j (hj:j<ss.length),j<k+1→ss[j].id≠s.id from fun j hj h2=>by
        by_cases e:j=k
        ·subst e;exact h
        ·exact Hne.out j hj (by omega))
       by_cases hq:ss[k].id=s.id
       ·have Hf:=aj (Hdk.out hq)
        have e5:(((ss[k].id:Nat):Int)==((s.id:Nat):Int))=true:=by rw [beq_iff_eq];omega
        clear hq
        generalize ss[k]=t at *
        go_wp2_with fail
        go_quiet (fail)
        clear a1 d1
        go_wp2_with fail
        go_ret
        exact aD Hf.out (below_drewN Hw3.out _)
       ·have Hf:=aj (Hnk.out hq)
        have e5:(((ss[k].id:Nat):Int)==((s.id:Nat):Int))=false:=by rw [beq_eq_false_iff_ne];omega
        clear hq
        generalize ss[k]=t at *
        go_wp2_with fail
        go_quiet (fail)
        clear a1 d1
        go_wp2_with fail
        go_roundw
        case rel=>exact ⟨k+1,by omega,by go_num,Hf,aj (below_drewN Hw3.out _)⟩
        case measure=>simp [intOf] <;> omega
      ·obtain rfl:k=i:=by omega
       have Hnd2:=aj (Hnd.out Hne.out)
       go_wp2_with fail
       go_roundw
       case rel=>exact ⟨k+1,by omega,by go_num,Hn2,Hnd2,Hw3⟩
       case measure=>simp [intOf] <;> omega
  ·obtain rfl:i=ss.length:=by omega
   have Hf:=aj (show iq tr ss=inF ss.length by
    unfold iq
    rw [ald (fun j hj=>Hg.out j hj hj) (fun q j hq hj hjq=>Hd.out q j hq hj hjq hq)]
    rfl)
   rcases xD ss.length with ⟨h1,h2⟩ | ⟨h1,h3,h2⟩ | ⟨h1,h3,h2⟩
   ·have e1:decide ((1:Int)≤(ss.length:Int))=false:=decide_eq_false (by omega)
    have Hf2:=aj (Hf.out.trans h2)
    clear h2
    go_wp2_with fail
    go_ret
    exact aD Hf2.out Hw.out
   ·have e1:decide ((1:Int)≤(ss.length:Int))=true:=decide_eq_true (by omega)
    have e2:decide ((ss.length:Int)≤16)=false:=decide_eq_false (by omega)
    have Hf2:=aj (Hf.out.trans h2)
    clear h2
    go_wp2_with fail
    go_ret
    exact aD Hf2.out Hw.out
   ·have e1:decide ((1:Int)≤(ss.length:Int))=true:=decide_eq_true (by omega)
    have e2:decide ((ss.length:Int)≤16)=true:=decide_eq_true (by omega)
    have Hf2:=aj (Hf.out.trans h2)
    clear h2
    go_wp2_with fail
    go_ret
    exact aD Hf2.out Hw.out
def jK (ms:List aJ):Bool:=jV ms&&inF ms.length
theorem ahi {ms:List aJ} {m:aJ} (hm:m∈ms) (h:iZ m=false):jK ms=false:=by
 unfold jK
 rw [acv hm h]
 rfl
theorem ahj {ms:List aJ} (h:eB (ms.map aJ.id)=false):jK ms=false:=by
 unfold jK jV
 rw [h]
 simp
set_option maxRecDepth 20000 in
set_option maxHeartbeats 8000000 in
theorem kW (A:Option Addr) (n c:Nat) (l:List aJ) (w:World) (hs:eO w A n c l) :
  Calls Tryz.prog 68 #[.slice A n c] w (iw w (jK l)):=by
 obtain rfl:=hs.len
 have Hs:=aj hs
 have hle:=hs.cap
 have hmx:=hs.max
 have Hbad:=aj (fun s (h:s∈l) (h2:iZ s=false)=>ahi h h2)
 clear hs
 go_enter Tryz.func68,Tryz.ntmps68
 go_wp2_with fail
 go_loopw [3] (fun vi wr=>∃ k a:Nat,k≤l.length∧vi = .int .i64 (k:Nat)∧Hid (∀ j (hj:j<l.length),j<k→iZ l[j]=true)∧Hid (eB (l.map aJ.id)=ig a ((l.map aJ.id).drop k))∧Hid (k=0→a=0)∧Hid (∀ j (hj:j<l.length),k=j+1→l[j].id=a)∧Hid (Below w.heap.size w wr)) (fun vi _=>l.length-(intOf vi).toNat)
 case atStart=>exact ⟨0,0,Nat.zero_le _,rfl,aj (fun j _ h=>absurd h (by omega)),aj rfl,aj (fun _=>rfl),aj (fun j _ h=>by omega),aj (Below.refl _ _)⟩
 case round =>
  obtain ⟨k,a,hk,rfl,Hg,Hr,H0,H1,Hw⟩:=hrel
  by_cases hlt:k<l.length
  ·obtain ⟨b,off,rfl,hc⟩:=(Hs.out.below Hw.out).at_ hlt
   obtain ⟨c0,c1,c2⟩:=hc
   have hbl:=lt_of_cell c0
   have hbl:b<wr.heap.size:=hbl
   have Hd:=aj (show (l.map aJ.id).drop k=l[k].id::(l.map aJ.id).drop (k+1) by rw [List.drop_eq_getElem_cons (by simpa using hlt)];simp)
   have x1:(k:Int)<(l.length:Int):=by omega
   have x2:(0:Int)≤(k:Int):=by omega
   have Hno:=aj (fun (h:l[k].id≤a)=>ahj (by rw [Hr.out,Hd.out,sH h]))
   have Hyes:=aj (fun (h:a<l[k].id)=>show eB (l.map aJ.id)=ig l[k].id ((l.map aJ.id).drop (k+1)) by rw [Hr.out,Hd.out,sI h])
   have Hlast:=aj (show ∀ j (hj:j<l.length),k+1=j+1→l[j].id=l[k].id from fun j hj h=>by
    obtain rfl:j=k:=by omega
    rfl)
   have Hb:=aj (Hbad.out l[k] (List.getElem_mem hlt))
   have Hn:=aj (fun (h:iZ l[k]=true)=>show ∀ j (hj:j<l.length),j<k+1→iZ l[j]=true from fun j hj h2=>by
    by_cases e:j=k
    ·subst e;exact h
    ·exact Hg.out j hj (by omega))
   have Hw1:=aj (fun (o:Obj)=>show Below w.heap.size w (wr.alloc o) from Hw.out.alloc Hw.out.size _)
   have Hok:=aj (show iZ l[k]=(decide (0<l[k].inc)&&(decide (0≤l[k].state)&&decide (l[k].state≤2))) from rfl)
   generalize iZ l[k]=ok at *
   have Hprev:=aj (fun i (hi:i<l.length) (e:k=i+1)=>show wr.cell? ⟨b,off+i*3,none⟩=some (.int .u64 (a:Nat)) by
    obtain ⟨b2,off2,e2,hc⟩:=(Hs.out.below Hw.out).at_ hi
    injection e2 with e2
    injection e2 with e3 e4
    subst e3 e4
    rw [← H1.out i hi e]
    exact hc.c0)
   generalize l[k]=s at *
   by_cases h0:s.id=0
   ·have Hf:=aj (Hno.out (by omega))
    have e0:((s.id:Int)==0)=true:=by rw [beq_iff_eq];omega
    clear h0
    go_wp2_with fail
    go_quiet (fail)
    go_wp2_with fail
    go_ret
    exact aD Hf.out (below_drewN (Hw1.out _) _)
   have e0:((s.id:Int)==0)=false:=by rw [beq_eq_false_iff_ne];omega
   by_cases h1:s.inc=0
   ·have Hf:=aj (Hb.out (by rw [Hok.out,decide_eq_false (by omega)];rfl))
    have e1:(((s.inc:Nat):Int)==0)=true:=by rw [beq_iff_eq];omega
    clear h1 h0
    go_wp2_with fail
    go_quiet (fail)
    go_wp2_with fail
    go_ret
    exact aD Hf.out (below_drewN (Hw1.out _) _)
   have e1:(((s.inc:Nat):Int)==0)=false:=by rw [beq_eq_false_iff_ne];omega
   by_cases h2:s.state<0
   ·have Hf:=aj (Hb.out (by rw [Hok.out,decide_eq_false (show ¬ 0≤s.state by omega)];simp))
    have e2:decide (s.state<0)=true:=decide_eq_true h2
    clear h1 h0
    go_wp2_with fail
    go_quiet (fail)
    go_wp2_with fail
    go_ret
    exact aD Hf.out (below_drewN (Hw1.out _) _)
   have e2:decide (s.state<0)=false:=decide_eq_false h2
   by_cases h3:2<s.state
   ·have Hf:=aj (Hb.out (by rw [Hok.out,decide_eq_false (show ¬ s.state≤2 by omega)];simp))
    have e3:decide (2<s.state)=true:=decide_eq_true h3
    clear h1 h0
    go_wp2_with fail
    go_quiet (fail)
    go_wp2_with fail
    go_ret
    exact aD Hf.out (below_drewN (Hw1.out _) _)
   have e3:decide (2<s.state)=false:=decide_eq_false h3
   have Hn2:=aj (Hn.out (by rw [Hok.out,decide_eq_true (by omega),decide_eq_true (by omega),decide_eq_true (by omega)];rfl))
   cases k with
   | zero =>
     obtain rfl:=H0.out rfl
     have Hf:=aj (Hyes.out (by omega))
     have e4:decide (0<0)=false:=rfl
     simp only [Nat.zero_mul,Nat.add_zero] at c0 c1 c2
     clear h1 h0
     go_wp2_with fail
     go_quiet (fail)
     go_wp2_with fail
     go_roundw
     case rel=>exact ⟨1,s.id,by omega,by go_num,Hn2,Hf,aj (fun h=>by omega),Hlast,aj (below_drewN (Hw1.out _) _)⟩
     case measure=>simp [intOf] <;> omega
   | succ i =>
     have d0:=Hprev.out i (by omega) rfl
     have hne:b≠wr.heap.size:=by omega
     have i0:(0:Int)≤(i:Int):=by omega
     have i1:(i:Int)<(l.length:Int):=by omega
     have e4:decide (0<i+1)=true:=decide_eq_true (by omega)
     by_cases hxa:s.id≤a
     ·have Hf:=aj (Hno.out hxa)
      have e5:decide (s.id≤a)=true:=decide_eq_true hxa
      clear h1 h0
      go_wp2_with fail
      go_quiet (fail)
      go_wp2_with fail
      go_ret
      exact aD Hf.out (below_drewN (Hw1.out _) _)
     ·have Hf:=aj (Hyes.out (by omega))
      have e5:decide (s.id≤a)=false:=decide_eq_false hxa
      clear h1 h0
      go_wp2_with fail
      go_quiet (fail)
      go_wp2_with fail
      go_roundw
      case rel=>exact ⟨i+1+1,s.id,by omega,by go_num,Hn2,Hf,aj (fun h=>by omega),Hlast,aj (below_drewN (Hw1.out _) _)⟩
      case measure=>simp [intOf] <;> omega
  ·obtain rfl:k=l.length:=by omega
   have Hf:=aj (show jK l=inF l.length by
    unfold jK
    rw [acw (fun j hj=>Hg.out j hj hj),Hr.out,List.drop_eq_nil_of_le (by simp)]
    rfl)
   rcases xD l.length with ⟨h1,h2⟩ | ⟨h1,h3,h2⟩ | ⟨h1,h3,h2⟩
   ·have e1:decide ((1:Int)≤(l.length:Int))=false:=decide_eq_false (by omega)
    have Hf2:=aj (Hf.out.trans h2)
    clear h2
    go_wp2_with fail
    go_ret
    exact aD Hf2.out Hw.out
   ·have e1:decide ((1:Int)≤(l.length:Int))=true:=decide_eq_true (by omega)
    have e2:decide ((l.length:Int)≤16)=false:=decide_eq_false (by omega)
    have Hf2:=aj (Hf.out.trans h2)
    clear h2
    go_wp2_with fail
    go_ret
    exact aD Hf2.out Hw.out
   ·have e1:decide ((1:Int)≤(l.length:Int))=true:=decide_eq_true (by omega)
    have e2:decide ((l.length:Int)≤16)=true:=decide_eq_true (by omega)
    have Hf2:=aj (Hf.out.trans h2)
    clear h2
    go_wp2_with fail
    go_ret
    exact aD Hf2.out Hw.out
end Go.Proofs.YtpcmlopbkehffaaGreat
namespace Go.Proofs.YtpcmlopbkehffaaGreat
open Go.RowKit Ru
def je (a b:aJ):Bool:=decide (a.id=b.id)&&(decide (a.inc=b.inc)&&decide (a.state=b.state))
set_option maxRecDepth 100000 in
theorem ahc (a b:aJ) (w:World):(Op.equalIn 10000 108 (rR a) (rR b)).run Tryz.prog w = .ok (je a b) w:=by
 rw [run_equalIn_agg w 9999 108 _ _ (by kernel_rfl) (by kernel_rfl)]
 simp [Program.fieldsOf,Tryz.underlying108,Op.eqFields,part,go_sem]
 simp only [Int.ofNat_inj]
 unfold je
 repeat' split
 all_goals simp_all
theorem ahd (a b:aJ) (w:World):(binOp .neq 108 (rR a) (rR b)).run Tryz.prog w = .ok (.bool (!je a b)) w:=by
 rw [run_neq_struct,ahc]
 rfl
def eqB (a b c d:Nat):Bool:=decide (a=c)&&decide (b=d)
set_option maxRecDepth 100000 in
theorem aeQ (a b c d:Nat) (w:World):(Op.equalIn 10000 35 (.agg #[.int .u64 (a:Nat),.int .u64 (b:Nat)]) (.agg #[.int .u64 (c:Nat),.int .u64 (d:Nat)])).run Tryz.prog w = .ok (eqB a b c d) w:=by
 rw [run_equalIn_agg w 9999 35 _ _ (by kernel_rfl) (by kernel_rfl)]
 simp [Program.fieldsOf,Tryz.underlying35,Op.eqFields,part,go_sem]
 simp only [Int.ofNat_inj]
 unfold eqB
 repeat' split
 all_goals simp_all
theorem aeP (a b c d:Nat) (w:World):(binOp .eql 35 (.agg #[.int .u64 (a:Nat),.int .u64 (b:Nat)]) (.agg #[.int .u64 (c:Nat),.int .u64 (d:Nat)])).run Tryz.prog w = .ok (.bool (eqB a b c d)) w:=by
 rw [run_eql_struct,aeQ]
 rfl
def nA (p q:av):Bool:=(p.kind==q.kind)&&(((p.trace:Int)==(q.trace:Int))&&(eqB p.bn p.aZ q.bn q.aZ&&(eqB p.sn p.bM q.sn q.bM&&((p.v==q.v)&&(p.ok==q.ok)))))
def eqN (a b:Nat):Bool:=((a:Int)==(b:Int))
def cu (p q:av):Bool:=eqF iJ p.spans q.spans&&(eqF je p.members q.members&&(eqF eqN p.ids q.ids&&nA p q))
theorem akX {p q:av} (h:eqF iJ p.spans q.spans=false):cu p q=false:=by unfold cu;rw [h];rfl
theorem akY {p q:av} (h:eqF je p.members q.members=false):cu p q=false:=by unfold cu;rw [h];simp
theorem akZ {p q:av} (h:eqF eqN p.ids q.ids=false):cu p q=false:=by unfold cu;rw [h];simp
theorem ak0 {p q:av} (h1:eqF iJ p.spans q.spans=true) (h2:eqF je p.members q.members=true) (h3:eqF eqN p.ids q.ids=true):cu p q=nA p q:=by unfold cu;rw [h1,h2,h3];rfl
abbrev gB (W:World) (g:Nat) (p:av) (s:aT):Prop:=Whole W g 41 (bL p s)
set_option maxRecDepth 100000 in
set_option maxHeartbeats 16000000 in
theorem jF (p q:av) (s s':aT) (w:World) (hp:bP w p s) (hq:bP w q s') :
  Calls Tryz.prog 13 #[aM p s,aM q s'] w (iw w (cu p q)):=by
 have Ha:=aj (show Below w.heap.size w ((w.alloc (.cells (bL p s) 41)).alloc (.cells (bL q s') 41)) from ((Below.refl w.heap.size w).alloc (Nat.le_refl _) _).alloc (by simp) _)
 have B1:=aj (show gB ((w.alloc (.cells (bL p s) 41)).alloc (.cells (bL q s') 41)) w.heap.size p s from (aP w _ _).alloc _)
 have B2:=aj (show gB ((w.alloc (.cells (bL p s) 41)).alloc (.cells (bL q s') 41)) (w.heap.size+1) q s' from lG _ _ _ _ (by simp))
 have Hspn:=aj (fun (W:World) (hb:Below w.heap.size w W)=>ajU s.a1 s'.a1 _ _ s.c1 s'.c1 p.spans q.spans W (hp.r1.below hb) (hq.r1.below hb))
 have Hm1:=aj hp.r2
 have Hm2:=aj hq.r2
 have Hi1:=aj hp.r3
 have Hi2:=aj hq.r3
 have u1:=hp.r1.cap
 have u2:=hp.r1.max
 have u3:=hp.r2.cap
 have u4:=hp.r2.max
 have u5:=hp.r3.cap
 have u6:=hp.r3.max
 have v1:=hq.r1.cap
 have v2:=hq.r1.max
 have v3:=hq.r2.cap
 have v4:=hq.r2.max
 have v5:=hq.r3.cap
 have v6:=hq.r3.max
 have Hno1:=aj (akX (p:=p) (q:=q))
 have Hno2:=aj (akY (p:=p) (q:=q))
 have Hno3:=aj (akZ (p:=p) (q:=q))
 have Hyes:=aj (ak0 (p:=p) (q:=q))
 have Hsc:=aj (show nA p q=((p.kind==q.kind)&&(((p.trace:Int)==(q.trace:Int))&&(eqB p.bn p.aZ q.bn q.aZ&&(eqB p.sn p.bM q.sn q.bM&&((p.v==q.v)&&(p.ok==q.ok)))))) from rfl)
 clear hp hq
 generalize cu p q=r at *
 generalize nA p q=rs at *
 have kn:=fun (a b:aJ) (w:World)=>ahd a b w
 have kb:=fun (a b c d:Nat) (w:World)=>aeP a b c d w
 obtain ⟨k,tr,bn,bd,sn,sd,v,ok,l1,l2,l3⟩:=p
 obtain ⟨k2,tr2,bn2,bd2,sn2,sd2,vv2,ok2,m1,m2,m3⟩:=q
 obtain ⟨a1,c1,a2,c2,a3,c3⟩:=s
 obtain ⟨a1',c1',a2',c2',a3',c3'⟩:=s'
 simp only at u1 u2 u3 u4 u5 u6 v1 v2 v3 v4 v5 v6 Hspn Hm1 Hm2 Hi1 Hi2 Hno1 Hno2 Hno3 Hyes Hsc
 by_cases hl2:l2.length=m2.length
 rotate_left
 ·have Hf:=aj (Hno2.out (qV je l2 m2 hl2))
  have e1:((l2.length:Int) != (m2.length:Int))=true:=by rw [bne_iff_ne];omega
  clear hl2
  go_enter Tryz.func13,Tryz.ntmps13
  go_wp2_with fail
  go_ret
  exact aD Hf.out Ha.out
 have e1:((l2.length:Int) != (m2.length:Int))=false:=by rw [bne_eq_false_iff_eq];omega
 by_cases hl3:l3.length=m3.length
 rotate_left
 ·have Hf:=aj (Hno3.out (qV eqN l3 m3 hl3))
  have e2:((l3.length:Int) != (m3.length:Int))=true:=by rw [bne_iff_ne];omega
  clear hl2 hl3
  go_enter Tryz.func13,Tryz.ntmps13
  go_wp2_with fail
  go_ret
  exact aD Hf.out Ha.out
 have e2:((l3.length:Int) != (m3.length:Int))=false:=by rw [bne_eq_false_iff_eq];omega
 have Hl2:=aj hl2
 have Hl3:=aj hl3
 have hl2a:l2.length≤m2.length:=by omega
 have hl3a:l3.length≤m3.length:=by omega
 clear hl2 hl3
 cases hsp:eqF iJ l1 m1
 ·have Hf:=aj (Hno1.out hsp)
  rw [hsp] at Hspn
  clear hsp
  go_enter Tryz.func13,Tryz.ntmps13
  go_wp2_with fail
  refine Calls.mono (Hspn.out _ Ha.out) ?_
  rintro e w1 ⟨rfl,hb1⟩
  have Hb1:=aj (Ha.out.trans (hb1.mono Ha.out.size))
  clear hb1
  go_wp2_with fail
  go_ret
  exact aD Hf.out Hb1.out
 have Hsp:=aj hsp
 rw [hsp] at Hspn
 clear hsp
 go_enter Tryz.func13,Tryz.ntmps13
 go_wp2_with fail
 refine Calls.mono (Hspn.out _ Ha.out) ?_
 rintro e w1 ⟨rfl,hb1⟩
 have Hb1:=aj (Ha.out.trans (hb1.mono Ha.out.size))
 have P1:=aj (B1.out.below hb1 B1.out.lt)
 have P2:=aj (B2.out.below hb1 B2.out.lt)
 clear hb1
 go_wp2_with fail
 go_loopw [5] (fun vi wr=>∃ j:Nat,j≤l2.length∧vi = .int .i64 (j:Nat)∧Hid (∀ i (h1:i<l2.length) (h2:i<m2.length),i<j→je l2[i] m2[i]=true)∧Hid (gB wr w.heap.size ⟨k,tr,bn,bd,sn,sd,v,ok,l1,l2,l3⟩ ⟨a1,c1,a2,c2,a3,c3⟩)∧Hid (gB wr (w.heap.size+1) ⟨k2,tr2,bn2,bd2,sn2,sd2,vv2,ok2,m1,m2,m3⟩ ⟨a1',c1',a2',c2',a3',c3'⟩)∧Hid (Below w.heap.size w wr)) (fun vi _=>l2.length-(intOf vi).toNat)
 case atStart=>exact ⟨0,Nat.zero_le _,rfl,aj (fun i _ _ h=>absurd h (by omega)),P1,P2,Hb1⟩
 case round =>
  clear P1 P2 Hb1
  obtain ⟨j,hj,rfl,Hg,P1,P2,Hw⟩:=hrel
  have x9:=P1.out.cell 9 (.slice a2 l2.length c2) rfl
  have y9:=P2.out.cell 9 (.slice a2' m2.length c2') rfl
  by_cases hlt:j<l2.length
  ·have hlt2:j<m2.length:=by omega
   obtain ⟨b,off,rfl,s1⟩:=(Hm1.out.below Hw.out).at_ hlt
   obtain ⟨b',off',rfl,s2⟩:=(Hm2.out.below Hw.out).at_ hlt2
   obtain ⟨f0,f1,f2⟩:=s1
   obtain ⟨d0,d1,d2⟩:=s2
   have z1:(j:Int)<(l2.length:Int):=by omega
   have z3:(j:Int)<(m2.length:Int):=by omega
   have z2:(0:Int)≤(j:Int):=by omega
   have Hn:=aj (fun (h:je l2[j] m2[j]=true)=>show ∀ i (h1:i<l2.length) (h2:i<m2.length),i<j+1→je l2[i] m2[i]=true from fun i h1 h2 h3=>by
    by_cases e:i=j
    ·subst e;exact h
    ·exact Hg.out i h1 h2 (by omega))
   have Hb:=aj (fun (h:je l2[j] m2[j]=false)=>Hno2.out (qR je l2 m2 j hlt hlt2 h))
   generalize l2[j]=s at *
   generalize m2[j]=t at *
   cases hq:je s t
   ·have Hf:=aj (Hb.out hq)
    go_wp2_with fail
    go_quiet (fail)
    clear f0 f1 f2 d0 d1 d2
    go_wp2_with fail
    go_ret
    exact aD Hf.out (below_drewN Hw.out _)
   ·have Hn2:=aj (Hn.out hq)
    go_wp2_with fail
    go_quiet (fail)
    clear f0 f1 f2 d0 d1 d2
    go_wp2_with fail
    go_roundw
    case rel=>exact ⟨j+1,by omega,by go_num,Hn2,P1,P2,aj (below_drewN Hw.out _)⟩
    case measure=>simp [intOf] <;> omega
  ·obtain rfl:j=l2.length:=by omega
   have Hmm:=aj (qU je l2 m2 Hl2.out fun i h1 h2=>Hg.out i h1 h2 h1)
   go_wp2_with fail
   clear x9 y9
   go_loopw [6] (fun vi wr=>∃ j:Nat,j≤l3.length∧vi = .int .i64 (j:Nat)∧Hid (∀ i (h1:i<l3.length) (h2:i<m3.length),i<j→eqN l3[i] m3[i]=true)∧Hid (gB wr w.heap.size ⟨k,tr,bn,bd,sn,sd,v,ok,l1,l2,l3⟩ ⟨a1,c1,a2,c2,a3,c3⟩)∧Hid (gB wr (w.heap.size+1) ⟨k2,tr2,bn2,bd2,sn2,sd2,vv2,ok2,m1,m2,m3⟩ ⟨a1',c1',a2',c2',a3',c3'⟩)∧Hid (Below w.heap.size w wr)) (fun vi _=>l3.length-(intOf vi).toNat)
   case atStart=>exact ⟨0,Nat.zero_le _,rfl,aj (fun i _ _ h=>absurd h (by omega)),P1,P2,Hw⟩
   case round =>
    clear P1 P2 Hw
    obtain ⟨j,hj,rfl,Hg,P1,P2,Hw⟩:=hrel
    have x10:=P1.out.cell 10 (.slice a3 l3.length c3) rfl
    have y10:=P2.out.cell 10 (.slice a3' m3.length c3') rfl
    by_cases hlt:j<l3.length
    ·have hlt2:j<m3.length:=by omega
     obtain ⟨b,off,rfl,hc⟩:=(Hi1.out.below Hw.out).at_ (k:=j) (by simpa [eG] using hlt)
     have f0:wr.cell? ⟨b,off+j,none⟩=some (.int .u64 (l3[j]:Nat)):=by rw [hc];simp [eG]
     obtain ⟨b',off',rfl,hd⟩:=(Hi2.out.below Hw.out).at_ (k:=j) (by simpa [eG] using hlt2)
     have d0:wr.cell? ⟨b',off'+j,none⟩=some (.int .u64 (m3[j]:Nat)):=by rw [hd];simp [eG]
     clear hc hd
     have z1:(j:Int)<(l3.length:Int):=by omega
     have z3:(j:Int)<(m3.length:Int):=by omega
     have z2:(0:Int)≤(j:Int):=by omega
     have Hn:=aj (fun (h:eqN l3[j] m3[j]=true)=>show ∀ i (h1:i<l3.length) (h2:i<m3.length),i<j+1→eqN l3[i] m3[i]=true from fun i h1 h2 h3=>by
      by_cases e:i=j
      ·subst e;exact h
      ·exact Hg.out i h1 h2 (by omega))
     have Hb:=aj (fun (h:eqN l3[j] m3[j]=false)=>Hno3.out (qR eqN l3 m3 j hlt hlt2 h))
     unfold eqN at Hb Hn
     generalize l3[j]=s at *
     generalize m3[j]=t at *
     by_cases hq:s=t
     ·have e5:((s:Int) != (t:Int))=false:=by rw [bne_eq_false_iff_eq];omega
      have Hn2:=aj (Hn.out (by rw [beq_iff_eq];omega))
      clear hq
      go_wp2_with fail
      go_quiet (fail)
      clear f0 d0
      go_wp2_with fail
      go_roundw
      case rel=>exact ⟨j+1,by omega,by go_num,Hn2,P1,P2,aj (below_drewN Hw.out _)⟩
      case measure=>simp [intOf] <;> omega
     ·have e5:((s:Int) != (t:Int))=true:=by rw [bne_iff_ne];omega
      have Hf:=aj (Hb.out (by rw [beq_eq_false_iff_ne];omega))
      clear hq
      go_wp2_with fail
      go_quiet (fail)
      clear f0 d0
      go_wp2_with fail
      go_ret
      exact aD Hf.out (below_drewN Hw.out _)
    ·obtain rfl:j=l3.length:=by omega
     have Hii:=aj (qU eqN l3 m3 Hl3.out fun i h1 h2=>Hg.out i h1 h2 h1)
     have Hs0:=aj (show r=((k==k2)&&(((tr:Int)==(tr2:Int))&&(eqB bn bd bn2 bd2&&(eqB sn sd sn2 sd2&&((v==vv2)&&(ok==ok2)))))) from (Hyes.out Hsp.out Hmm.out Hii.out).trans Hsc.out)
     have x0:=P1.out.cell 0 (.int .i64 k) rfl
     have y0:=P2.out.cell 0 (.int .i64 k2) rfl
     have x1:=P1.out.cell 1 (.int .u64 (tr:Nat)) rfl
     have y1:=P2.out.cell 1 (.int .u64 (tr2:Nat)) rfl
     have x2:=P1.out.cell 2 (.int .u64 (bn:Nat)) rfl
     have y2:=P2.out.cell 2 (.int .u64 (bn2:Nat)) rfl
     have x3:=P1.out.cell 3 (.int .u64 (bd:Nat)) rfl
     have y3:=P2.out.cell 3 (.int .u64 (bd2:Nat)) rfl
     have x4:=P1.out.cell 4 (.int .u64 (sn:Nat)) rfl
     have y4:=P2.out.cell 4 (.int .u64 (sn2:Nat)) rfl
     have x5:=P1.out.cell 5 (.int .u64 (sd:Nat)) rfl
     have y5:=P2.out.cell 5 (.int .u64 (sd2:Nat)) rfl
     have x6:=P1.out.cell 6 (.int .i64 v) rfl
     have y6:=P2.out.cell 6 (.int .i64 vv2) rfl
     have x7:=P1.out.cell 7 (.bool ok) rfl
     have y7:=P2.out.cell 7 (.bool ok2) rfl
     cases q1:(k==k2)
     ·have Hf:=aj (show r=false from Hs0.out.trans (by rw [q1];exact Bool.false_and _))
      go_wp2_with fail
      go_ret
      exact aD Hf.out Hw.out
     have Hs1:=aj (show r=(((tr:Int)==(tr2:Int))&&(eqB bn bd bn2 bd2&&(eqB sn sd sn2 sd2&&((v==vv2)&&(ok==ok2))))) from Hs0.out.trans (by rw [q1];exact Bool.true_and _))
     cases q2:((tr:Int)==(tr2:Int))
     ·have Hf:=aj (show r=false from Hs1.out.trans (by rw [q2];exact Bool.false_and _))
      go_wp2_with fail
      go_ret
      exact aD Hf.out Hw.out
     have Hs2:=aj (show r=(eqB bn bd bn2 bd2&&(eqB sn sd sn2 sd2&&((v==vv2)&&(ok==ok2)))) from Hs1.out.trans (by rw [q2];exact Bool.true_and _))
     cases q3:eqB bn bd bn2 bd2
     ·have Hf:=aj (show r=false from Hs2.out.trans (by rw [q3];exact Bool.false_and _))
      go_wp2_with fail
      go_ret
      exact aD Hf.out Hw.out
     have Hs3:=aj (show r=(eqB sn sd sn2 sd2&&((v==vv2)&&(ok==ok2))) from Hs2.out.trans (by rw [q3];exact Bool.true_and _))
     cases q4:eqB sn sd sn2 sd2
     ·have Hf:=aj (show r=false from Hs3.out.trans (by rw [q4];exact Bool.false_and _))
      go_wp2_with fail
      go_ret
      exact aD Hf.out Hw.out
     have Hs4:=aj (show r=((v==vv2)&&(ok==ok2)) from Hs3.out.trans (by rw [q4];exact Bool.true_and _))
     cases q5:(v==vv2)
     ·have Hf:=aj (show r=false from Hs4.out.trans (by rw [q5];exact Bool.false_and _))
      go_wp2_with fail
      go_ret
      exact aD Hf.out Hw.out
     have Hs5:=aj (show r=(ok==ok2) from Hs4.out.trans (by rw [q5];exact Bool.true_and _))
     cases q6:(ok==ok2)
     ·have Hf:=aj (show r=false from Hs5.out.trans (by rw [q6]))
      go_wp2_with fail
      go_ret
      exact aD Hf.out Hw.out
     have Hs6:=aj (show r=true from Hs5.out.trans (by rw [q6]))
     have Hf:=aj (show r=true from Hs6.out)
     go_wp2_with fail
     go_ret
     exact aD Hf.out Hw.out
end Go.Proofs.YtpcmlopbkehffaaGreat
