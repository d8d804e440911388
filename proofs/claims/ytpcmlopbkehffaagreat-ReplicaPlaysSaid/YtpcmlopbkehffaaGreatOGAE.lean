/-
  Files that lose what was not synced: plain mathematics.
-/
import Derived.Test.YtpcmlopbkehffaaGreatOGAA
import Derived.Maps.RangeWalk
import Derived.Lib.SlKeysI
import Derived.Deep.QuietTactic
import Derived.BigQuiet
set_option linter.unusedSimpArgs false
set_option linter.unusedVariables false
namespace Go.Proofs.YtpcmlopbkehffaaGreat
namespace Dsk
structure fV where
 all:List UInt8
 fast:Nat
abbrev Files:=Nat→Option fV
structure ak where
 room:Nat
 F : Files
 armed:Bool
 left:Nat
 down:Bool
def bV (F:Files) (j:Nat):Nat:=match F j with | some f=>f.all.length | none=>0
def dV (p:Nat→Bool) (F:Files):Nat→Nat
 | 0=>0
 | n+1=>dV p F n+if p n then bV F n else 0
def bR (F:Files):Nat:=dV (fun _=>true) F 64
theorem zK {p q:Nat→Bool} {F:Files} : ∀ n,(∀ j,j<n→p j=q j)→dV p F n=dV q F n
 | 0,_=>rfl
 | n+1,h=>by rw [dV,dV,zK n (fun j hj=>h j (by omega)),h n (by omega)]
theorem adX {p q:Nat→Bool} {F:Files} : ∀ n,(∀ j,j<n→p j=true→q j=true)→dV p F n≤dV q F n
 | 0,_=>Nat.le_refl _
 | n + 1,h=>by
   have h1:=adX (F:=F) n (fun j hj=>h j (by omega))
   have h2:=h n (by omega)
   rw [dV,dV]
   cases hp:p n
   ·simp only [Bool.false_eq_true,if_false];omega
   ·rw [h2 hp];simp only [if_true];omega
theorem adY {p q:Nat→Bool} {F:Files} {x:Nat} (hp:p x=false) (hq:q x=true) (h:∀ j,j≠x→p j=q j):∀ n,x<n→dV q F n=dV p F n+bV F x
 | 0,h0=>by omega
 | n + 1,h0=>by
   rw [dV,dV]
   by_cases e:x=n
   ·subst e
    rw [hp,hq,zK (p:=q) (q:=p) x (fun j hj=>(h j (by omega)).symm)]
    simp
   ·rw [adY hp hq h n (by omega),h n (fun e2=>e e2.symm)]
    omega
theorem adL (F:Files) (p:Nat→Bool) {j:Nat} (hp:p j=true):∀ n,j<n→bV F j≤dV p F n
 | 0,h=>by omega
 | n + 1,h=>by
   rw [dV]
   by_cases e:j=n
   ·subst e;rw [hp];simp
   ·have:=adL F p hp n (by omega);omega
theorem qo (F:Files) {j:Nat} (hj:j<64):bV F j≤bR F:=adL F _ rfl 64 hj
def aW (F:Files) (j:Nat) (f:Option fV):Files:=fun i=>if i=j then f else F i
theorem eX (F:Files) (j:Nat) (f:Option fV):aW F j f j=f:=by simp [aW]
theorem cZ (F:Files) {j i:Nat} (f:Option fV) (h:i≠j):aW F j f i=F i:=by simp [aW,h]
theorem adM (F:Files) {j i:Nat} (f:Option fV) (h:i≠j):bV (aW F j f) i=bV F i:=by simp [bV,cZ F f h]
theorem adW {p:Nat→Bool} {F G:Files} : ∀ n,(∀ j,j<n→bV F j=bV G j)→dV p F n=dV p G n
 | 0,_=>rfl
 | n+1,h=>by rw [dV,dV,adW n (fun j hj=>h j (by omega)),h n (by omega)]
theorem sP (F:Files) (f:Option fV) {j:Nat} : ∀ n,j<n→dV (fun _=>true) (aW F j f) n+bV F j=dV (fun _=>true) F n+bV (aW F j f) j
 | 0,h=>by omega
 | n + 1,h=>by
   rw [dV,dV]
   by_cases e:j=n
   ·subst e
    rw [adW (F:=aW F j f) (G:=F) j (fun i hi=>adM F f (by omega))]
    simp
    omega
   ·have:=sP F f n (show j<n by omega)
    rw [adM F f (fun e2=>e e2.symm)]
    simp only [if_true]
    omega
def fileAt (F:Files) (j:Nat):fV:=match F j with | some f=>f | none=>⟨[],0⟩
theorem sK (F:Files) (j:Nat):bV F j=(fileAt F j).all.length:=by
 unfold bV fileAt
 cases F j <;> rfl
def cO (F:Files) (j:Nat) (b:List UInt8):Files:=aW F j (some ⟨(fileAt F j).all++b,(fileAt F j).fast⟩)
theorem sO (F:Files) (b:List UInt8) {j:Nat} (hj:j<64):bR (cO F j b)=bR F+b.length:=by
 have h:=sP F (some ⟨(fileAt F j).all++b,(fileAt F j).fast⟩) 64 hj
 have h2:bV (aW F j (some ⟨(fileAt F j).all++b,(fileAt F j).fast⟩)) j=bV F j+b.length:=by
  rw [sK F j]
  simp [bV,eX]
 rw [h2] at h
 unfold bR cO
 omega
structure DOk (d:ak):Prop where
 ko:1≤d.room
 fM:d.room≤1048576
 used:bR d.F≤d.room
 fast:∀ j f,d.F j=some f→f.fast≤f.all.length
 high:∀ j,64≤j→d.F j=none
 left:d.left≤9223372036854775807
def noF:Files:=fun _=>none
def mV (room:Nat):ak:=⟨room,noF,false,0,false⟩
theorem vD:bR noF=0:=by decide
theorem ahr {room:Nat} (h1:1≤room) (h2:room≤1048576):DOk (mV room) :=
 ⟨h1,h2,by show bR noF≤room;rw [vD];omega,fun j f h=>(by cases h),fun _ _=>rfl,by show 0≤_;omega⟩
def takeN (d:ak) (n:Nat):Nat:=if d.armed then min n d.left else n
def iN (d:ak) (n:Nat):Nat:=if d.armed then d.left-takeN d n else d.left
theorem ad2 (d:ak) (n:Nat):takeN d n≤n:=by unfold takeN;split <;> omega
def nJ (d:ak) (j:Nat) (b:List UInt8):ak:=⟨d.room,cO d.F j (b.take (takeN d b.length)),d.armed,iN d b.length,if takeN d b.length<b.length then true else d.down⟩
def bU (d:ak) (file:Int) (n:Nat):Int :=
 if d.down then 10 else if file<0∨64≤file then 1 else if d.room<bR d.F+n then 9 else if takeN d n<n then 10 else 0
def bX (d:ak) (file:Int) (b:List UInt8):ak :=
 if d.down then d else if file<0∨64≤file then d else if d.room<bR d.F+b.length then d else nJ d file.toNat b
theorem ab7 {F:Files} (h:∀ j f,F j=some f→f.fast≤f.all.length) (i:Nat) (b:List UInt8):∀ j f,cO F i b j=some f→f.fast≤f.all.length:=by
 intro j f hf
 by_cases e:j=i
 ·subst e
  rw [cO,eX] at hf
  cases hf
  show (fileAt F j).fast≤((fileAt F j).all++b).length
  rw [List.length_append]
  have:(fileAt F j).fast≤(fileAt F j).all.length:=by
   unfold fileAt
   cases hF:F j with
   | none=>simp
   | some g=>exact h j g hF
  omega
 ·rw [cO,cZ F _ e] at hf
  exact h j f hf
theorem wC {d:ak} (h:DOk d) {j:Nat} (hj:j<64) {b:List UInt8} (hb:bR d.F+b.length≤d.room):DOk (nJ d j b):=by
 refine ⟨h.ko,h.fM,?_,ab7 h.fast j _,?_,?_⟩
 ·show bR (cO d.F j _)≤d.room
  rw [sO _ _ hj,List.length_take]
  omega
 ·intro i hi
  show cO d.F j _ i=none
  rw [cO,cZ _ _ (by omega)]
  exact h.high i hi
 ·show iN d b.length≤_
  have:=h.left
  unfold iN
  split <;> omega
theorem wB {d:ak} (h:DOk d) (file:Int) (b:List UInt8):DOk (bX d file b):=by
 unfold bX
 split
 ·exact h
 split
 ·exact h
 split
 ·exact h
 ·exact wC h (by omega) (by omega)
def bE (d:ak) (file:Int):Int:=if d.down then 10 else if 0≤file∧(d.F file.toNat).isSome then 0 else 11
theorem ask_cases (d:ak) (file:Int) (h:DOk d):(bE d file=0∧d.down=false∧∃ j f,file=(j:Nat)∧j<64∧d.F j=some f)∨(bE d file≠0):=by
 unfold bE
 cases hd:d.down
 ·by_cases hc:0≤file∧(d.F file.toNat).isSome
  ·left
   refine ⟨by simp [hc],rfl,file.toNat,?_⟩
   obtain ⟨f,hf⟩:=Option.isSome_iff_exists.1 hc.2
   refine ⟨f,by omega,?_,hf⟩
   rcases Nat.lt_or_ge file.toNat 64 with h1 | h1
   ·exact h1
   ·rw [h.high _ h1] at hf;cases hf
  ·right;simp [hc]
 ·right;simp
def zN (F:Files) (j:Nat):Files:=aW F j (some ⟨(fileAt F j).all,(fileAt F j).all.length⟩)
def qY (F:Files) (j n:Nat):Files:=aW F j (some ⟨(fileAt F j).all.take n,n⟩)
def dM (d:ak) (F:Files):ak := {d with F:=F}
def eF (d:ak) (file:Int):ak:=if bE d file=0 then dM d (zN d.F file.toNat) else d
def iA (d:ak) (file size:Int):Int:=if bE d file=0 then (if size<0∨((fileAt d.F file.toNat).all.length:Int)<size then 1 else 0) else bE d file
def gV (d:ak) (file size:Int):ak:=if iA d file size=0∧bE d file=0 then dM d (qY d.F file.toNat size.toNat) else d
def fG (d:ak) (file:Int):ak:=if bE d file=0 then dM d (aW d.F file.toNat none) else d
def kV (d:ak) (file:Int):List UInt8:=if bE d file=0 then (fileAt d.F file.toNat).all else []
def jy (d:ak) (n:Int):ak := {d with armed:=decide (0≤n),left:=n.toNat}
theorem gG {F:Files} {j:Nat} {f:fV} (h:F j=some f):fileAt F j=f:=by simp [fileAt,h]
theorem vv {F:Files} {j:Nat} {f:fV} (h:F j=some f):bV F j=f.all.length:=by simp [bV,h]
theorem zF {d:ak} (h:DOk d) {j:Nat} (hj:j<64) (f:Option fV) (h1:∀ g,f=some g→g.fast≤g.all.length∧g.all.length≤bV d.F j):DOk (dM d (aW d.F j f)):=by
 refine ⟨h.ko,h.fM,?_,?_,?_,h.left⟩
 ·show bR (aW d.F j f)≤d.room
  have h2:=sP d.F f 64 hj
  have h3:bV (aW d.F j f) j≤bV d.F j:=by
   cases f with
   | none=>simp [bV,eX]
   | some g=>rw [vv (eX d.F j (some g))];exact (h1 g rfl).2
  have h4:=h.used
  unfold bR at *
  omega
 ·intro i g hg
  by_cases e:i=j
  ·subst e
   rw [show (dM d (aW d.F i f)).F i=aW d.F i f i from rfl,eX] at hg
   exact (h1 g hg).1
  ·rw [show (dM d (aW d.F j f)).F i=aW d.F j f i from rfl,cZ _ _ e] at hg
   exact h.fast i g hg
 ·intro i hi
  rw [show (dM d (aW d.F j f)).F i=aW d.F j f i from rfl,cZ _ _ (by omega)]
  exact h.high i hi
theorem zM {d:ak} (h:DOk d) (file:Int):DOk (eF d file):=by
 unfold eF
 split
 ·rcases ask_cases d file h with ⟨_,_,j,f,rfl,hj,hf⟩ | h2
  ·rw [Int.toNat_natCast]
   exact zF h hj _ (fun g hg=>by cases hg;rw [sK];exact ⟨Nat.le_refl _,Nat.le_refl _⟩)
  ·contradiction
 ·exact h
theorem wS {d:ak} (h:DOk d) (file size:Int):DOk (gV d file size):=by
 unfold gV
 split
 ·rename_i hc
  rcases ask_cases d file h with ⟨_,_,j,f,rfl,hj,hf⟩ | h2
  ·have h3:=hc.1
   rw [iA,if_pos hc.2] at h3
   split at h3
   ·cases h3
   ·rename_i hs
    simp only [Int.toNat_natCast] at *
    refine zF h hj _ (fun g hg=>?_)
    cases hg
    rw [sK]
    simp only [List.length_take]
    omega
  ·exact absurd hc.2 h2
 ·exact h
theorem uT {d:ak} (h:DOk d) (file:Int):DOk (fG d file):=by
 unfold fG
 split
 ·rcases ask_cases d file h with ⟨_,_,j,f,rfl,hj,hf⟩ | h2
  ·rw [Int.toNat_natCast]
   exact zF h hj _ (fun g hg=>by cases hg)
  ·contradiction
 ·exact h
theorem wH {d:ak} (h:DOk d) {n:Int} (hn:n≤9223372036854775807):DOk (jy d n) :=
 ⟨h.ko,h.fM,h.used,h.fast,h.high,by show n.toNat≤_;omega⟩
def fZ (F:Files) (n:Nat):List Nat:=(List.range n).filter (fun j=>(F j).isSome)
def dW (F:Files):List Nat:=fZ F 64
theorem pI (F:Files) (n:Nat):fZ F (n+1)=fZ F n++if (F n).isSome then [n] else []:=by
 unfold fZ
 rw [List.range_succ,List.filter_append]
 congr 1
 simp [List.filter_cons]
theorem xY {F:Files} {n j:Nat} : j∈fZ F n ↔ j<n∧(F j).isSome=true:=by simp [fZ]
def rank (F:Files) (j:Nat):Nat:=(fZ F j).length
theorem adb (F:Files) (j:Nat):rank F (j+1)=rank F j+if (F j).isSome then 1 else 0:=by
 unfold rank
 rw [pI,List.length_append]
 split <;> simp
theorem ajk (F:Files) {i j:Nat} (h:i≤j):rank F i≤rank F j:=by
 induction j with
 | zero => obtain rfl:i=0:=by omega
           exact Nat.le_refl _
 | succ j ih =>
   by_cases e:i=j+1
   ·subst e;exact Nat.le_refl _
   ·have:=ih (by omega);rw [adb];omega
theorem yV (F:Files) {i j:Nat} (h:i<j) (hi:(F i).isSome=true):rank F i<rank F j:=by
 have h1:=ajk F (show i+1≤j from h)
 rw [adb,hi] at h1
 simp at h1
 omega
theorem ajj (F:Files) {i j:Nat} (hi:(F i).isSome=true) (hj:(F j).isSome=true) (h:rank F i=rank F j):i=j:=by
 rcases Nat.lt_trichotomy i j with h1 | h1 | h1
 ·have:=yV F h1 hi;omega
 ·exact h1
 ·have:=yV F h1 hj;omega
theorem abC (F:Files):∀ n k,(hk:k<(fZ F n).length)→rank F ((fZ F n)[k])=k∧(F ((fZ F n)[k])).isSome=true∧(fZ F n)[k]<n
 | 0,k,hk=>by simp [fZ] at hk
 | n + 1,k,hk=>by
   by_cases h:k<(fZ F n).length
   ·have e:(fZ F (n+1))[k]=(fZ F n)[k]:=by
     simp only [pI]
     rw [List.getElem_append_left h]
    rw [e]
    obtain ⟨h1,h2,h3⟩:=abC F n k h
    exact ⟨h1,h2,by omega⟩
   ·have hk2:=hk
    rw [pI,List.length_append] at hk2
    cases hs:(F n).isSome
    ·rw [hs] at hk2;simp at hk2;omega
    ·rw [hs] at hk2
     simp at hk2
     have e0:k=(fZ F n).length:=by omega
     have e:(fZ F (n+1))[k]=n:=by
      simp only [pI,hs,if_true]
      rw [List.getElem_append_right (by omega)]
      simp
     rw [e]
     exact ⟨e0.symm,hs,by omega⟩
theorem xu (F:Files):(dW F).length≤64:=by
 have:=List.length_filter_le (fun j=>(F j).isSome) (List.range 64)
 rw [List.length_range] at this
 exact this
theorem aji (F:Files) {j:Nat} (hj:j<64) (h:(F j).isSome=true):rank F j<(dW F).length:=yV F hj h
theorem yQ (F:Files) (n:Nat):(fZ F n).Pairwise (· < ·):=(List.pairwise_lt_range).filter _
def jm (keep:List Int) (i loose:Nat):Nat:=if h:i<keep.length then min (keep[i].toNat) loose else 0
theorem uE (keep:List Int) (i loose:Nat):jm keep i loose≤loose:=by unfold jm;split <;> omega
def crashed (keep:List Int) (i:Nat) (f:fV):fV:=⟨f.all.take (f.fast+jm keep i (f.all.length-f.fast)),f.fast+jm keep i (f.all.length-f.fast)⟩
def eU (F:Files) (keep:List Int) (k:Nat):Files:=fun j=>match F j with | some f=>some (if rank F j<k then crashed keep (rank F j) f else f) | none=>none
theorem afn (F:Files) (keep:List Int):eU F keep 0=F:=by
 funext j
 unfold eU
 cases F j <;> simp
theorem abh (F:Files) (keep:List Int) {k j:Nat} {f:fV} (hr:rank F j=k) (hf:F j=some f):eU F keep (k+1)=aW (eU F keep k) j (some (crashed keep k f)):=by
 funext i
 by_cases e:i=j
 ·subst e
  rw [eX]
  unfold eU
  rw [hf]
  simp [hr]
 ·rw [cZ _ _ e]
  unfold eU
  cases hi:F i with
  | none=>rfl
  | some g =>
    have:rank F i≠k:=fun h2=>e (ajj F (by rw [hi];rfl) (by rw [hf];rfl) (h2.trans hr.symm))
    by_cases h3:rank F i<k
    ·simp only [if_pos h3,if_pos (show rank F i<k+1 by omega)]
    ·simp only [if_neg h3,if_neg (show ¬ rank F i<k+1 by omega)]
theorem afm (F:Files) (keep:List Int) {k j:Nat} {f:fV} (hr:k≤rank F j) (hf:F j=some f):eU F keep k j=some f:=by
 unfold eU
 rw [hf]
 simp only [if_neg (show ¬ rank F j<k by omega)]
def mQ (F:Files) (keep:List Int):Files:=eU F keep (dW F).length
def iL (d:ak) (keep:List Int):ak:=⟨d.room,mQ d.F keep,false,0,false⟩
theorem abf {F:Files} {keep:List Int} {j:Nat} {f:fV} (hj:j<64) (hf:F j=some f):mQ F keep j=some (crashed keep (rank F j) f):=by
 unfold mQ eU
 have h:=aji F hj (by rw [hf];rfl)
 rw [hf]
 simp only [if_pos h]
theorem abg {F:Files} {keep:List Int} {j:Nat} (hf:F j=none):mQ F keep j=none:=by
 unfold mQ eU
 rw [hf]
theorem wR {d:ak} (h:DOk d) (keep:List Int) (k:Nat):DOk (dM d (eU d.F keep k)):=by
 have hc:∀ i f,f.fast≤f.all.length→(crashed keep i f).fast≤(crashed keep i f).all.length∧(crashed keep i f).all.length≤f.all.length:=by
  intro i f hf
  have:=uE keep i (f.all.length-f.fast)
  unfold crashed
  simp only [List.length_take]
  omega
 have hs:∀ j,bV (eU d.F keep k) j≤bV d.F j:=by
  intro j
  cases hf:d.F j with
  | none=>simp [bV,eU,hf]
  | some f =>
    rw [vv hf]
    simp only [bV,eU,hf]
    split
    ·exact (hc _ f (h.fast j f hf)).2
    ·exact Nat.le_refl _
 have hsum:∀ n,dV (fun _=>true) (eU d.F keep k) n≤dV (fun _=>true) d.F n:=by
  intro n
  induction n with
  | zero=>exact Nat.le_refl _
  | succ n ih=>rw [dV,dV];have:=hs n;simp only [if_true];omega
 refine ⟨h.ko,h.fM,Nat.le_trans (hsum 64) h.used,?_,?_,h.left⟩
 ·intro j f hf
  rw [show (dM d (eU d.F keep k)).F=eU d.F keep k from rfl] at hf
  unfold eU at hf
  cases hF:d.F j with
  | none=>rw [hF] at hf;cases hf
  | some g =>
    rw [hF] at hf
    simp only at hf
    split at hf
    ·cases hf;exact (hc _ g (h.fast j g hF)).1
    ·cases hf;exact h.fast j _ hF
 ·intro j hj
  show eU d.F keep k j=none
  unfold eU
  rw [h.high j hj]
theorem wQ {d:ak} (h:DOk d) (keep:List Int):DOk (iL d keep):=by
 have h1:=wR h keep (dW d.F).length
 exact ⟨h1.ko,h1.fM,h1.used,h1.fast,h1.high,by show 0≤_;omega⟩
end Dsk
end Go.Proofs.YtpcmlopbkehffaaGreat
namespace Go.Proofs.YtpcmlopbkehffaaGreat
open Go.RowKit
open Go.Maps (Keyed keyOf_int_mk int_keyed)
structure Tn (Q:Nat→Prop) (w w':World):Prop where
 os:w'.os=w.os
 tape:w'.tape=w.tape
 output:w'.output=w.output
 size:w.heap.size≤w'.heap.size
 block:∀ i,i<w.heap.size→¬ Q i→w'.heap[i]? = w.heap[i]?
theorem Tn.refl (Q:Nat→Prop) (w:World):Tn Q w w:=⟨rfl,rfl,rfl,Nat.le_refl _,fun _ _ _=>rfl⟩
theorem Tn.trans {Q Q':Nat→Prop} {a b c:World} (h:Tn Q a b) (k:Tn Q' b c) (hq:∀ q,Q' q→Q q∨a.heap.size≤q):Tn Q a c :=
 ⟨k.os.trans h.os,k.tape.trans h.tape,k.output.trans h.output,Nat.le_trans h.size k.size,fun i hi hne=>(k.block i (Nat.lt_of_lt_of_le hi h.size) (fun e=>by
  rcases hq i e with h1 | h1
  ·exact hne h1
  ·omega)).trans (h.block i hi hne)⟩
theorem Tn.grown {Q:Nat→Prop} {a b c:World} {row:Option Nat} (h:Tn Q a b) (k:b.grownBy c row) (hr:∀ j,row=some j→Q j∨a.heap.size≤j):Tn Q a c :=
 h.trans (Q':=fun q=>row=some q) ⟨k.os,k.tape,k.output,k.size,fun i hi hne=>k.block i hi (fun e=>hne e.symm)⟩ hr
theorem Tn.of_below {Q:Nat→Prop} {w w':World} (h:Below w.heap.size w w'):Tn Q w w':=⟨h.os,h.tape,h.output,h.size,fun i hi _=>h.block i hi⟩
theorem Tn.iQ {Q:Nat→Prop} {a b c:World} (h:Tn Q a b) (k:Below b.heap.size b c):Tn Q a c:=h.trans (Q':=fun _=>False) (Tn.of_below k) (fun _ e=>e.elim)
theorem Tn.alloc {Q:Nat→Prop} {a b:World} (h:Tn Q a b) (o:Obj):Tn Q a (b.alloc o):=h.iQ ((Below.refl _ _).alloc (Nat.le_refl _) o)
theorem Tn.drew {Q:Nat→Prop} {a b:World} (h:Tn Q a b):Tn Q a b.drew:=⟨h.os,h.tape,h.output,h.size,h.block⟩
theorem Tn.set {Q:Nat→Prop} {a b:World} (h:Tn Q a b) {g:Nat} (hg:Q g∨a.heap.size≤g) (i:Nat) (v:Value):Tn Q a (b.setCell ⟨g,i,none⟩ v) :=
 ⟨h.os,h.tape,h.output,by simpa using h.size,fun j hj hne=>(Below.heap_setCell b _ v j (by
  rintro rfl
  rcases hg with h1 | h1
  ·exact hne h1
  ·exact absurd hj (Nat.not_lt.2 h1))).trans (h.block j hj hne)⟩
theorem Tn.below {Q:Nat→Prop} {B:Nat} {a b c:World} (h:Below B a b) (k:Tn Q b c) (hq:∀ q,Q q→B≤q) (hB:B≤b.heap.size):Below B a c :=
 ⟨k.os.trans h.os,k.tape.trans h.tape,k.output.trans h.output,Nat.le_trans h.size k.size,fun i hi=>(k.block i (by omega) (fun e=>by have:=hq i e;omega)).trans (h.block i hi)⟩
theorem Tn.sub {Q Q':Nat→Prop} {a b:World} (h:Tn Q a b) (hq:∀ q,Q q→Q' q):Tn Q' a b:=⟨h.os,h.tape,h.output,h.size,fun i hi hne=>h.block i hi (fun e=>hne (hq i e))⟩
theorem Whole.tn {Q:Nat→Prop} {w w':World} {g:Nat} {t:TypeId} {cs:Array Value} (h:Whole w g t cs) (k:Tn Q w w') (hg:¬ Q g):Whole w' g t cs:=(k.block g h.lt hg).trans h
theorem Sl.tn {Q:Nat→Prop} {w w':World} {A:Option Addr} {n c:Nat} {l:List UInt8} (h:Sl w A n c l) (k:Tn Q w w') (ha:∀ a,A=some a→l≠[]→¬ Q a.block):Sl w' A n c l:=by
 refine ⟨?_,h.len,h.cap,h.max,h.nil⟩
 intro hne
 obtain ⟨b,off,e,hc⟩:=h.holds hne
 refine ⟨b,off,e,fun i u hu=>?_⟩
 have h1:=hc i u hu
 rw [← h1]
 exact World.cell?_of_block (k.block b (lt_of_cell h1) (ha _ e (by rintro rfl;exact hne rfl)))
def aB (A:Option Addr):Option Nat:=A.map (·.block)
theorem fT (A:Option Addr) (n c:Nat):(Value.slice A n c).ownBlock=aB A:=by cases A <;> rfl
theorem Own.stands {B:Nat} {w w':World} {A:Option Addr} {n c:Nat} {l:List UInt8} (h:Own B w A n c l) (hk:∀ k,aB A=some k→w'.heap[k]? = w.heap[k]?):Own B w' A n c l:=by
 obtain ⟨hx,h | ⟨g,cap,cur,e,hg,hh,r⟩⟩:=h
 ·exact ⟨hx,.inl h⟩
 ·refine ⟨hx,.inr ⟨g,cap,cur,e,hg,?_,r⟩⟩
  injection e with e1
  subst e1
  rw [← hh]
  exact hk g rfl
theorem Own.dB {B:Nat} {w:World} {A:Option Addr} {n c:Nat} {l:List UInt8} (h:Own B w A n c l):∀ k,aB A=some k→k<w.heap.size:=by
 intro k hk
 rw [← fT A n c] at hk
 exact (World.ownsRow.lt h k hk).2
namespace Dsk
def elemV (A:Option Addr) (n c:Nat) (f:Int):Value := .agg #[.slice A n c,.int .i64 f]
def eu (v:Value):Option (DataW Value×List MemPlace):=some (.held v,[])
abbrev kx (x:Int):Lit := .int .i64 x
theorem kI:Keyed Tryz.prog 3:=int_keyed Tryz.underlying3
theorem agB {x:Int} (h1 : -9223372036854775808≤x) (h2:x≤9223372036854775807):(Lit.int .i64 x).wf=true:=by
 simp [Lit.wf,IntKind.min,IntKind.max,IntKind.bits,IntKind.signed]
 omega
theorem lW {x:Int} (h1 : -9223372036854775808≤x) (h2:x≤9223372036854775807):keyOf Tryz.prog 3 (.int .i64 x)=some (kx x):=keyOf_int_mk Tryz.underlying3 (agB h1 h2)
theorem rJ {x y:Int} (h:x≠y):kx x≠kx y:=fun e=>h (by injection e)
theorem zeroE (w:World):(zeroValue 119).run Tryz.prog w = .ok (elemV none 0 0 0) w:=by kernel_rfl
structure dN (w:World) (g b:Nat) (Q:Nat→Prop) (F:Files) (D:DataW Value) (V:Nat→Option Addr×Nat):Prop where
 own:∃ n,w.ownsMap Tryz.prog 3 eu b n D
 bq:Q b
 bg:b≠g
 has:∀ x:Int,Maps.has D (kx x)=(decide (0≤x)&&(F x.toNat).isSome)
 at_:∀ (j:Nat) f,F j=some f→∀ z,D.atKey (kx (j:Nat)) z = .held (elemV (V j).1 f.all.length (V j).2 (f.fast:Nat))
 row:∀ j f,F j=some f→Own 0 w (V j).1 f.all.length (V j).2 f.all
 blk:∀ j k,(F j).isSome=true→aB (V j).1=some k→Q k∧k≠b∧k≠g
 apart:∀ i j k,(F i).isSome=true→(F j).isSome=true→i≠j→aB (V i).1=some k→aB (V j).1≠some k
theorem dN.aga {w:World} {g b:Nat} {Q:Nat→Prop} {F:Files} {D:DataW Value} {V:Nat→Option Addr×Nat} (h:dN w g b Q F D V) (j:Nat):Maps.has D (kx (j:Nat))=(F j).isSome:=by
 rw [h.has]
 simp
theorem dN.keys {w:World} {g b:Nat} {Q:Nat→Prop} {F:Files} {D:DataW Value} {V:Nat→Option Addr×Nat} (h:dN w g b Q F D V) (hh:∀ j,64≤j→F j=none) :
  ((dW F).map (fun j:Nat=>(j:Int))).Perm (intKeys D):=by
 obtain ⟨n,hn⟩:=h.own
 have hn':=hn
 obtain ⟨es,rfl,hp,_⟩:=hn.entries kI
 refine perm_intKeys hp ?_ ?_ ?_
 ·intro p hp2
  obtain ⟨es',clock,hb,F',hs,hD⟩:=hn'
  injection hD with hD
  rw [hD] at hp2
  obtain ⟨x,hx,rfl⟩:=List.mem_map.1 (mem_sorted.1 hp2)
  obtain ⟨y,hy⟩:=F'.reads x hx
  rw [Go.WideElems.rg_of hy]
  obtain ⟨x',_,e,_⟩:=Maps.keyOf_i64 Tryz.underlying3 (Go.WideElems.rd_key hy)
  exact ⟨x',e⟩
 ·exact List.pairwise_map.2 ((yQ F 64).imp (fun {a b} hab e=>by
   have:a=b:=by exact_mod_cast e
   omega))
 ·intro x
  rw [h.has,List.mem_map]
  constructor
  ·rintro ⟨j,hj,rfl⟩
   have:=(xY.1 hj).2
   simp [this]
  ·intro hx
   simp only [Bool.and_eq_true,decide_eq_true_eq] at hx
   refine ⟨x.toNat,xY.2 ⟨?_,hx.2⟩,by omega⟩
   rcases Nat.lt_or_ge x.toNat 64 with h1 | h1
   ·exact h1
   ·rw [hh _ h1] at hx;cases hx.2
theorem agr {D:DataW Value} : (intKeys D).length=Maps.size D:=by
 cases D <;> simp [intKeys,Maps.size]
theorem dN.size {w:World} {g b:Nat} {Q:Nat→Prop} {F:Files} {D:DataW Value} {V:Nat→Option Addr×Nat} (h:dN w g b Q F D V) (hh:∀ j,64≤j→F j=none):Maps.size D≤64:=by
 rw [← agr,← (h.keys hh).length_eq,List.length_map]
 exact xu F
theorem aix {w:World} {b n:Nat} {D:DataW Value} (h:w.ownsMap Tryz.prog 3 eu b n D):w.ownsMap Tryz.prog 3 eu b (Maps.size D) D:=by
 obtain ⟨es,clock,hb,F,hs,rfl⟩:=h
 exact ⟨es,clock,hb,F,by simp [Maps.size,length_sorted],rfl⟩
theorem dN.owns {w:World} {g b:Nat} {Q:Nat→Prop} {F:Files} {D:DataW Value} {V:Nat→Option Addr×Nat} (h:dN w g b Q F D V) (hh:∀ j,64≤j→F j=none):w.ownsMap Tryz.prog 3 eu b 64 D:=by
 obtain ⟨n,hn⟩:=h.own
 exact (aix hn).mono (h.size hh)
theorem dN.agx {w:World} {g b:Nat} {Q:Nat→Prop} {F:Files} {D:DataW Value} {V:Nat→Option Addr×Nat} (h:dN w g b Q F D V) (hh:∀ j,64≤j→F j=none) {ss:List Int} (hs:ss.Perm (intKeys D)) :
  ss.mergeSort (fun x y=>decide (x≤y))=(dW F).map (fun j:Nat=>(j:Int)):=by
 have h1:(ss.mergeSort (fun x y=>decide (x≤y))).Perm ((dW F).map (fun j:Nat=>(j:Int))):=((List.mergeSort_perm ss _).trans hs).trans (h.keys hh).symm
 refine List.Perm.eq_of_pairwise (le:=fun a b:Int=>a≤b) (fun a b _ _ h2 h3=>Int.le_antisymm h2 h3) ?_ ?_ h1
 ·have:=List.pairwise_mergeSort (le:=fun x y:Int=>decide (x≤y)) (fun a b c h2 h3=>by simp at *;omega) (fun a b=>by simp;omega) ss
  exact this.imp (fun {a b} h2=>by simpa using h2)
 ·exact List.pairwise_map.2 ((yQ F 64).imp (fun {a b} hab=>by omega))
theorem dN.look {w:World} {g b:Nat} {Q:Nat→Prop} {F:Files} {D:DataW Value} {V:Nat→Option Addr×Nat} (h:dN w g b Q F D V) (x:Int) (h1 : -9223372036854775808≤x) (h2:x≤9223372036854775807) :
  (∀ c,(Instr.lookup 75 (.map (some b)) (.int .i64 x) c).run Tryz.prog w = .ok (if c then .tuple #[(if 0≤x∧(F x.toNat).isSome=true then elemV (V x.toNat).1 (fileAt F x.toNat).all.length (V x.toNat).2 ((fileAt F x.toNat).fast:Nat) else elemV none 0 0 0),.bool (decide (0≤x)&&(F x.toNat).isSome)] else
   (if 0≤x∧(F x.toNat).isSome=true then elemV (V x.toNat).1 (fileAt F x.toNat).all.length (V x.toNat).2 ((fileAt F x.toNat).fast:Nat) else elemV none 0 0 0)) w):=by
 obtain ⟨n,hn⟩:=h.own
 have hat:∀ v ps,eu v=some (D.atKey (kx x) (.held (elemV none 0 0 0)),ps)→v=(if 0≤x∧(F x.toNat).isSome=true then elemV (V x.toNat).1 (fileAt F x.toNat).all.length (V x.toNat).2 ((fileAt F x.toNat).fast:Nat) else elemV none 0 0 0):=by
  intro v ps hv
  unfold eu at hv
  injection hv with hv
  injection hv with hv _
  by_cases hc:0≤x∧(F x.toNat).isSome=true
  ·rw [if_pos hc]
   obtain ⟨f,hf⟩:=Option.isSome_iff_exists.1 hc.2
   have e:x=((x.toNat:Nat):Int):=by omega
   have h3:=h.at_ x.toNat f hf (.held (elemV none 0 0 0))
   rw [← e] at h3
   rw [h3] at hv
   injection hv with hv
   rw [gG hf]
   exact hv
  ·rw [if_neg hc]
   have h3:Maps.has D (kx x)=false:=by
    rw [h.has]
    by_cases h0:0≤x
    ·cases hs:(F x.toNat).isSome
     ·simp
     ·exact absurd ⟨h0,hs⟩ hc
    ·simp [h0]
   rw [Maps.atKey_of_not_has h3] at hv
   injection hv
 intro c
 cases c
 ·obtain ⟨v,ps,hrun,hv⟩:=hn.lookup (t:=75) kI Tryz.underlying75 (zeroE w) (zd := .held (elemV none 0 0 0)) (zp:=[]) rfl (lW h1 h2)
  rw [hrun,hat v ps hv]
  simp
 ·obtain ⟨v,ps,hrun,hv⟩:=hn.look_ok (t:=75) kI Tryz.underlying75 (zeroE w) (zd := .held (elemV none 0 0 0)) (zp:=[]) rfl (lW h1 h2)
  rw [hrun,hat v ps hv,h.has]
  simp
theorem ag3 (w:World) (x:Int) (h1 : -9223372036854775808≤x) (h2:x≤9223372036854775807) (c:Bool) :
  (Instr.lookup 75 (.map none) (.int .i64 x) c).run Tryz.prog w = .ok (if c then .tuple #[elemV none 0 0 0,.bool false] else elemV none 0 0 0) w :=
 Maps.look_nil c kI Tryz.underlying75 (zeroE w) (lW h1 h2)
theorem dN.stands {w w':World} {g b:Nat} {Q:Nat→Prop} {F:Files} {D:DataW Value} {V:Nat→Option Addr×Nat} (h:dN w g b Q F D V) (hk:∀ q,Q q→q≠g→w'.heap[q]? = w.heap[q]?):dN w' g b Q F D V:=by
 obtain ⟨n,es,clock,hb,r⟩:=h.own
 refine ⟨⟨n,es,clock,(hk b h.bq h.bg).trans hb,r⟩,h.bq,h.bg,h.has,h.at_,fun j f hf=>(h.row j f hf).stands (fun k e=>?_),h.blk,h.apart⟩
 have:=h.blk j k (by rw [hf];rfl) e
 exact hk k this.1 this.2.2
theorem dN.sub {w:World} {g b:Nat} {Q Q':Nat→Prop} {F:Files} {D:DataW Value} {V:Nat→Option Addr×Nat} (h:dN w g b Q F D V) (hq:∀ q,Q q→Q' q):dN w g b Q' F D V :=
 ⟨h.own,hq b h.bq,h.bg,h.has,h.at_,h.row,fun j k hj e=>⟨hq k (h.blk j k hj e).1,(h.blk j k hj e).2⟩,h.apart⟩
theorem afU (w:World) (g b:Nat) (hb:b=w.heap.size) (hg:b≠g) (Q:Nat→Prop) (hq:Q b):dN (w.alloc (.map #[] 0)) g b Q noF (.map []) (fun _=>(none,0)):=by
 subst hb
 exact ⟨⟨0,World.ownsMap_made _ _ _ _⟩,hq,hg,fun x=>by simp [Maps.has,noF],fun j f hf=>(by cases hf),fun j f hf=>(by cases hf),fun j k hj=>(by cases hj),fun i j k hi=>(by cases hi)⟩
theorem dN.put {w w2:World} {g b:Nat} {Q:Nat→Prop} {F:Files} {D:DataW Value} {V:Nat→Option Addr×Nat} (h:dN w g b Q F D V) (j:Nat) (A:Option Addr) (c:Nat) (f:fV)
  (hm:∃ n,w2.ownsMap Tryz.prog 3 eu b n (D.put (kx (j:Nat)) (.held (elemV A f.all.length c (f.fast:Nat)))))
  (hk:∀ i k,i≠j→(F i).isSome=true→aB (V i).1=some k→w2.heap[k]? = w.heap[k]?)
  (hr:Own 0 w2 A f.all.length c f.all) (hb:∀ k,aB A=some k→k≠b∧k≠g∧∀ i,i≠j→(F i).isSome=true→aB (V i).1≠some k) :
  dN w2 g b (fun q=>Q q∨aB A=some q) (aW F j (some f)) (D.put (kx (j:Nat)) (.held (elemV A f.all.length c (f.fast:Nat)))) (fun i=>if i=j then (A,c) else V i):=by
 obtain ⟨n0,hn0⟩:=h.own
 have hkl:Go.WideAt.IsKeyLit (kx (j:Nat)):=by trivial
 refine ⟨hm,.inl h.bq,h.bg,?_,?_,?_,?_,?_⟩
 ·intro x
  by_cases e:x=(j:Nat)
  ·subst e
   rw [Maps.has_put_same hn0.isMap hkl]
   simp [eX]
  ·rw [Maps.has_put_other (rJ e),h.has]
   by_cases h0:0≤x
   ·rw [cZ F _ (show x.toNat≠j by omega)]
   ·simp [h0]
 ·intro i f' hf z
  by_cases e:i=j
  ·subst e
   rw [eX] at hf
   cases hf
   rw [Maps.atKey_put_same hn0.isMap hkl]
   simp
  ·rw [cZ F _ e] at hf
   rw [Maps.atKey_put_other (rJ (by omega)),h.at_ i f' hf z]
   simp [e]
 ·intro i f' hf
  by_cases e:i=j
  ·subst e
   rw [eX] at hf
   cases hf
   simpa using hr
  ·rw [cZ F _ e] at hf
   simp only [e,if_false]
   exact (h.row i f' hf).stands (fun k hk2=>hk i k e (by rw [hf];rfl) hk2)
 ·intro i k hi hb2
  by_cases e:i=j
  ·subst e
   simp only [if_true] at hb2
   exact ⟨.inr hb2,(hb k hb2).1,(hb k hb2).2.1⟩
  ·rw [cZ F _ e] at hi
   simp only [e,if_false] at hb2
   have:=h.blk i k hi hb2
   exact ⟨.inl this.1,this.2⟩
 ·intro i i' k hi hi' hne hb2
  by_cases e:i=j
  ·subst e
   rw [cZ F _ (fun e=>hne e.symm)] at hi'
   simp only [if_true] at hb2
   simp only [show ¬ i'=i from fun e=>hne e.symm,if_false]
   exact (hb k hb2).2.2 i' (fun e=>hne e.symm) hi'
  ·rw [cZ F _ e] at hi
   simp only [e,if_false] at hb2
   by_cases e':i'=j
   ·subst e'
    simp only [if_true]
    intro hb3
    exact (hb k hb3).2.2 i e hi hb2
   ·rw [cZ F _ e'] at hi'
    simp only [e',if_false]
    exact h.apart i i' k hi hi' hne hb2
theorem dN.del {w w2:World} {g b:Nat} {Q:Nat→Prop} {F:Files} {D:DataW Value} {V:Nat→Option Addr×Nat} (h:dN w g b Q F D V) (j:Nat)
  (hm:∃ n,w2.ownsMap Tryz.prog 3 eu b n (D.del (kx (j:Nat)))) (hk:∀ q,Q q→q≠g→q≠b→w2.heap[q]? = w.heap[q]?):dN w2 g b Q (aW F j none) (D.del (kx (j:Nat))) V:=by
 have hne:∀ i,(aW F j none i).isSome=true→i≠j∧aW F j none i=F i:=by
  intro i hi
  by_cases e:i=j
  ·subst e;rw [eX] at hi;cases hi
  ·exact ⟨e,cZ F _ e⟩
 refine ⟨hm,h.bq,h.bg,?_,?_,?_,?_,?_⟩
 ·intro x
  by_cases e:x=(j:Nat)
  ·subst e
   rw [Maps.has_del_same]
   simp [eX]
  ·rw [Maps.has_del_other (rJ e),h.has]
   by_cases h0:0≤x
   ·rw [cZ F _ (show x.toNat≠j by omega)]
   ·simp [h0]
 ·intro i f hf z
  obtain ⟨h1,h2⟩:=hne i (by rw [hf];rfl)
  rw [Maps.atKey_del_other (rJ (by omega))]
  exact h.at_ i f (h2 ▸ hf) z
 ·intro i f hf
  obtain ⟨h1,h2⟩:=hne i (by rw [hf];rfl)
  refine (h.row i f (h2 ▸ hf)).stands (fun k e=>?_)
  have:=h.blk i k (by rw [← h2,hf];rfl) e
  exact hk k this.1 this.2.2 this.2.1
 ·intro i k hi hb
  obtain ⟨h1,h2⟩:=hne i hi
  exact h.blk i k (h2 ▸ hi) hb
 ·intro i i' k hi hi' hn hb
  exact h.apart i i' k ((hne i hi).2 ▸ hi) ((hne i' hi').2 ▸ hi') hn hb
def cellsD (m:Option Nat) (d:ak):Array Value:=#[.int .i64 (d.room:Nat),.map m,.bool d.armed,.int .i64 (d.left:Nat),.bool d.down]
structure Dk (w:World) (g:Nat) (Q:Nat→Prop) (d:ak):Prop where
 ok:DOk d
 qg:Q g
 qlt:∀ q,Q q→q<w.heap.size
 mem:(Whole w g 77 (cellsD none d)∧d.F=noF)∨∃ b D V,Whole w g 77 (cellsD (some b) d)∧dN w g b Q d.F D V
theorem Dk.stands {w w':World} {g:Nat} {Q:Nat→Prop} {d:ak} (h:Dk w g Q d) (hs:w.heap.size≤w'.heap.size) (hk:∀ q,Q q→w'.heap[q]? = w.heap[q]?):Dk w' g Q d:=by
 refine ⟨h.ok,h.qg,fun q hq=>Nat.lt_of_lt_of_le (h.qlt q hq) hs,?_⟩
 rcases h.mem with ⟨h1,h2⟩ | ⟨b,D,V,h1,h2⟩
 ·exact .inl ⟨(hk g h.qg).trans h1,h2⟩
 ·exact .inr ⟨b,D,V,(hk g h.qg).trans h1,h2.stands (fun q hq _=>hk q hq)⟩
theorem Dk.tn {w w':World} {g:Nat} {Q Q':Nat→Prop} {d:ak} (h:Dk w g Q d) (k:Tn Q' w w') (hq:∀ q,Q q→¬ Q' q):Dk w' g Q d:=h.stands k.size (fun q hq2=>k.block q (h.qlt q hq2) (hq q hq2))
theorem Dk.below {w w':World} {g:Nat} {Q:Nat→Prop} {d:ak} (h:Dk w g Q d) (k:Below w.heap.size w w'):Dk w' g Q d:=h.stands k.size (fun q hq=>k.block q (h.qlt q hq))
theorem Dk.alloc {w:World} {g:Nat} {Q:Nat→Prop} {d:ak} (h:Dk w g Q d) (o:Obj):Dk (w.alloc o) g Q d:=h.below ((Below.refl _ _).alloc (Nat.le_refl _) o)
theorem Dk.drew {w:World} {g:Nat} {Q:Nat→Prop} {d:ak} (h:Dk w g Q d):Dk w.drew g Q d:=h.stands (Nat.le_refl _) (fun _ _=>rfl)
theorem Dk.cell {w:World} {g:Nat} {Q:Nat→Prop} {d d':ak} (h:Dk w g Q d) (hd:DOk d') (hF:d'.F=d.F) (i:Nat) (v:Value) (hc:∀ m,(cellsD m d).setIfInBounds i v=cellsD m d'):Dk (w.setCell ⟨g,i,none⟩ v) g Q d':=by
 refine ⟨hd,h.qg,fun q hq=>by simpa using h.qlt q hq,?_⟩
 rcases h.mem with ⟨h1,h2⟩ | ⟨b,D,V,h1,h2⟩
 ·exact .inl ⟨hc none ▸ h1.store i v,hF.trans h2⟩
 ·refine .inr ⟨b,D,V,hc (some b) ▸ h1.store i v,?_⟩
  rw [hF]
  exact h2.stands (fun q hq hne=>Below.heap_setCell w ⟨g,i,none⟩ v q hne)
theorem Dk.put {w w':World} {g b:Nat} {Q:Nat→Prop} {d:ak} {D:DataW Value} {V:Nat→Option Addr×Nat} (h:Dk w g Q d) (m1:Whole w g 77 (cellsD (some b) d)) (m2:dN w g b Q d.F D V) (j:Nat) (A:Option Addr) (n c:Nat) (f:fV) (hn:n=f.all.length) (ff:Nat) (hff:ff=f.fast)
  (hs:w.heap.size≤w'.heap.size) (hm:∃ n',w'.ownsMap Tryz.prog 3 eu b n' (D.put (kx (j:Nat)) (.held (.agg #[.slice A n c,.int .i64 (ff:Nat)])))) (hr:Own 0 w' A n c f.all)
  (hA:∀ k,aB A=some k→((d.F j).isSome=true∧aB (V j).1=some k)∨w.heap.size≤k) (hk:∀ q,Q q→q≠b→((d.F j).isSome=true→aB (V j).1≠some q)→w'.heap[q]? = w.heap[q]?)
  (hd:DOk (dM d (aW d.F j (some f)))):∃ Q',Dk w' g Q' (dM d (aW d.F j (some f)))∧∀ q,Q' q→Q q∨w.heap.size≤q:=by
 subst hn hff
 have hfil:=m2.put (w2:=w') j A c f hm
  (fun i k hi hs2 e=>by
   have h9:=m2.blk i k hs2 e
   exact hk k h9.1 h9.2.1 (fun hj e2=>m2.apart i j k hs2 hj hi e e2))
  hr
  (fun k e=>by
   rcases hA k e with ⟨hj,e2⟩ | hlt
   ·have h9:=m2.blk j k hj e2
    exact ⟨h9.2.1,h9.2.2,fun i hi hs2 e3=>m2.apart i j k hs2 hj hi e3 e2⟩
   ·refine ⟨?_,?_,fun i hi hs2 e3=>?_⟩
    ·have:=h.qlt b m2.bq;omega
    ·have:=h.qlt g h.qg;omega
    ·have:=h.qlt k (m2.blk i k hs2 e3).1;omega)
 refine ⟨_,⟨hd,.inl h.qg,?_,.inr ⟨b,_,_,?_,hfil⟩⟩,?_⟩
 ·rintro q (hq1 | hq1)
  ·exact Nat.lt_of_lt_of_le (h.qlt q hq1) hs
  ·exact hr.dB q hq1
 ·exact (hk g h.qg (fun e=>m2.bg e.symm) (fun hj e=>(m2.blk j g hj e).2.2 rfl)).trans m1
 ·rintro q (hq1 | hq1)
  ·exact .inl hq1
  ·rcases hA q hq1 with ⟨hj,e2⟩ | hlt
   ·exact .inl (m2.blk j q hj e2).1
   ·exact .inr hlt
def eH (w:World) (g:Nat) (Q:Nat→Prop) (v:Value) (d:ak) (e:Ending) (w':World):Prop :=
 e = .returned v∧∃ Q',Dk w' g Q' d∧Tn Q w w'∧∀ q,Q' q→Q q∨w.heap.size≤q
theorem jQ {w w':World} {g:Nat} {Q Q':Nat→Prop} {v v':Value} {d d':ak} (e:v'=v) (h:Dk w' g Q' d') (ed:d'=d) (ht:Tn Q w w') (hq:∀ q,Q' q→Q q∨w.heap.size≤q):eH w g Q v d (.returned v') w' :=
 ⟨by rw [e],Q',ed ▸ h,ht,hq⟩
theorem gW {w:World} {g:Nat} {m:Option Nat} {d:ak} (h:Whole w g 77 (cellsD m d)) :
  w.cell? ⟨g,0,none⟩=some (.int .i64 (d.room:Nat))∧w.cell? ⟨g,1,none⟩=some (.map m)∧w.cell? ⟨g,2,none⟩=some (.bool d.armed)∧w.cell? ⟨g,3,none⟩=some (.int .i64 (d.left:Nat))∧w.cell? ⟨g,4,none⟩=some (.bool d.down)∧∀ i,w.frozen? ⟨g,i,none⟩=false :=
 ⟨h.cell 0 _ rfl,h.cell 1 _ rfl,h.cell 2 _ rfl,h.cell 3 _ rfl,h.cell 4 _ rfl,fun i=>h.free i⟩
end Dsk
end Go.Proofs.YtpcmlopbkehffaaGreat
namespace Go.Proofs.YtpcmlopbkehffaaGreat
open Go.RowKit
namespace Dsk
theorem xC (w:World) (g o:Nat) (v:Value):w.grownBy (w.setCell ⟨g,o,none⟩ v) (some g) :=
 ⟨rfl,rfl,rfl,by simp,fun i _ hne=>Below.heap_setCell w _ v i (fun e=>hne (by rw [e]))⟩
theorem abX {a w:World} {row:Option Nat} (h:a.grownBy w row):a.grownBy w.drew row:=⟨h.os,h.tape,h.output,h.size,h.block⟩
theorem rD {B:Nat} {w w':World} (h:Below B w w') (hB:w.heap.size≤B) (row:Option Nat):w.grownBy w' row :=
 ⟨h.os,h.tape,h.output,h.size,fun i hi _=>h.block i (by omega)⟩
theorem ak2 {w:World} {A:Option Addr} {n c:Nat} {l:List UInt8} (h:Sl w A n c l) {g:Nat} (ha:∀ a,A=some a→l≠[]→a.block≠g) (o:Nat) (v:Value):Sl (w.setCell ⟨g,o,Option.none⟩ v) A n c l:=by
 refine ⟨?_,h.len,h.cap,h.max,h.nil⟩
 intro hne
 obtain ⟨b,off,e,hc⟩:=h.holds hne
 refine ⟨b,off,e,fun k u hu=>(xC w g o v).cell (hc k u hu) (fun e2=>?_)⟩
 injection e2 with e2
 exact ha ⟨b,off,Option.none⟩ e (by rintro rfl;exact hne rfl) e2
theorem kC {w w':World} {g:Nat} {t:TypeId} {cs:Array Value} {row:Option Nat} (h:Whole w g t cs) (hb:w.grownBy w' row) (hg:row≠some g):Whole w' g t cs:=(hb.block g h.lt (Ne.symm hg)).trans h
end Dsk
end Go.Proofs.YtpcmlopbkehffaaGreat
namespace Go.Proofs.YtpcmlopbkehffaaGreat
open Go.RowKit
open Go.Maps (Keyed)
namespace Dsk
theorem afE (w:World) (room:Nat) (h1:1≤room) (h2:room≤1048576):Dk (w.alloc (.cells (cellsD none (mV room)) 77)) w.heap.size (fun q=>q=w.heap.size) (mV room) :=
 ⟨ahr h1 h2,rfl,fun q hq=>by simp;omega,.inl ⟨aP w _ _,rfl⟩⟩
theorem yj (room:Nat) (h1:1≤room) (h2:room≤1048576) (w:World):Calls Tryz.prog 9 #[.int .i64 (room:Nat)] w (fun e w'=>e = .returned (.tuple #[.pointer (some ⟨w.heap.size,0,none⟩),.int .i64 0])∧Dk w' w.heap.size (fun q=>q=w.heap.size) (mV room)∧Below w.heap.size w w'):=by
 have H:=aj (afE w room h1 h2)
 have g1:¬ (room:Int)<1:=by omega
 have g2:¬ (room:Int)>1048576:=by omega
 go_enter Tryz.func9,Tryz.ntmps9
 go_wp2
 go_ret2
 exact ⟨rfl,H.out,(Below.refl _ _).alloc (Nat.le_refl _) _⟩
theorem alY (w:World):Calls Tryz.prog 85 #[.pointer none] w (fun e w'=>e = .returned (.int .i64 13)∧w=w'):=by
 go_enter Tryz.func85,Tryz.ntmps85
 go_wp2
 go_ret
 exact ⟨rfl,rfl⟩
theorem Dk.cells {w:World} {g:Nat} {Q:Nat→Prop} {d:ak} (h:Dk w g Q d):∃ m,Whole w g 77 (cellsD m d):=by
 rcases h.mem with ⟨h1,_⟩ | ⟨b,D,V,h1,_⟩
 ·exact ⟨_,h1⟩
 ·exact ⟨_,h1⟩
theorem qy (g:Nat) (Q:Nat→Prop) (d:ak) (w:World) (h:Dk w g Q d):Calls Tryz.prog 85 #[.pointer (some ⟨g,0,none⟩)] w (fun e w'=>e = .returned (.int .i64 (if d.down then 10 else 0))∧w=w'):=by
 obtain ⟨m,hw⟩:=h.cells
 obtain ⟨c0,c1,c2,c3,c4,-⟩:=gW hw
 clear h hw
 rcases d with ⟨room,F,armed,left,_ | _⟩
 ·go_enter Tryz.func85,Tryz.ntmps85
  go_wp2
  go_ret
  exact ⟨rfl,rfl⟩
 ·go_enter Tryz.func85,Tryz.ntmps85
  go_wp2
  go_ret
  exact ⟨rfl,rfl⟩
theorem oG (g:Nat) (Q:Nat→Prop) (d:ak) (w:World) (h:Dk w g Q d):Calls Tryz.prog 53 #[.pointer (some ⟨g,0,none⟩)] w (fun e w'=>e = .returned (.bool d.down)∧w=w'):=by
 obtain ⟨m,hw⟩:=h.cells
 obtain ⟨c0,c1,c2,c3,c4,-⟩:=gW hw
 clear h hw
 go_enter Tryz.func53,Tryz.ntmps53
 go_wp2
 go_ret
 exact ⟨rfl,rfl⟩
theorem wI (n:Int) (hn:n≤9223372036854775807) (g:Nat) (Q:Nat→Prop) (d:ak) (w:World) (h:Dk w g Q d):Calls Tryz.prog 18 #[.pointer (some ⟨g,0,none⟩),.int .i64 n] w (eH w g Q (.tuple #[]) (jy d n)):=by
 obtain ⟨m,hw⟩:=h.cells
 obtain ⟨c0,c1,c2,c3,c4,cf⟩:=gW hw
 have H:=aj h
 have Hn:=aj hn
 have HP:=aj (show eH w g Q (.tuple #[]) (jy d n) (.returned (.tuple #[])) ((w.setCell ⟨g,2,none⟩ (.bool (decide (0≤n)))).setCell ⟨g,3,none⟩ (.int .i64 (n.toNat:Nat))) from
  jQ rfl ((h.cell (d' := {d with armed:=decide (0≤n)}) ⟨h.ok.ko,h.ok.fM,h.ok.used,h.ok.fast,h.ok.high,h.ok.left⟩ rfl 2 _ (fun m=>rfl)).cell (d':=jy d n) (wH h.ok hn) rfl 3 _ (fun m=>rfl)) rfl
   (((Tn.refl _ _).set (.inl h.qg) 2 _).set (.inl h.qg) 3 _) (fun q hq => .inl hq))
 clear h hw hn
 by_cases h0:0≤n
 ·obtain ⟨k,rfl⟩:=Int.eq_ofNat_of_zero_le h0
  have e2:decide (0≤(k:Int))=true:=decide_eq_true h0
  rw [e2] at HP
  go_enter Tryz.func18,Tryz.ntmps18
  go_wp2
  go_end0
  exact HP.out
 ·have e2:decide (0≤n)=false:=decide_eq_false h0
  have e3:n<0:=by omega
  rw [e2] at HP
  go_enter Tryz.func18,Tryz.ntmps18
  go_wp2
  go_end0
  have h4:n.toNat=0:=by omega
  have h5:=HP.out
  rw [h4] at h5
  exact h5
def takeD (d:ak) (n:Nat):ak := {d with left:=iN d n}
theorem als {d:ak} (h:DOk d) (n:Nat):DOk (takeD d n) :=
 ⟨h.ko,h.fM,h.used,h.fast,h.high,by show iN d n≤_;have:=h.left;unfold iN;split <;> omega⟩
theorem alu (n:Nat) (hn:n≤9223372036854775807) (g:Nat) (Q:Nat→Prop) (d:ak) (w:World) (h:Dk w g Q d) :
  Calls Tryz.prog 87 #[.pointer (some ⟨g,0,none⟩),.int .i64 (n:Nat)] w (eH w g Q (.int .i64 (takeN d n:Nat)) (takeD d n)):=by
 obtain ⟨m,hw⟩:=h.cells
 obtain ⟨c0,c1,c2,c3,c4,cf⟩:=gW hw
 have hl:=h.ok.left
 have HP:=aj (fun (v k:Nat) (hv:v=takeN d n) (hk:k=iN d n)=>show eH w g Q (.int .i64 (takeN d n:Nat)) (takeD d n) (.returned (.int .i64 (v:Nat))) (w.setCell ⟨g,3,none⟩ (.int .i64 (k:Nat))) from
  jQ (by rw [hv]) (h.cell (d':=takeD d n) (als h.ok n) rfl 3 _ (fun m=>by subst hk;rfl)) rfl
   ((Tn.refl _ _).set (.inl h.qg) 3 _) (fun q hq => .inl hq))
 have HN:=aj (fun (ha:d.armed=false)=>show eH w g Q (.int .i64 (takeN d n:Nat)) (takeD d n) (.returned (.int .i64 (n:Nat))) w from
  jQ (by unfold takeN;rw [ha];rfl) h (by rcases d with ⟨a,b,c,e,f⟩;simp only at ha;subst ha;rfl) (Tn.refl _ _) (fun q hq => .inl hq))
 clear h hw
 have Ht:Hid (d.armed=true→takeN d n=min n d.left∧iN d n=d.left-min n d.left):=aj (fun ha=>by unfold iN takeN;rw [ha];exact ⟨rfl,rfl⟩)
 generalize takeD d n=d' at *
 generalize takeN d n=tk at *
 generalize iN d n=lf at *
 rcases d with ⟨room,F,_ | _,left,down⟩
 ·have HN':=aj (HN.out rfl)
  clear HP HN Ht
  go_enter Tryz.func87,Tryz.ntmps87
  go_wp2
  go_ret
  exact HN'.out
 ·have Ht':=aj (Ht.out rfl)
  clear HN Ht
  simp only at *
  by_cases h1:left<n
  ·have HP':=aj (HP.out left 0 (by rw [Ht'.out.1];omega) (by rw [Ht'.out.2];omega))
   clear HP Ht'
   go_enter Tryz.func87,Tryz.ntmps87
   go_wp2
   go_ret
   simp only [Int.sub_self]
   exact HP'.out
  ·have HP':=aj (HP.out n (left-n) (by rw [Ht'.out.1];omega) (by rw [Ht'.out.2];omega))
   clear HP Ht'
   go_enter Tryz.func87,Tryz.ntmps87
   go_wp2
   go_ret
   have e3:(left:Int)-(n:Int)=((left-n:Nat):Int):=by omega
   simp only [e3]
   exact HP'.out
end Dsk
end Go.Proofs.YtpcmlopbkehffaaGreat
namespace Go.Proofs.YtpcmlopbkehffaaGreat
open Go.RowKit
open Go.Maps (Keyed)
namespace Dsk
theorem al0 (g:Nat) (d:ak) (w:World) (h:Whole w g 77 (cellsD none d)):Calls Tryz.prog 86 #[.pointer (some ⟨g,0,none⟩)] w (fun e w'=>e = .returned (.int .i64 0)∧Below w.heap.size w w'):=by
 obtain ⟨c0,c1,c2,c3,c4,-⟩:=gW h
 clear h
 have hrg:=run_range_nilMap (P:=Tryz.prog) w 75 3 119 Tryz.underlying75
 have hnx:∀ ty,(Instr.next (.pointer (some ⟨w.heap.size,0,none⟩)) false ty).run Tryz.prog (w.alloc (.mapIter none 0 #[] 0))=_:=fun ty=>run_next_nilMap w ty 0 0 #[]
 go_enter Tryz.func86,Tryz.ntmps86
 go_wp2
 refine wp_loop_rounds 1 ?_
 rw [rounds_succ]
 go_wp2
 go_ret
 exact ⟨rfl,(Below.refl _ _).alloc (Nat.le_refl _) _⟩
def pR (left:Lit→Bool) (F:Files):Nat:=dV (fun j => !left (kx (j:Nat))) F 64
theorem agI {left:Lit→Bool} {F:Files} {j:Nat} (hj:j<64) (hl:left (kx (j:Nat))=true):pR (fun z=>left z && !z.sameKey (kx (j:Nat))) F=pR left F+bV F j:=by
 refine adY ?_ ?_ ?_ 64 hj
 ·simp [hl]
 ·simp [Go.WideAt.sameKey_self (show Go.WideAt.IsKeyLit (kx (j:Nat)) from trivial)]
 ·intro i hi
  have:(kx (i:Nat)).sameKey (kx (j:Nat))=false:=Maps.sameKey_ne (rJ (by omega))
  simp [this]
theorem agG {left:Lit→Bool} {F:Files} (h:∀ kl,left kl=false):pR left F=bR F:=zK 64 (fun j _=>by simp [h])
theorem agH {D:DataW Value} {F:Files} (h:∀ j:Nat,Maps.has D (kx j)=(F j).isSome):pR (Maps.has D) F=0:=by
 have : ∀ n,dV (fun j => !Maps.has D (kx (j:Nat))) F n=0:=by
  intro n
  induction n with
  | zero=>rfl
  | succ n ih =>
    rw [dV,ih,h n]
    unfold bV
    cases F n <;> simp
 exact this 64
theorem ab9 (left:Lit→Bool) (F:Files):pR left F≤bR F:=adX 64 (fun _ _ _=>rfl)
set_option maxRecDepth 100000 in
set_option maxHeartbeats 1000000 in
theorem al2 (g b:Nat) (d:ak) (D:DataW Value) (V:Nat→Option Addr×Nat) (Q:Nat→Prop) (w:World) (h:Whole w g 77 (cellsD (some b) d)) (hf:dN w g b Q d.F D V) (hd:DOk d) :
  Calls Tryz.prog 86 #[.pointer (some ⟨g,0,none⟩)] w (fun e w'=>e = .returned (.int .i64 (bR d.F:Nat))∧Below w.heap.size w w'):=by
 obtain ⟨c0,c1,c2,c3,c4,-⟩:=gW h
 have hown:=hf.owns hd.high
 have Hf:=aj hf
 have Hhas:=aj hf.has
 have Hd:=aj hd
 have hu:=hd.used
 have hr2:=hd.fM
 have Hst:=aj (agH hf.aga)
 have Hhigh:=aj hd.high
 clear h hf hd
 rcases d with ⟨room,F,armed,left,down⟩
 simp only at *
 go_enter Tryz.func86,Tryz.ntmps86
 go_wp2_with (first
  | (at_range;refine wpList_range_own _ rfl _ 75 rfl 3 119 kI Tryz.underlying75 _ b 64 D rfl hown ?_;intro w0 hrg0 hg0 hs0)
  | fail)
 go_frame
 go_loopw [3] (fun v wr=>∃ (left:Lit→Bool) (cnt s:Nat),wr.ranges Tryz.prog 3 eu b w.heap.size 64 D left cnt∧v = .int .i64 (s:Nat)∧Hid (s=pR left F)∧Hid (Below w.heap.size w wr)) (fun _ wr=>wr.rangeLeft b w.heap.size)
 case atStart=>exact ⟨_,_,0,hrg0,rfl,aj Hst.out.symm,aj ⟨hg0.os,hg0.tape,hg0.output,hg0.size,fun i hi=>hg0.block i hi (by simp)⟩⟩
 case round =>
  obtain ⟨left,cnt,s,hrg,rfl,Hs,Hb⟩:=hrel
  clear hrg0 hg0 hs0
  have hsl:s≤bR F:=by rw [Hs.out];exact ab9 _ _
  go_wp2_with (first
   | (at_next;refine wpList_next_ranges _ rfl _ rfl 3 kI eu (Value.int .i64) (fun v:Value=>v) (fun key kl hk=>by obtain ⟨x,rfl,_⟩:=Maps.keyOf_int_inv Tryz.underlying3 hk;exact ⟨x,rfl⟩) (fun v y _=>⟨v,rfl⟩) b w.heap.size 64 D left cnt rfl hrg ?_ ?_)
   | fail)
  ·intro _ hl0
   have Hs':=aj (Hs.out.trans (agG hl0))
   clear hl0
   go_wp2
   go_ret
   have e:=Hs'.out
   subst e
   exact ⟨rfl,Hb.out⟩
  ·intro x c kl y ps w1 cnt1 hkey hlx hry hat hrg1 hlt hg1 hs1 hen
   obtain ⟨x',ex,rfl,hwx⟩:=Maps.keyOf_int_inv Tryz.underlying3 hkey
   cases ex
   have hhx:=Maps.has_true_of_atKey hat
   rw [Hhas.out] at hhx
   simp only [Bool.and_eq_true,decide_eq_true_eq] at hhx
   obtain ⟨hx0,hxs⟩:=hhx
   obtain ⟨j,rfl⟩:=Int.eq_ofNat_of_zero_le hx0
   rw [Int.toNat_natCast] at hxs
   obtain ⟨f,hfj⟩:=Option.isSome_iff_exists.1 hxs
   have hj:j<64:=by
    rcases Nat.lt_or_ge j 64 with h1 | h1
    ·exact h1
    ·rw [Hhigh.out j h1] at hfj;cases hfj
   have hec:c=elemV (V j).1 f.all.length (V j).2 (f.fast:Nat):=by
    have h1:=Hf.out.at_ j f hfj .nil
    rw [hat] at h1
    unfold eu at hry
    injection hry with hry
    injection hry with hry _
    rw [← hry] at h1
    injection h1
   have hst:=agI (F:=F) hj hlx
   rw [vv hfj,← Hs.out] at hst
   have hle:=ab9 (fun z=>left z && !z.sameKey (kx (j:Nat))) F
   rw [hst] at hle
   have Hst2:=aj hst.symm
   have Hb2:=aj (show Below w.heap.size w w1 from Hb.out.trans ⟨hg1.os,hg1.tape,hg1.output,hg1.size,fun i hi=>hg1.block i (by have:=Hb.out.size;omega) (by intro e;injection e with e;omega)⟩)
   have Hrg:=aj hrg1
   have hz1:w.heap.size≤w1.heap.size:=Hb2.out.size
   obtain ⟨A,ca⟩:=V j
   generalize f.all.length=m at *
   generalize f.fast=ff at *
   unfold elemV at hec
   subst hec
   clear hst hat hry hkey hfj hrg1 hg1 hs1 hlx hwx
   go_wp2_with fail
   go_roundw
   case rel=>exact ⟨_,cnt1,s+m,Hrg.out.alloc _,by go_num,Hst2,aj (Hb2.out.alloc hz1 _)⟩
   case measure=>rw [(Hrg.out.alloc _).left_eq,hrg.left_eq];exact hlt
theorem alZ (g:Nat) (Q:Nat→Prop) (d:ak) (w:World) (h:Dk w g Q d):Calls Tryz.prog 86 #[.pointer (some ⟨g,0,none⟩)] w (fun e w'=>e = .returned (.int .i64 (bR d.F:Nat))∧Below w.heap.size w w'):=by
 rcases h.mem with ⟨h1,h2⟩ | ⟨b,D,V,h1,h2⟩
 ·rw [h2,vD]
  exact al0 g d w h1
 ·exact al2 g b d D V Q w h1 h2 h.ok
end Dsk
end Go.Proofs.YtpcmlopbkehffaaGreat
