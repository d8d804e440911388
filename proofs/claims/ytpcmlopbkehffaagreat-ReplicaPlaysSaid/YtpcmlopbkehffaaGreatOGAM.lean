/-
  What a log and its disk keep: plain mathematics.
-/
import Derived.Test.YtpcmlopbkehffaaGreatOGAI
import Derived.Test.YtpcmlopbkehffaaGreatOGAJ
import Derived.Test.YtpcmlopbkehffaaGreatOGAL
set_option linter.unusedSimpArgs false
set_option linter.unusedVariables false
namespace Go.Proofs.YtpcmlopbkehffaaGreat
open Go.RowKit Fm Dsk
namespace Wl
structure aH (d:ak) (most:Int) (base:Nat) (L:List FS) (N U:Nat):Prop where
 ok:DOk d
 up:d.down=false
 rest:∀ j,(∀ i,i<L.length→j≠rg base i)→d.F j=none
 has:∀ i (h:i<L.length),∃ ff,d.F (rg base i)=some ⟨L[i].all,ff⟩
 num:∀ i (h:i<L.length),L[i].num=rg base i
 dL:∀ i (h:i<L.length),L[i].dL=0
 all:∀ i (h:i<L.length),L[i].all=framed (aG L[i].first)++frames L[i].recs
 small:∀ i (h:i<L.length),∀ r∈L[i].recs,r.length≤8192
 ahead:∀ i (h:i+1<L.length),most≤(L[i].all.length:Int)
 next:∀ i (h:i+1<L.length),L[i+1].first=aO L[i]
 bnd:∀ i (h:i<L.length),aO L[i]≤N
 n63:L.length≤63
 b64:base<64
 used:bR d.F≤U
 big:N≤1000000
theorem abD {F:Files} {base n:Nat} (hb:base<64) (hn:n≤63) (hs:∀ i,i<n→(F (rg base i)).isSome=true) (hno:∀ j,(∀ i,i<n→j≠rg base i)→F j=none):dW F=kZ base n:=by
 by_cases hw:base+n≤64
 ·have key:∀ k,k≤64→fZ F k=List.range' base (min (k-base) n):=by
   intro k
   induction k with
   | zero=>intro _;simp [fZ]
   | succ k ih =>
     intro hk
     rw [pI,ih (by omega)]
     by_cases h1:k<base
     ·rw [hno k (fun i hi=>by unfold rg;omega),show min (k-base) n=0 by omega,show min (k+1-base) n=0 by omega]
      simp
     ·by_cases h2:base+n≤k
      ·rw [hno k (fun i hi=>by unfold rg;omega),show min (k-base) n=n by omega,show min (k+1-base) n=n by omega]
       simp
      ·have h3:=hs (k-base) (by omega)
       rw [show rg base (k-base)=k by unfold rg;omega] at h3
       rw [h3,show min (k-base) n=k-base by omega,show min (k+1-base) n=k-base+1 by omega]
       simp only [if_true]
       rw [List.range'_concat]
       congr 2
       omega
  unfold dW
  rw [key 64 (Nat.le_refl _),show min (64-base) n=n by omega]
  refine List.ext_getElem (by rw [List.length_range',qc]) (fun i h1 h2=>?_)
  rw [List.length_range'] at h1
  simp only [List.getElem_range',kZ,List.getElem_map,List.getElem_range,sN]
  rw [if_pos hw]
  omega
 ·obtain ⟨st,hst⟩:∃ st,st=base+n-64:=⟨_,rfl⟩
  have key:∀ k,k≤64→fZ F k=List.range' 0 (min k st)++List.range' base (k-base):=by
   intro k
   induction k with
   | zero=>intro _;simp [fZ]
   | succ k ih =>
     intro hk
     rw [pI,ih (by omega)]
     by_cases h1:k<st
     ·have h3:=hs (64-base+k) (by omega)
      rw [show rg base (64-base+k)=k by unfold rg;omega] at h3
      rw [h3,show min k st=k by omega,show min (k+1) st=k+1 by omega,show k-base=0 by omega,show k+1-base=0 by omega]
      simp only [if_true,List.range'_zero,List.append_nil]
      rw [List.range'_concat]
      simp
     ·by_cases h2:k<base
      ·rw [hno k (fun i hi=>by unfold rg;omega),show min k st=st by omega,show min (k+1) st=st by omega,show k-base=0 by omega,show k+1-base=0 by omega]
       simp
      ·have h3:=hs (k-base) (by omega)
       rw [show rg base (k-base)=k by unfold rg;omega] at h3
       rw [h3,show min k st=st by omega,show min (k+1) st=st by omega,show k+1-base=k-base+1 by omega]
       simp only [if_true]
       rw [List.range'_concat,List.append_assoc]
       congr 3
       omega
  unfold dW
  rw [key 64 (Nat.le_refl _),show min 64 st=st by omega]
  refine List.ext_getElem (by rw [List.length_append,List.length_range',List.length_range',qc];omega) (fun i h1 h2=>?_)
  rw [qc] at h2
  simp only [kZ,List.getElem_map,List.getElem_range,sN]
  rw [if_neg hw,← hst]
  by_cases h3:i<st
  ·rw [if_pos h3,List.getElem_append_left (by rw [List.length_range'];exact h3),List.getElem_range']
   omega
  ·rw [if_neg h3,List.getElem_append_right (by rw [List.length_range'];omega),List.getElem_range']
   simp only [List.length_range']
   omega
theorem aH.files {d:ak} {most:Int} {base N U:Nat} {L:List FS} (h:aH d most base L N U):dW d.F=kZ base L.length :=
 abD h.b64 h.n63 (fun i hi=>by obtain ⟨ff,e⟩:=h.has i hi;rw [e];rfl) h.rest
theorem aH.known {d:ak} {most:Int} {base N U:Nat} {L:List FS} (h:aH d most base L N U):om d L:=by
 intro _
 refine ⟨by rw [h.files,qc],fun f hf=>?_⟩
 rw [List.getLast?_eq_getElem?] at hf
 obtain ⟨hlt,e⟩:=List.getElem?_eq_some_iff.1 hf
 obtain ⟨ff,h1⟩:=h.has _ hlt
 refine ⟨ff,?_⟩
 rw [← e,h.num _ hlt]
 exact h1
theorem aH.all_le {d:ak} {most:Int} {base N U:Nat} {L:List FS} (h:aH d most base L N U) {i:Nat} (hi:i<L.length):L[i].all.length≤1048576:=by
 obtain ⟨ff,h1⟩:=h.has i hi
 have h2:=qo d.F (j:=rg base i) (iF _ _)
 have h3:bV d.F (rg base i)=L[i].all.length:=by unfold bV;rw [h1]
 have:=h.ok.used
 have:=h.ok.fM
 omega
theorem aH.lok {d:ak} {most:Int} {base N U:Nat} {L:List FS} (h:aH d most base L N U):LOk L:=by
 have key:∀ f∈L,∃ i,∃ hi:i<L.length,L[i]=f:=fun f hf=>List.mem_iff_getElem.1 hf
 refine ⟨fun f hf=>?_,h.n63,fun f hf=>?_,fun f hf=>?_,fun f hf=>?_⟩
 ·obtain ⟨i,hi,rfl⟩:=key f hf
  rw [h.num i hi]
  exact iF _ _
 ·obtain ⟨i,hi,rfl⟩:=key f hf
  have:=h.bnd i hi
  have:=h.big
  omega
 ·obtain ⟨i,hi,rfl⟩:=key f hf
  have:=h.all_le hi
  omega
 ·obtain ⟨i,hi,rfl⟩:=key f hf
  have:=h.bnd i hi
  have:=h.big
  unfold aO at *
  omega
theorem acj {f:FS} (ht:f.dL=0) (ha:f.all=framed (aG f.first)++frames f.recs) (hs:∀ r∈f.recs,r.length≤8192) (hb:aO f≤1000000):bF f.num f.all=f∧oh f.all:=by
 have h1:f.all=frames (aG f.first::f.recs):=by rw [ha,lU]
 have h2:bD f.all=(aG f.first::f.recs,f.all.length,0):=by
  rw [h1]
  refine aeC _ (fun x hx=>?_)
  rcases List.mem_cons.1 hx with e | hx
  ·rw [e,jR];omega
  ·exact hs x hx
 have hfi:f.first<18446744073709551616:=by unfold aO at hb;omega
 constructor
 ·unfold bF bS
  rw [h2]
  simp only [List.take_length,Nat.sub_self,mW hfi]
  cases f
  simp only at ht
  subst ht
  rfl
 ·intro x t hx
  rw [h2] at hx
  simp only [List.cons.injEq] at hx
  obtain ⟨rfl,-⟩:=hx
  refine ⟨jR _,?_⟩
  rw [mW hfi]
  unfold aO at hb
  omega
def jl (L:List FS) (i:Nat):List UInt8:=match L[i]? with | some f=>f.all | none=>[]
theorem qI {L:List FS} {i:Nat} (h:i<L.length):jl L i=L[i].all:=by unfold jl;rw [List.getElem?_eq_getElem h]
theorem aH.loaded {d:ak} {most:Int} {base N U:Nat} {L:List FS} (h:aH d most base L N U) {i:Nat} (hi:i<L.length):bF (rg base i) (jl L i)=L[i]∧oh (jl L i):=by
 have h1:=acj (h.dL i hi) (h.all i hi) (h.small i hi) (Nat.le_trans (h.bnd i hi) h.big)
 rw [h.num i hi] at h1
 rw [qI hi]
 exact h1
theorem aH.ne {d:ak} {most:Int} {base N U:Nat} {L:List FS} (h:aH d most base L N U) {i:Nat} (hi:i<L.length):¬ L[i].all=[]:=by
 rw [h.all i hi]
 exact xB _ _
theorem aH.disk {d:ak} {most:Int} {base N U:Nat} {L:List FS} (h:aH d most base L N U) (hm:64≤most):lI d base L.length (jl L):=by
 refine ⟨h.files,h.up,fun i hi=>?_,fun i hi=>?_,fun i hi=>(h.loaded hi).2,fun i hi=>?_,fun i hi=>?_,fun i hi=>?_,h.n63,h.b64⟩
 ·rw [qI hi]
  exact h.has i hi
 ·rw [qI hi]
  exact h.all_le hi
 ·rw [(h.loaded (show i<L.length by omega)).1]
  have:=h.ahead i hi
  exact ⟨h.dL i (by omega),by omega⟩
 ·rw [(h.loaded hi).1,(h.loaded (show i<L.length by omega)).1]
  exact .inr (h.next i hi)
 ·rw [(h.loaded hi).1]
  have h1:=h.bnd i hi
  have h2:=h.big
  have h3:L[i].recs.length≤aO L[i]:=by unfold aO;omega
  exact ⟨by omega,by omega⟩
theorem aH.dZ {d:ak} {most:Int} {base N U:Nat} {L:List FS} (h:aH d most base L N U):Wl.dZ base L.length (jl L) L.length=L:=by
 refine List.ext_getElem (by rw [jo]) (fun i h1 h2=>?_)
 rw [nS,if_pos h2,(h.loaded h2).1]
theorem aH.open_ {d:ak} {most:Int} {base N U:Nat} {L:List FS} (h:aH d most base L N U):jX base L.length (jl L)=L∧gZ d base L.length (jl L)=d:=by
 rcases hl:L.length with _ | m
 ·exact ⟨(List.eq_nil_of_length_eq_zero hl).symm,rfl⟩
 ·have hm:m<L.length:=by omega
  have h1:=(h.loaded hm).1
  have h2:=h.dZ
  rw [hl] at h2
  have h3:=h.ne hm
  have h4:=h.dL m hm
  constructor
  ·show (if (bF (rg base m) (jl L m)).all=[] then (Wl.dZ base (m+1) (jl L) (m+1)).take m else (Wl.dZ base (m+1) (jl L) (m+1)).set m (iO (bF (rg base m) (jl L m))))=L
   rw [h1,if_neg h3,h2]
   have e:iO L[m]=L[m]:=by
    unfold iO
    rw [if_neg h3]
    have:∀ f:FS,f.dL=0→(⟨f.num,f.first,f.recs,f.all,0⟩:FS)=f:=fun f hf=>by cases f;simp only at hf;subst hf;rfl
    exact this _ h4
   rw [e]
   exact List.set_getElem_self hm
  ·show gH d (bF (rg base m) (jl L m))=d
   rw [h1]
   unfold gH
   rw [if_neg h3,if_pos h4]
theorem aH.new {d:ak} {most:Int} (ok:DOk d) (hF:d.F=noF) (hup:d.down=false):aH d most 0 [] 0 0 :=
 ⟨ok,hup,fun j _=>by rw [hF];rfl,fun i h=>absurd h (Nat.not_lt_zero i),fun i h=>absurd h (Nat.not_lt_zero i),fun i h=>absurd h (Nat.not_lt_zero i),fun i h=>absurd h (Nat.not_lt_zero i),fun i h=>absurd h (Nat.not_lt_zero i),fun i h=>absurd h (Nat.not_lt_zero _),fun i h=>absurd h (Nat.not_lt_zero _),fun i h=>absurd h (Nat.not_lt_zero i),by simp,by omega,by rw [hF,vD];exact Nat.le_refl _,by omega⟩
end Wl
end Go.Proofs.YtpcmlopbkehffaaGreat
namespace Go.Proofs.YtpcmlopbkehffaaGreat
open Go.RowKit Fm Dsk
namespace Wl
theorem nK {d:ak} (hup:d.down=false) {j:Nat} {c:List UInt8} {ff:Nat} (h:d.F j=some ⟨c,ff⟩):bE d (j:Nat)=0:=by
 unfold bE
 rw [hup]
 simp only [Bool.false_eq_true,if_false]
 rw [if_pos ⟨by omega,by rw [show ((j:Nat):Int).toNat=j by omega,h];rfl⟩]
theorem wE {d:ak} (hup:d.down=false) (ha:d.armed=false) {j:Nat} (hj:j<64) (b:List UInt8) :
  (bU d (j:Nat) b.length=9∧d.room<bR d.F+b.length∧bX d (j:Nat) b=d)∨(bU d (j:Nat) b.length=0∧bR d.F+b.length≤d.room∧bX d (j:Nat) b=⟨d.room,cO d.F j b,false,d.left,false⟩):=by
 unfold bU bX
 rw [hup]
 have hc:¬ (((j:Nat):Int)<0∨(64:Int)≤((j:Nat):Int)):=by omega
 simp only [Bool.false_eq_true,if_false,if_neg hc]
 by_cases h:d.room<bR d.F+b.length
 ·rw [if_pos h,if_pos h]
  exact .inl ⟨rfl,h,rfl⟩
 ·have ht:takeN d b.length=b.length:=by unfold takeN;rw [ha];simp
  have hl:iN d b.length=d.left:=by unfold iN;rw [ha];simp
  rw [if_neg h,if_neg h,if_neg (by rw [ht];omega)]
  refine .inr ⟨rfl,by omega,?_⟩
  unfold nJ
  rw [ht,hl,ha,hup,show ((j:Nat):Int).toNat=j by omega,List.take_length]
  simp
theorem zL {d:ak} (hup:d.down=false) {j:Nat} {c:List UInt8} {ff:Nat} (h:d.F j=some ⟨c,ff⟩):eF d (j:Nat)=dM d (aW d.F j (some ⟨c,c.length⟩)):=by
 unfold eF
 rw [if_pos (nK hup h)]
 unfold zN
 rw [show ((j:Nat):Int).toNat=j by omega,gG h]
theorem aH.sync {d:ak} {most:Int} {base N U:Nat} {L:List FS} (h:aH d most base L N U) {m:Nat} (hm:m<L.length):aH (eF d (L[m].num:Nat)) most base L N U∧(eF d (L[m].num:Nat)).armed=d.armed∧(eF d (L[m].num:Nat)).room=d.room:=by
 obtain ⟨ff,hf⟩:=h.has m hm
 have hok:=zM h.ok (L[m].num:Nat)
 have h64:rg base m<64:=iF _ _
 rw [h.num m hm] at hok ⊢
 have hu:bR (aW d.F (rg base m) (some ⟨L[m].all,L[m].all.length⟩))=bR d.F:=by
  have h1:=sP d.F (some ⟨L[m].all,L[m].all.length⟩) 64 h64
  have h2:bV d.F (rg base m)=L[m].all.length:=by unfold bV;rw [hf]
  have h3:bV (aW d.F (rg base m) (some ⟨L[m].all,L[m].all.length⟩)) (rg base m)=L[m].all.length:=by unfold bV;rw [eX]
  unfold bR
  omega
 rw [zL h.up hf] at hok ⊢
 refine ⟨⟨hok,h.up,fun j hj=>?_,fun i hi=>?_,h.num,h.dL,h.all,h.small,h.ahead,h.next,h.bnd,h.n63,h.b64,by show bR (aW _ _ _)≤U;rw [hu];exact h.used,h.big⟩,rfl,rfl⟩
 ·show aW _ _ _ j=none
  rw [cZ _ _ (hj m hm)]
  exact h.rest j hj
 ·show ∃ ff,aW _ _ _ (rg base i)=_
  by_cases e:i=m
  ·subst e
   exact ⟨_,eX _ _ _⟩
  ·rw [cZ _ _ (fun e2=>e (mq (by have:=h.n63;omega) (by have:=h.n63;omega) e2))]
   exact h.has i hi
theorem aH.put {d:ak} {most:Int} {base N U:Nat} {L:List FS} (h:aH d most base L N U) {m:Nat} (hm:m+1=L.length) (r:List UInt8) (hr:r.length≤8192) (hroom:bR d.F+(framed r).length≤d.room) (hN:N<1000000) :
  aH ⟨d.room,cO d.F (rg base m) (framed r),false,d.left,false⟩ most base (L.set m (fK (L[m]) (framed r) r)) (N+1) (U+(framed r).length):=by
 have hml:m<L.length:=by omega
 have h64:rg base m<64:=iF _ _
 obtain ⟨ff,hf⟩:=h.has m hml
 have hok:DOk ⟨d.room,cO d.F (rg base m) (framed r),false,d.left,false⟩:=by
  have h1:=wC (d:=⟨d.room,d.F,false,d.left,false⟩) ⟨h.ok.ko,h.ok.fM,h.ok.used,h.ok.fast,h.ok.high,h.ok.left⟩ h64 (b:=framed r) hroom
  unfold nJ takeN iN at h1
  simpa using h1
 have hlen:(L.set m (fK (L[m]) (framed r) r)).length=L.length:=List.length_set
 have hget:∀ i (hi:i<(L.set m (fK (L[m]) (framed r) r)).length),(L.set m (fK (L[m]) (framed r) r))[i]=if m=i then fK (L[m]) (framed r) r else L[i]'(by rwa [hlen] at hi):=fun i hi=>by rw [List.getElem_set]
 refine ⟨hok,rfl,fun j hj=>?_,fun i hi=>?_,fun i hi=>?_,fun i hi=>?_,fun i hi=>?_,fun i hi=>?_,fun i hi=>?_,fun i hi=>?_,fun i hi=>?_,by rw [hlen];exact h.n63,h.b64,?_,by omega⟩
 ·rw [hlen] at hj
  show aW _ _ _ j=none
  rw [cZ _ _ (hj m hml)]
  exact h.rest j hj
 ·show ∃ ff,aW _ _ _ (rg base i)=_
  rw [hget i hi]
  by_cases e:m=i
  ·subst e
   rw [if_pos rfl,eX,gG hf]
   exact ⟨_,rfl⟩
  ·rw [hlen] at hi
   rw [if_neg e,cZ _ _ (fun e2=>e (mq (by have:=h.n63;omega) (by have:=h.n63;omega) e2).symm)]
   exact h.has i hi
 ·rw [hget i hi]
  by_cases e:m=i
  ·subst e;rw [if_pos rfl];exact h.num m hml
  ·rw [if_neg e];exact h.num i (by rwa [hlen] at hi)
 ·rw [hget i hi]
  by_cases e:m=i
  ·subst e;rw [if_pos rfl];exact h.dL m hml
  ·rw [if_neg e];exact h.dL i (by rwa [hlen] at hi)
 ·rw [hget i hi]
  by_cases e:m=i
  ·subst e
   rw [if_pos rfl]
   show L[m].all++framed r=framed (aG L[m].first)++frames (L[m].recs++[r])
   rw [abR,← List.append_assoc,← h.all m hml]
  ·rw [if_neg e];exact h.all i (by rwa [hlen] at hi)
 ·rw [hget i hi]
  by_cases e:m=i
  ·subst e
   rw [if_pos rfl]
   intro x hx
   rcases List.mem_append.1 (show x∈L[m].recs++[r] from hx) with h1 | h1
   ·exact h.small m hml x h1
   ·rw [List.mem_singleton.1 h1];exact hr
  ·rw [if_neg e];exact h.small i (by rwa [hlen] at hi)
 ·rw [hget i (by omega),if_neg (by rw [hlen] at hi;omega)]
  exact h.ahead i (by rwa [hlen] at hi)
 ·rw [hget i (by omega),if_neg (by rw [hlen] at hi;omega),hget (i+1) hi]
  by_cases e:m=i+1
  ·subst e
   rw [if_pos rfl]
   exact h.next i (by rwa [hlen] at hi)
  ·rw [if_neg e]
   exact h.next i (by rwa [hlen] at hi)
 ·rw [hget i hi]
  by_cases e:m=i
  ·subst e
   rw [if_pos rfl]
   have h1:=h.bnd m hml
   unfold aO at h1 ⊢
   show L[m].first+(L[m].recs++[r]).length≤N+1
   rw [List.length_append,List.length_singleton]
   omega
  ·rw [if_neg e]
   have:=h.bnd i (by rwa [hlen] at hi)
   omega
 ·show bR (cO _ _ _)≤_
  rw [sO _ _ h64]
  have:=h.used
  omega
theorem aH.begin_ {d:ak} {most:Int} {base N U:Nat} {L:List FS} (h:aH d most base L N U) (h62:L.length≤62) (first:Nat) (hfst:∀ f,L.getLast? = some f→first=aO f) (hfN:first≤N) (hlast:∀ f,L.getLast? = some f→most≤(f.all.length:Int)) (r:List UInt8) (hr:r.length≤8192) (hroom:bR d.F+(framed (aG first)++framed r).length≤d.room) (hN:N<1000000) :
  aH ⟨d.room,cO d.F (rg base L.length) (framed (aG first)++framed r),false,d.left,false⟩ most base (L++[⟨rg base L.length,first,[r],framed (aG first)++framed r,0⟩]) (N+1) (U+(framed (aG first)++framed r).length):=by
 have hok:DOk ⟨d.room,cO d.F (rg base L.length) (framed (aG first)++framed r),false,d.left,false⟩:=by
  have h1:=wC (d:=⟨d.room,d.F,false,d.left,false⟩) ⟨h.ok.ko,h.ok.fM,h.ok.used,h.ok.fast,h.ok.high,h.ok.left⟩ (iF base L.length) (b:=framed (aG first)++framed r) hroom
  unfold nJ takeN iN at h1
  simp only [Bool.false_eq_true,if_false,List.take_length,Nat.lt_irrefl] at h1
  exact h1
 have hno:d.F (rg base L.length)=none:=h.rest _ (fun i hi e2=>by have:=mq (by omega) (by omega) e2;omega)
 have hlen:(L++[(⟨rg base L.length,first,[r],framed (aG first)++framed r,0⟩:FS)]).length=L.length+1:=by simp
 have hget:∀ i (hi:i<(L++[(⟨rg base L.length,first,[r],framed (aG first)++framed r,0⟩:FS)]).length),(i=L.length∧(L++[(⟨rg base L.length,first,[r],framed (aG first)++framed r,0⟩:FS)])[i]=⟨rg base L.length,first,[r],framed (aG first)++framed r,0⟩)∨∃ h:i<L.length,(L++[(⟨rg base L.length,first,[r],framed (aG first)++framed r,0⟩:FS)])[i]=L[i]:=fun i hi=>by
  by_cases e:i<L.length
  ·exact .inr ⟨e,List.getElem_append_left e⟩
  ·have e2:i=L.length:=by rw [hlen] at hi;omega
   subst e2
   exact .inl ⟨rfl,by simp⟩
 refine ⟨hok,rfl,fun j hj=>?_,fun i hi=>?_,fun i hi=>?_,fun i hi=>?_,fun i hi=>?_,fun i hi=>?_,fun i hi=>?_,fun i hi=>?_,fun i hi=>?_,by rw [hlen];omega,h.b64,?_,by omega⟩
 ·rw [hlen] at hj
  show aW _ _ _ j=none
  rw [cZ _ _ (hj L.length (by omega))]
  exact h.rest j (fun i hi=>hj i (by omega))
 ·show ∃ ff,aW _ _ _ (rg base i)=_
  rcases hget i hi with ⟨e,e2⟩ | ⟨hl,e2⟩
  ·rw [e2]
   subst e
   rw [eX]
   have:fileAt d.F (rg base L.length)=⟨[],0⟩:=by unfold fileAt;rw [hno]
   rw [this]
   exact ⟨_,rfl⟩
  ·rw [e2,cZ _ _ (fun e3=>by have:=mq (by omega) (by omega) e3;omega)]
   exact h.has i hl
 ·rcases hget i hi with ⟨e,e2⟩ | ⟨hl,e2⟩
  ·rw [e2,e]
  ·rw [e2];exact h.num i hl
 ·rcases hget i hi with ⟨e,e2⟩ | ⟨hl,e2⟩
  ·rw [e2]
  ·rw [e2];exact h.dL i hl
 ·rcases hget i hi with ⟨e,e2⟩ | ⟨hl,e2⟩
  ·rw [e2];simp [frames]
  ·rw [e2];exact h.all i hl
 ·rcases hget i hi with ⟨e,e2⟩ | ⟨hl,e2⟩
  ·rw [e2]
   intro x hx
   rw [List.mem_singleton.1 hx];exact hr
  ·rw [e2];exact h.small i hl
 ·rw [hlen] at hi
  rcases hget i (by rw [hlen];omega) with ⟨e,e2⟩ | ⟨hl,e2⟩
  ·omega
  ·rw [e2]
   by_cases e3:i+1<L.length
   ·exact h.ahead i e3
   ·exact hlast L[i] (by rw [List.getLast?_eq_getElem?,show L.length-1=i by omega,List.getElem?_eq_getElem hl])
 ·rw [hlen] at hi
  rcases hget i (by rw [hlen];omega) with ⟨e,e2⟩ | ⟨hl,e2⟩
  ·omega
  ·rw [e2]
   rcases hget (i+1) (by rw [hlen];omega) with ⟨e3,e4⟩ | ⟨hl3,e4⟩
   ·rw [e4]
    exact hfst L[i] (by rw [List.getLast?_eq_getElem?,show L.length-1=i by omega,List.getElem?_eq_getElem hl])
   ·rw [e4]
    exact h.next i hl3
 ·rcases hget i hi with ⟨e,e2⟩ | ⟨hl,e2⟩
  ·rw [e2]
   show first+1≤N+1
   omega
  ·rw [e2]
   have:=h.bnd i hl
   omega
 ·show bR (cO _ _ _)≤_
  rw [sO _ _ (iF _ _)]
  have:=h.used
  omega
theorem qb (L:List FS) (f:FS):aC (L++[f])=aC L++f.recs:=by unfold aC;simp
theorem zk {L:List FS} {m:Nat} (hm:m+1=L.length) (f:FS) (r:List UInt8) (hf:f.recs=(L[m]'(by omega)).recs++[r]):aC (L.set m f)=aC L++[r]:=by
 have hml:m<L.length:=by omega
 have e1:L=L.take m++[L[m]]:=by
  rw [← List.take_succ_eq_append_getElem hml,hm,List.take_length]
 have e2:L.set m f=L.take m++[f]:=by
  rw [List.set_eq_take_append_cons_drop,if_pos hml,show m+1=L.length from hm,List.drop_length]
 rw [e2,qb,hf]
 conv=>rhs;rw [e1]
 rw [qb,List.append_assoc]
structure vI (d:ak) (most:Int) (base:Nat) (L:List FS) (N U:Nat) (r:List UInt8) (k:Int) (d':ak) (L':List FS):Prop where
 k0:k=0
 ok:aH d' most base L' (N+1) (U+r.length+24)
 recs:aC L'=aC L++[r]
 arm:d'.armed=false
 len:L'.length≤L.length+1
 room:d'.room=d.room
 keep:L.length=1→(∀ f∈L,(f.all.length:Int)<most)→L'.length=1
theorem abN (first:Nat) (r:List UInt8):(framed (aG first)++framed r).length=r.length+24:=by
 rw [List.length_append,nO,nO,jR]
 omega
theorem aH.mono {d:ak} {most:Int} {base N U U':Nat} {L:List FS} (h:aH d most base L N U) (hU:U≤U'):aH d most base L N U' :=
 ⟨h.ok,h.up,h.rest,h.has,h.num,h.dL,h.all,h.small,h.ahead,h.next,h.bnd,h.n63,h.b64,Nat.le_trans h.used hU,h.big⟩
theorem adU {d:ak} {most:Int} {base N U:Nat} {L:List FS} (h:aH d most base L N U) (ha:d.armed=false) (h62:L.length≤62) (first:Nat) (hfst:∀ f,L.getLast? = some f→first=aO f) (hfN:first≤N) (hlast:∀ f,L.getLast? = some f→most≤(f.all.length:Int)) (r:List UInt8) (hr:r.length≤8192) (hN:N<1000000) (hk:L.length=1→(∀ f∈L,(f.all.length:Int)<most)→False) :
  ((dK d L (rg base L.length) first r).1=9∧d.room<U+r.length+24)∨vI d most base L N U r (dK d L (rg base L.length) first r).1 (dK d L (rg base L.length) first r).2.1 (dK d L (rg base L.length) first r).2.2:=by
 have hl:=abN first r
 rcases wE h.up ha (iF base L.length) (framed (aG first)++framed r) with ⟨e1,e2,e3⟩ | ⟨e1,e2,e3⟩
 ·left
  have:=h.used
  exact ⟨e1,by omega⟩
 ·right
  have h1:=h.begin_ h62 first hfst hfN hlast r hr e2 hN
  unfold dK
  simp only
  rw [e1,e3,if_pos rfl]
  refine ⟨rfl,h1.mono (by omega),by rw [qb],rfl,by simp,rfl,fun h1 h2=>absurd h2 (fun h2=>hk h1 h2)⟩
theorem aH.append {d:ak} {most:Int} {base N U:Nat} {L:List FS} (h:aH d most base L N U) (h0:L=[]→base=0) (ha:d.armed=false) (r:List UInt8) (hr:r.length≤8192) (hN:N<1000000) :
  ((aL d most L r).1=9∧(63≤L.length∨d.room<U+r.length+24))∨vI d most base L N U r (aL d most L r).1 (aL d most L r).2.1 (aL d most L r).2.2:=by
 rcases hl:L.getLast? with _ | f
 ·have hnil:L=[]:=List.getLast?_eq_none_iff.1 hl
  have e:aL d most L r=dK d L (rg base L.length) 0 r:=by
   unfold aL cB
   rw [hl]
   simp only
   rw [h0 hnil,hnil]
   rfl
  rw [e]
  rcases adU h ha (by rw [hnil];simp) 0 (by rw [hl];simp) (Nat.zero_le _) (by rw [hl];simp) r hr hN (by rw [hnil];simp) with h1 | h1
  ·exact .inl ⟨h1.1,.inr h1.2⟩
  ·exact .inr h1
 ·have hl2:=hl
  rw [List.getLast?_eq_getElem?] at hl2
  obtain ⟨hlt,hfe⟩:=List.getElem?_eq_some_iff.1 hl2
  by_cases hm:most≤(f.all.length:Int)
  ·by_cases h63:63≤L.length
   ·left
    have e:aL d most L r=(9,d,L):=by
     unfold aL
     rw [hl]
     simp only
     rw [if_pos hm]
     unfold cB
     rw [if_pos h63]
    rw [e]
    exact ⟨rfl,.inl h63⟩
   ·obtain ⟨hs,hsa,hsr⟩:=h.sync hlt
    rw [hfe] at hs hsa hsr
    obtain ⟨ff,hff⟩:=h.has _ hlt
    rw [← h.num _ hlt,hfe] at hff
    have hnum:(f.num+1) % 64=rg base L.length:=by
     have h1:=h.num _ hlt
     rw [hfe] at h1
     rw [h1,zq]
     congr 1
     omega
    have e:aL d most L r=dK (eF d (f.num:Nat)) L (rg base L.length) (aO f) r:=by
     unfold aL
     rw [hl]
     simp only
     rw [if_pos hm]
     unfold cB
     rw [if_neg h63,hl]
     simp only
     rw [if_pos (nK h.up hff),hnum]
    rw [e]
    have hb:=h.bnd _ hlt
    rw [hfe] at hb
    rcases adU hs (by rw [hsa];exact ha) (by omega) (aO f) (by rw [hl];intro x hx;cases hx;rfl) hb (by rw [hl];intro x hx;cases hx;exact hm) r hr hN (fun _ h2=>by have:=h2 f (List.mem_of_getLast? hl);omega) with h1 | h1
    ·rw [hsr] at h1
     exact .inl ⟨h1.1,.inr h1.2⟩
    ·exact .inr ⟨h1.k0,h1.ok,h1.recs,h1.arm,h1.len,by rw [h1.room,hsr],h1.keep⟩
  ·have hnum:=h.num _ hlt
   rw [hfe] at hnum
   have e:aL d most L r=(bU d (f.num:Nat) (framed r).length,bX d (f.num:Nat) (framed r),if bU d (f.num:Nat) (framed r).length=0 then L.set (L.length-1) (fK f (framed r) r) else L):=by
    unfold aL
    rw [hl]
    simp only
    rw [if_neg hm]
   rw [e,hnum]
   have hfl:=nO r
   rcases wE h.up ha (iF base (L.length-1)) (framed r) with ⟨e1,e2,e3⟩ | ⟨e1,e2,e3⟩
   ·left
    have:=h.used
    exact ⟨e1,.inr (by omega)⟩
   ·right
    have h1:=h.put (m:=L.length-1) (by omega) r hr e2 hN
    rw [hfe] at h1
    simp only
    rw [e1,e3,if_pos rfl]
    exact ⟨rfl,h1.mono (by omega),zk (by omega) _ r (by rw [hfe];rfl),rfl,by rw [List.length_set];omega,rfl,fun h2 _=>by rw [List.length_set];exact h2⟩
end Wl
end Go.Proofs.YtpcmlopbkehffaaGreat
namespace Go.Proofs.YtpcmlopbkehffaaGreat
open Go.RowKit Fm Dsk
namespace Wl
theorem adE {base n j:Nat} (hb:base<64) (hn:n≤63) (hj:j<n):∃ m,m<n∧sN base n j=rg base m:=by
 unfold sN rg
 by_cases h:base+n≤64
 ·exact ⟨j,hj,by rw [if_pos h];omega⟩
 ·rw [if_neg h]
  by_cases h2:j<base+n-64
  ·exact ⟨64-base+j,by omega,by rw [if_pos h2];omega⟩
  ·exact ⟨j-(base+n-64),by omega,by rw [if_neg h2];omega⟩
theorem aj7 {base n m:Nat} (hb:base<64) (hn:n≤63) (hm:m<n):∃ j,j<n∧sN base n j=rg base m :=
 ⟨(stN base n+m) % n,Nat.mod_lt _ (by omega),adF hb hn hm⟩
structure SyA (w:World) (gl gd:Nat) (X F:Nat→Prop) (Qd0 Pl:Nat→Prop) (P:Nat→Nat→Prop) (g:Nat→Nat) (Af:Option Addr) (cf:Nat) (d0:ak) (most:Int) (base:Nat) (L:List FS) (N U:Nat) (A:Option Addr) (i:Nat) (wr:World) (d:ak) (Qd X':Nat→Prop):Prop where
 lg:bB wr gl gd Qd X' Pl P g Af cf d most L
 ok:aH d most base L N U
 arm:d.armed=d0.armed
 room:d.room=d0.room
 fast:∀ m (h:m<L.length),(∃ j,j<i∧sN base L.length j=rg base m)→d.F (rg base m)=some ⟨L[m].all,L[m].all.length⟩
 tn:Tn F w wr
 ft:d9 (fun q=>F q∨w.heap.size≤q) Qd Pl P L
 x : ∀ q,X' q→X q∨w.heap.size≤q
 xx:∀ q,X q→X' q
 row:∀ b,A=some ⟨b,0,none⟩→¬ Qd b∧∀ j,j<L.length→wr.cell? ⟨b,j,none⟩=some (.int .i64 ((sN base L.length j:Nat):Int))
theorem SyA.step {w wr w':World} {gl gd:Nat} {X F Qd0 Pl Qd X' Q':Nat→Prop} {P:Nat→Nat→Prop} {g:Nat→Nat} {Af A:Option Addr} {cf:Nat} {d0 d:ak} {most:Int} {base N U i:Nat} {L:List FS} (h:SyA w gl gd X F Qd0 Pl P g Af cf d0 most base L N U A i wr d Qd X') (hi:i<L.length)
  (hd:Dk w' gd Q' (eF d (((sN base L.length i:Nat):Int)))) (t:Tn Qd wr w') (hq:∀ q,Q' q→Qd q∨wr.heap.size≤q):SyA w gl gd X F Qd0 Pl P g Af cf d0 most base L N U A (i+1) w' (eF d (((sN base L.length i:Nat):Int))) Q' (fun q=>X' q∨Q' q):=by
 obtain ⟨m,hm,hme⟩:=adE h.ok.b64 h.ok.n63 hi
 rw [hme] at hd ⊢
 obtain ⟨s1,s2,s3⟩:=h.ok.sync hm
 rw [h.ok.num m hm] at s1 s2 s3
 obtain ⟨ff,hff⟩:=h.ok.has m hm
 have hsz:=h.tn.size
 refine ⟨h.lg.disk hd t hq,s1,by rw [s2,h.arm],by rw [s3,h.room],fun m2 hm2 hj=>?_,h.tn.trans t (fun q hq2=>h.ft.d q hq2),h.ft.qd (fun q hq2=>?_),fun q hq2=>?_,fun q hq2 => .inl (h.xx q hq2),fun b hA=>?_⟩
 ·rw [zL h.ok.up hff]
  show aW _ _ _ (rg base m2)=_
  by_cases e:m2=m
  ·subst e
   rw [eX]
  ·have hne:rg base m2≠rg base m:=fun e2=>e (mq (by have:=h.ok.n63;omega) (by have:=h.ok.n63;omega) e2)
   rw [cZ _ _ hne]
   obtain ⟨j,hj1,hj2⟩:=hj
   refine h.fast m2 hm2 ⟨j,?_,hj2⟩
   have:j≠i:=by rintro rfl;rw [hme] at hj2;exact hne hj2.symm
   omega
 ·rcases hq q hq2 with h2 | h2
  ·exact h.ft.d q h2
  ·right;omega
 ·rcases hq2 with h1 | h1
  ·exact h.x q h1
  ·rcases hq q h1 with h2 | h2
   ·exact h.x q (h.lg.dx q h2)
   ·right;omega
 ·obtain ⟨r1,r2⟩:=h.row b hA
  refine ⟨fun hq2=>?_,fun j hj=>oz (r2 j hj) t r1⟩
  rcases hq b hq2 with h3 | h3
  ·exact r1 h3
  ·have:=lt_of_cell (r2 i hi)
   have h4:b<wr.heap.size:=this
   omega
def aau (w:World) (gl gd:Nat) (X F:Nat→Prop) (d0:ak) (most:Int) (base:Nat) (L:List FS) (N U:Nat) (e:Ending) (w':World):Prop :=
 ∃ d,aH d most base L N U∧d.armed=d0.armed∧d.room=d0.room∧(∀ j (h:j<L.length),d.F (rg base j)=some ⟨L[j].all,L[j].all.length⟩)∧fH w gl gd X F (.int .i64 0) d most L e w'
section
variable {w:World} {gl gd:Nat} {Qd X Pl F:Nat→Prop} {P:Nat→Nat→Prop} {g:Nat→Nat} {Af:Option Addr} {cf:Nat} {d:ak} {most:Int} {L:List FS}
set_option maxRecDepth 20000 in
set_option maxHeartbeats 8000000 in
theorem ag5 {base N U:Nat} (h:bB w gl gd Qd X Pl P g Af cf d most L) (hF:d9 F Qd Pl P L) (ok:aH d most base L N U):Calls Tryz.prog 30 #[.pointer (some ⟨gl,0,none⟩)] w (aau w gl gd X F d most base L N U):=by
 have HN:=aj (pV h)
 obtain ⟨c0,c1,c2⟩:=fB h.whole
 have HDn:=aj (oG gd Qd d w h.dk)
 rw [ok.up] at HDn
 have HFi:=aj (qW gd Qd d w h.dk)
 unfold mI at HFi
 rw [ok.files,qc] at HFi
 have H:=aj h
 have HOk:=aj ok
 have HLn:=aj ok.n63
 have HF:=aj hF
 clear h ok hF
 go_enter Tryz.func30,Tryz.ntmps30
 go_wp2_with fail
 (with_reducible refine Calls.mono HN.out ?_)
 rintro e w1 ⟨rfl,rfl⟩
 go_wp2_with fail
 (with_reducible refine Calls.mono HDn.out ?_)
 rintro e w1 ⟨rfl,rfl⟩
 go_wp2_with fail
 (with_reducible refine Calls.mono HFi.out ?_)
 rintro e w1 ⟨A,c,rfl,ho,hb⟩
 have HB1:=aj hb
 have HS0:=aj (show SyA w gl gd X F Qd Pl P g Af cf d most base L N U A 0 w1 d Qd X from
  ⟨H.out.below hb,HOk.out,rfl,rfl,fun m _ hj=>by obtain ⟨j,hj,-⟩:=hj;exact absurd hj (Nat.not_lt_zero j),Tn.of_below hb,HF.out.wide (fun q hq => .inl hq),fun q hq => .inl hq,fun q hq=>hq,fun b hA=>by
   subst hA
   have h2:=(ho.from_ b rfl).1
   refine ⟨fun hq=>by have:=H.out.dk.qlt b hq;omega,fun j hj=>?_⟩
   obtain ⟨b',e1,e2⟩:=yC ho hj
   injection e1 with e1
   injection e1 with e1
   subst e1
   exact e2 j hj⟩)
 have HO:=aj ho
 have hcl:L.length≤c:=HO.out.row.cap
 have hcm:c≤9223372036854775807:=HO.out.row.max
 clear hb ho c0 c1 c2
 go_wp2_with fail
 go_loopw [19] (fun vi wr=>∃ (i:Nat) (d':ak) (Qd' X':Nat→Prop),i≤L.length∧vi = .int .i64 (i:Nat)∧Hid (SyA w gl gd X F Qd Pl P g Af cf d most base L N U A i wr d' Qd' X')) (fun vi _=>L.length-(intOf vi).toNat)
 case atStart=>exact ⟨0,d,Qd,X,Nat.zero_le _,rfl,HS0⟩
 case round =>
  obtain ⟨i,d',Qd',X',hi,rfl,HS⟩:=hrel
  have hL63:(L.length:Int)≤63:=by have:=HLn.out;omega
  by_cases hlt:i<L.length
  ·obtain ⟨b,rfl,-⟩:=yC HO.out hlt
   have hcell:=(HS.out.row b rfl).2 i hlt
   obtain ⟨d0,d1,d2⟩:=fB HS.out.lg.whole
   obtain ⟨m,hm,hme⟩:=adE HOk.out.b64 HOk.out.n63 hlt
   have HC:=aj (ad1 ((sN base L.length i:Nat):Int) (by omega) (by have:=iF base m;rw [hme];omega) gd Qd' d' wr HS.out.lg.dk)
   obtain ⟨ff,hff⟩:=HS.out.ok.has m hm
   rw [← hme] at hff
   rw [nK HS.out.ok.up hff] at HC
   obtain ⟨p,hp⟩:∃ p:Nat,p=sN base L.length i:=⟨_,rfl⟩
   have HPp:=aj hp
   rw [← hp] at HC hcell
   have x1:(i:Int)<(L.length:Int):=by omega
   have x2:(0:Int)≤(i:Int):=by omega
   have HK:=aj hlt
   clear hlt hff hp d1 d2 hme hm
   go_wp2_with fail
   (with_reducible refine Calls.mono HC.out ?_)
   rintro e w3 ⟨rfl,Q',hk,t1,hq⟩
   rw [HPp.out] at hk
   have HS2:=aj (HS.out.step HK.out hk t1 hq)
   clear hk t1 hq hcell d0
   go_wp2_with fail
   go_roundw
   case rel=>exact ⟨i+1,_,_,_,by have:=HK.out;omega,by go_num,HS2⟩
   case measure=>have:=HK.out;simp [intOf];omega
  ·have x1:¬ (i:Int)<(L.length:Int):=by omega
   have HI:=aj (show i=L.length by omega)
   clear hlt
   go_wp2_with fail
   go_ret
   have h:=HS.out
   exact ⟨d',h.ok,h.arm,h.room,fun j hj=>h.fast j hj (by obtain ⟨j2,h2,h3⟩:=aj7 h.ok.b64 h.ok.n63 hj;exact ⟨j2,by rw [HI.out];exact h2,h3⟩),rfl,X',h.lg.upper h.ft,h.tn,h.x,h.xx⟩
end
end Wl
end Go.Proofs.YtpcmlopbkehffaaGreat
namespace Go.Proofs.YtpcmlopbkehffaaGreat
open Go.RowKit Fm Dsk
namespace Wl
theorem aH.fits {d:ak} {most:Int} {base N U:Nat} {L:List FS} (h:aH d most base L N U) (h0:L=[]→base=0) (ha:d.armed=false) (r:List UInt8) (hr:r.length≤8192) (hN:N<1000000) (h62:L.length≤62) (hroom:U+r.length+24≤d.room):vI d most base L N U r (aL d most L r).1 (aL d most L r).2.1 (aL d most L r).2.2:=by
 rcases h.append h0 ha r hr hN with ⟨-,h1 | h1⟩ | h1
 ·omega
 ·omega
 ·exact h1
end Wl
end Go.Proofs.YtpcmlopbkehffaaGreat
