/-
  A log whose first file goes: plain mathematics.
-/
import Derived.Test.YtpcmlopbkehffaaGreatOGAM
set_option linter.unusedSimpArgs false
set_option linter.unusedVariables false
namespace Go.Proofs.YtpcmlopbkehffaaGreat
open Go.RowKit Fm Dsk
namespace Wl
theorem aH.abt {d:ak} {most:Int} {base N U:Nat} {f:FS} {L:List FS} (h:aH d most base (f::L) N U):aH (fG d (f.num:Nat)) most ((base+1) % 64) L N U∧bE d (f.num:Nat)=0∧(fG d (f.num:Nat)).armed=d.armed∧(fG d (f.num:Nat)).room=d.room:=by
 obtain ⟨ff,hf⟩:=h.has 0 (by simp)
 have hnum:=h.num 0 (by simp)
 simp only [List.getElem_cons_zero] at hf hnum
 rw [sG h.b64] at hf hnum
 have hask:=nK h.up hf
 rw [← hnum] at hask
 have hok:=uT h.ok (f.num:Nat)
 have e:fG d (f.num:Nat)=dM d (aW d.F base none):=by
  unfold fG
  rw [if_pos hask,hnum,show ((base:Nat):Int).toNat=base by omega]
 have h64:base<64:=h.b64
 have hu:bR (aW d.F base none)≤bR d.F:=by
  have h1:=sP d.F none 64 h64
  have h3:bV (aW d.F base none) base=0:=by unfold bV;rw [eX]
  unfold bR
  omega
 rw [e] at hok ⊢
 have hlen:=h.n63
 simp only [List.length_cons] at hlen
 refine ⟨⟨hok,h.up,fun j hj=>?_,fun i hi=>?_,fun i hi=>?_,fun i hi=>?_,fun i hi=>?_,fun i hi=>?_,fun i hi=>?_,fun i hi=>?_,fun i hi=>?_,by omega,Nat.mod_lt _ (by omega),Nat.le_trans hu h.used,h.big⟩,hask,rfl,rfl⟩
 ·show aW d.F base none j=none
  by_cases e2:j=base
  ·subst e2;exact eX _ _ _
  ·rw [cZ _ _ e2]
   refine h.rest j (fun i hi=>?_)
   rcases i with _ | i
   ·rw [sG h64];exact e2
   ·rw [← sF];exact hj i (by simpa using hi)
 ·show ∃ ff,aW d.F base none (rg ((base+1) % 64) i)=_
  have hne:rg base (i+1)≠base:=fun e2=>by
   have:=mq (base:=base) (i:=i+1) (j:=0) (by omega) (by omega) (by rw [sG h64];exact e2)
   omega
  rw [sF,cZ _ _ hne]
  exact h.has (i+1) (by simpa using hi)
 ·have h1:=h.num (i+1) (by simpa using hi)
  rw [List.getElem_cons_succ] at h1
  rw [h1,sF]
 ·exact h.dL (i+1) (by simpa using hi)
 ·exact h.all (i+1) (by simpa using hi)
 ·exact h.small (i+1) (by simpa using hi)
 ·exact h.ahead (i+1) (by simpa using hi)
 ·exact h.next (i+1) (by simpa using hi)
 ·exact h.bnd (i+1) (by simpa using hi)
end Wl
end Go.Proofs.YtpcmlopbkehffaaGreat
namespace Go.Proofs.YtpcmlopbkehffaaGreat
open Go.RowKit Fm Dsk
namespace Wl
structure Shp (most:Int) (base:Nat) (L:List FS) (N:Nat):Prop where
 num:∀ i (h:i<L.length),L[i].num=rg base i
 dL:∀ i (h:i<L.length),L[i].dL=0
 all:∀ i (h:i<L.length),L[i].all=framed (aG L[i].first)++frames L[i].recs
 small:∀ i (h:i<L.length),∀ r∈L[i].recs,r.length≤8192
 ahead:∀ i (h:i+1<L.length),most≤(L[i].all.length:Int)
 next:∀ i (h:i+1<L.length),L[i+1].first=aO L[i]
 bnd:∀ i (h:i<L.length),aO L[i]≤N
 n63:L.length≤63
 b64:base<64
 big:N≤1000000
theorem aH.shp {d:ak} {most:Int} {base N U:Nat} {L:List FS} (h:aH d most base L N U):Shp most base L N:=⟨h.num,h.dL,h.all,h.small,h.ahead,h.next,h.bnd,h.n63,h.b64,h.big⟩
theorem Shp.nil (most:Int) {base N:Nat} (hb:base<64) (hN:N≤1000000):Shp most base [] N :=
 ⟨fun i h=>absurd h (Nat.not_lt_zero i),fun i h=>absurd h (Nat.not_lt_zero i),fun i h=>absurd h (Nat.not_lt_zero i),fun i h=>absurd h (Nat.not_lt_zero i),fun i h=>absurd h (Nat.not_lt_zero _),fun i h=>absurd h (Nat.not_lt_zero _),fun i h=>absurd h (Nat.not_lt_zero i),by simp,hb,hN⟩
theorem Shp.put {most:Int} {base N:Nat} {L:List FS} (h:Shp most base L N) {m:Nat} (hm:m+1=L.length) (r:List UInt8) (hr:r.length≤8192) (hN:N<1000000):Shp most base (L.set m (fK (L[m]'(by omega)) (framed r) r)) (N+1):=by
 have hml:m<L.length:=by omega
 have hlen:(L.set m (fK (L[m]) (framed r) r)).length=L.length:=List.length_set
 have hget:∀ i (hi:i<(L.set m (fK (L[m]) (framed r) r)).length),(L.set m (fK (L[m]) (framed r) r))[i]=if m=i then fK (L[m]) (framed r) r else L[i]'(by rwa [hlen] at hi):=fun i hi=>by rw [List.getElem_set]
 refine ⟨fun i hi=>?_,fun i hi=>?_,fun i hi=>?_,fun i hi=>?_,fun i hi=>?_,fun i hi=>?_,fun i hi=>?_,by rw [hlen];exact h.n63,h.b64,by omega⟩
 ·rw [hget i hi]
  by_cases e:m=i
  ·subst e;rw [if_pos rfl];exact h.num m hml
  ·rw [if_neg e];exact h.num i (by rwa [hlen] at hi)
 ·rw [hget i hi]
  by_cases e:m=i
  ·subst e;rw [if_pos rfl];exact h.dL m hml
  ·rw [if_neg e];exact h.dL i (by rwa [hlen] at hi)
 ·rw [hget i hi]
  by_cases e:m=i
  ·subst e
   rw [if_pos rfl]
   show L[m].all++framed r=framed (aG L[m].first)++frames (L[m].recs++[r])
   rw [abR,← List.append_assoc,← h.all m hml]
  ·rw [if_neg e];exact h.all i (by rwa [hlen] at hi)
 ·rw [hget i hi]
  by_cases e:m=i
  ·subst e
   rw [if_pos rfl]
   intro x hx
   rcases List.mem_append.1 (show x∈L[m].recs++[r] from hx) with h1 | h1
   ·exact h.small m hml x h1
   ·rw [List.mem_singleton.1 h1];exact hr
  ·rw [if_neg e];exact h.small i (by rwa [hlen] at hi)
 ·rw [hget i (by omega),if_neg (by rw [hlen] at hi;omega)]
  exact h.ahead i (by rwa [hlen] at hi)
 ·rw [hget i (by omega),if_neg (by rw [hlen] at hi;omega),hget (i+1) hi]
  by_cases e:m=i+1
  ·subst e
   rw [if_pos rfl]
   exact h.next i (by rwa [hlen] at hi)
  ·rw [if_neg e]
   exact h.next i (by rwa [hlen] at hi)
 ·rw [hget i hi]
  by_cases e:m=i
  ·subst e
   rw [if_pos rfl]
   have h1:=h.bnd m hml
   unfold aO at h1 ⊢
   show L[m].first+(L[m].recs++[r]).length≤N+1
   rw [List.length_append,List.length_singleton]
   omega
  ·rw [if_neg e]
   have:=h.bnd i (by rwa [hlen] at hi)
   omega
theorem lV {α:Type} (L:List α) (x:α) {i:Nat} (hi:i<(L++[x]).length):(i=L.length∧(L++[x])[i]=x)∨∃ h:i<L.length,(L++[x])[i]=L[i]:=by
 by_cases e:i<L.length
 ·exact .inr ⟨e,List.getElem_append_left e⟩
 ·have e2:i=L.length:=by rw [List.length_append,List.length_singleton] at hi;omega
  subst e2
  exact .inl ⟨rfl,by simp⟩
theorem Shp.snoc {most:Int} {base N N':Nat} {L:List FS} (h:Shp most base L N) (h62:L.length≤62) (first:Nat) (hfst:∀ f,L.getLast? = some f→first=aO f) (hlast:∀ f,L.getLast? = some f→most≤(f.all.length:Int)) (rs:List (List UInt8)) (hr:∀ r∈rs,r.length≤8192) (hfN:first+rs.length≤N') (hNN:N≤N') (hN':N'≤1000000) :
  Shp most base (L++[⟨rg base L.length,first,rs,framed (aG first)++frames rs,0⟩]) N':=by
 have hlen:(L++[(⟨rg base L.length,first,rs,framed (aG first)++frames rs,0⟩:FS)]).length=L.length+1:=by simp
 refine ⟨fun i hi=>?_,fun i hi=>?_,fun i hi=>?_,fun i hi=>?_,fun i hi=>?_,fun i hi=>?_,fun i hi=>?_,by rw [hlen];omega,h.b64,hN'⟩
 ·rcases lV L _ hi with ⟨e,e2⟩ | ⟨hl,e2⟩
  ·rw [e2,e]
  ·rw [e2];exact h.num i hl
 ·rcases lV L _ hi with ⟨e,e2⟩ | ⟨hl,e2⟩
  ·rw [e2]
  ·rw [e2];exact h.dL i hl
 ·rcases lV L _ hi with ⟨e,e2⟩ | ⟨hl,e2⟩
  ·rw [e2]
  ·rw [e2];exact h.all i hl
 ·rcases lV L _ hi with ⟨e,e2⟩ | ⟨hl,e2⟩
  ·rw [e2];exact hr
  ·rw [e2];exact h.small i hl
 ·rw [hlen] at hi
  rcases lV L _ (i:=i) (by rw [hlen];omega) with ⟨e,e2⟩ | ⟨hl,e2⟩
  ·omega
  ·rw [e2]
   by_cases e3:i+1<L.length
   ·exact h.ahead i e3
   ·exact hlast L[i] (by rw [List.getLast?_eq_getElem?,show L.length-1=i by omega,List.getElem?_eq_getElem hl])
 ·rw [hlen] at hi
  rcases lV L _ (i:=i) (by rw [hlen];omega) with ⟨e,e2⟩ | ⟨hl,e2⟩
  ·omega
  ·rw [e2]
   rcases lV L _ (i:=i+1) (by rw [hlen];omega) with ⟨e3,e4⟩ | ⟨hl3,e4⟩
   ·rw [e4]
    exact hfst L[i] (by rw [List.getLast?_eq_getElem?,show L.length-1=i by omega,List.getElem?_eq_getElem hl])
   ·rw [e4]
    exact h.next i hl3
 ·rcases lV L _ hi with ⟨e,e2⟩ | ⟨hl,e2⟩
  ·rw [e2]
   exact hfN
  ·rw [e2]
   have:=h.bnd i hl
   omega
theorem Shp.take {most:Int} {base N:Nat} {L:List FS} (h:Shp most base L N) (m:Nat):Shp most base (L.take m) N:=by
 have hl:(L.take m).length≤L.length:=by rw [List.length_take];exact Nat.min_le_right _ _
 refine ⟨fun i hi=>?_,fun i hi=>?_,fun i hi=>?_,fun i hi=>?_,fun i hi=>?_,fun i hi=>?_,fun i hi=>?_,by have:=h.n63;omega,h.b64,h.big⟩
 all_goals simp only [List.getElem_take]
 ·exact h.num i (by omega)
 ·exact h.dL i (by omega)
 ·exact h.all i (by omega)
 ·exact h.small i (by omega)
 ·exact h.ahead i (by omega)
 ·exact h.next i (by omega)
 ·exact h.bnd i (by omega)
def iR (d:ak) (base:Nat) (L:List FS):Prop:=∀ i (h:i<L.length),d.F (rg base i)=some ⟨L[i].all,L[i].all.length⟩
structure Lay (d:ak) (most:Int) (base:Nat) (M:List FS) (c s N:Nat):Prop where
 ok:DOk d
 shp:Shp most base M N
 rest:∀ j,(∀ i,i<M.length→j≠rg base i)→d.F j=none
 full:∀ i (h:i+1<M.length),d.F (rg base i)=some ⟨M[i].all,M[i].all.length⟩
 last:∀ m (h:m+1=M.length),∃ ff j,ff≤c∧c≤M[m].all.length∧d.F (rg base m)=some ⟨M[m].all.take c,ff⟩∧j≤M[m].recs.length∧(j=0∨(framed (aG M[m].first)++frames (M[m].recs.take j)).length≤ff)∧s≤(aC (M.take m)).length+j
 s0:M=[]→s=0
def jN (L:List FS) (c:Nat):Prop:=∀ m (h:m+1=L.length),c=L[m].all.length
theorem uU {base i j:Nat} {most:Int} {L:List FS} {N:Nat} (h:Shp most base L N) (hi:i<L.length) (hj:j<L.length) (e:i≠j):rg base i≠rg base j:=fun e2=>e (mq (by have:=h.n63;omega) (by have:=h.n63;omega) e2)
theorem Lay.gY {d:ak} {most:Int} {base c s N:Nat} {L:List FS} (h:Lay d most base L c s N) (hup:d.down=false) (hc:jN L c):aH d most base L N 1048576:=by
 refine ⟨h.ok,hup,h.rest,fun i hi=>?_,h.shp.num,h.shp.dL,h.shp.all,h.shp.small,h.shp.ahead,h.shp.next,h.shp.bnd,h.shp.n63,h.shp.b64,by have:=h.ok.used;have:=h.ok.fM;omega,h.shp.big⟩
 by_cases e:i+1<L.length
 ·exact ⟨_,h.full i e⟩
 ·obtain ⟨ff,j,h1,h2,h3,-⟩:=h.last i (by omega)
  rw [hc i (by omega),List.take_length] at h3
  exact ⟨ff,h3⟩
theorem Lay.less {d:ak} {most:Int} {base c s s' N:Nat} {L:List FS} (h:Lay d most base L c s N) (hs:s'≤s):Lay d most base L c s' N :=
 ⟨h.ok,h.shp,h.rest,h.full,fun m hm=>by
  obtain ⟨ff,j,h1,h2,h3,h4,h5,h6⟩:=h.last m hm
  exact ⟨ff,j,h1,h2,h3,h4,h5,by omega⟩,fun e=>by have:=h.s0 e;omega⟩
theorem sj {L:List FS} {m:Nat} (hm:m+1=L.length):aC L=aC (L.take m)++(L[m]'(by omega)).recs:=by
 have h1:=su (L:=L) (k:=m) (by omega)
 rw [hm,List.take_length] at h1
 exact h1
theorem Lay.adG {d:ak} {most:Int} {base c s N:Nat} {L:List FS} (h:Lay d most base L c s N):s≤(aC L).length:=by
 rcases hl:L.length with _ | m
 ·have:=h.s0 (List.eq_nil_of_length_eq_zero hl);omega
 ·obtain ⟨ff,j,h1,h2,h3,h4,h5,h6⟩:=h.last m hl.symm
  rw [sj hl.symm,List.length_append]
  omega
theorem Lay.rV {d : ak} {most : Int} {base N U:Nat} {L:List FS} (h:aH d most base L N U) (k:iR d base L):∃ c,jN L c∧Lay d most base L c (aC L).length N:=by
 rcases hl:L.length with _ | m
 ·have e:=List.eq_nil_of_length_eq_zero hl
  exact ⟨0,fun m hm=>by omega,h.ok,h.shp,h.rest,fun i hi=>by omega,fun m hm=>by omega,fun _=>by rw [e];rfl⟩
 ·have hm:m<L.length:=by omega
  refine ⟨L[m].all.length, fun i hi => by obtain rfl:i=m:=by omega
                                          rfl,h.ok,h.shp,h.rest,fun i hi=>k i (by omega),fun i hi=>?_,fun e=>by rw [e] at hl;cases hl⟩
  obtain rfl:i=m:=by omega
  refine ⟨L[i].all.length,L[i].recs.length,Nat.le_refl _,Nat.le_refl _,by rw [List.take_length];exact k i hm,Nat.le_refl _,.inr (by rw [List.take_length,← h.all i hm];exact Nat.le_refl _),by rw [sj hl.symm,List.length_append];exact Nat.le_refl _⟩
theorem Lay.alq {d:ak} {most:Int} {base c s N:Nat} {L:List FS} (h:Lay d most base L c s N) (hup:d.down=false) (hc:jN L c) {m:Nat} (hm:m+1=L.length):aH (eF d ((L[m]'(by omega)).num:Nat)) most base L N 1048576∧iR (eF d ((L[m]'(by omega)).num:Nat)) base L∧(eF d ((L[m]'(by omega)).num:Nat)).room=d.room:=by
 have hl:=h.gY hup hc
 have hml:m<L.length:=by omega
 obtain ⟨s1,s2,s3⟩:=hl.sync hml
 obtain ⟨ff,hff⟩:=hl.has m hml
 refine ⟨s1,fun i hi=>?_,s3⟩
 rw [hl.num m hml,zL hup hff]
 show aW _ _ _ (rg base i)=_
 by_cases e:i=m
 ·subst e;exact eX _ _ _
 ·rw [cZ _ _ (uU hl.shp hi hml e)]
  exact h.full i (by omega)
theorem alv {α:Type} (L:List α) (m:Nat) (x:α):(L.set m x).take m=L.take m:=by
 refine List.ext_getElem (by simp) (fun i h1 h2=>?_)
 rw [List.length_take] at h1
 rw [List.getElem_take,List.getElem_take,List.getElem_set_ne (by omega)]
theorem ak1 {α:Type} {L:List α} {i:Nat} (h:i<L.length) (x:α):L.set i x≠[]:=by
 intro e
 have h9:(L.set i x).length=0:=by rw [e];rfl
 rw [List.length_set] at h9
 omega
theorem Lay.put {d:ak} {most:Int} {base c s N:Nat} {L:List FS} (h:Lay d most base L c s N) (hc:jN L c) {m:Nat} (hm:m+1=L.length) (r:List UInt8) (hr:r.length≤8192) (hN:N<1000000) {t:Nat} (ht:t≤(framed r).length) {a dn:Bool} {l:Nat} (hok:DOk ⟨d.room,cO d.F (rg base m) ((framed r).take t),a,l,dn⟩) :
  Lay ⟨d.room,cO d.F (rg base m) ((framed r).take t),a,l,dn⟩ most base (L.set m (fK (L[m]'(by omega)) (framed r) r)) (c+t) s (N+1):=by
 have hml:m<L.length:=by omega
 have hlen:(L.set m (fK (L[m]) (framed r) r)).length=L.length:=List.length_set
 have hcm:=hc m hm
 obtain ⟨ff,j,h1,h2,h3,h4,h5,h6⟩:=h.last m hm
 refine ⟨hok,h.shp.put hm r hr hN,fun i hi=>?_,fun i hi=>?_,fun i hi=>?_,fun e=>?_⟩
 ·rw [hlen] at hi
  show aW _ _ _ i=none
  rw [cZ _ _ (hi m hml)]
  exact h.rest i hi
 ·rw [hlen] at hi
  show aW _ _ _ (rg base i)=_
  rw [cZ _ _ (uU h.shp (by omega) hml (by omega))]
  simp only [List.getElem_set_ne (show m≠i by omega)]
  exact h.full i hi
 ·rw [hlen] at hi
  obtain rfl:i=m:=by omega
  simp only [List.getElem_set_self]
  refine ⟨ff,j,by omega,?_,?_,?_,?_,?_⟩
  ·show c+t≤(L[i].all++framed r).length
   rw [List.length_append];omega
  ·show aW _ _ _ (rg base i)=some ⟨(L[i].all++framed r).take (c+t),ff⟩
   rw [eX,gG h3,hcm,List.take_length,List.take_length_add_append]
  ·show j≤(L[i].recs++[r]).length
   rw [List.length_append];omega
  ·show j=0∨(framed (aG L[i].first)++frames ((L[i].recs++[r]).take j)).length≤ff
   rw [List.take_append_of_le_length h4]
   exact h5
  ·rw [alv];exact h6
 ·have h9:(L.set m (fK (L[m]) (framed r) r)).length=0:=by rw [e];rfl
  rw [hlen] at h9
  omega
theorem Lay.begin_ {d:ak} {most:Int} {base N U s:Nat} {L:List FS} (h:aH d most base L N U) (k:iR d base L) (hs:s≤(aC L).length) (h62:L.length≤62) (first:Nat) (hfst:∀ f,L.getLast? = some f→first=aO f) (hfN:first≤N) (hlast:∀ f,L.getLast? = some f→most≤(f.all.length:Int)) (r:List UInt8) (hr:r.length≤8192) (hN:N<1000000) {t:Nat} (ht:t≤(framed (aG first)++framed r).length) {a dn:Bool} {l:Nat}
  (hok:DOk ⟨d.room,cO d.F (rg base L.length) ((framed (aG first)++framed r).take t),a,l,dn⟩) :
  Lay ⟨d.room,cO d.F (rg base L.length) ((framed (aG first)++framed r).take t),a,l,dn⟩ most base (L++[⟨rg base L.length,first,[r],framed (aG first)++framed r,0⟩]) t s (N+1):=by
 have hfr:framed (aG first)++framed r=framed (aG first)++frames [r]:=by simp [frames]
 have hno:d.F (rg base L.length)=none:=h.rest _ (fun i hi e2=>by have:=mq (by omega) (by omega) e2;omega)
 have hsh:=h.shp.snoc (N':=N+1) h62 first hfst hlast [r] (fun x hx=>by rw [List.mem_singleton.1 hx];exact hr) (by simp;omega) (by omega) (by omega)
 rw [← hfr] at hsh
 have hlen:(L++[(⟨rg base L.length,first,[r],framed (aG first)++framed r,0⟩:FS)]).length=L.length+1:=by simp
 refine ⟨hok,hsh,fun i hi=>?_,fun i hi=>?_,fun i hi=>?_,fun e=>by simp at e⟩
 ·rw [hlen] at hi
  show aW _ _ _ i=none
  rw [cZ _ _ (hi L.length (by omega))]
  exact h.rest i (fun i2 h2=>hi i2 (by omega))
 ·rw [hlen] at hi
  show aW _ _ _ (rg base i)=_
  rw [cZ _ _ (fun e3=>by have:=mq (by omega) (by omega) e3;omega)]
  rcases lV L _ (i:=i) (by rw [hlen];omega) with ⟨e,e2⟩ | ⟨hl,e2⟩
  ·omega
  ·rw [e2];exact k i hl
 ·rw [hlen] at hi
  obtain rfl:i=L.length:=by omega
  simp only [List.getElem_append_right (Nat.le_refl _),Nat.sub_self,List.getElem_cons_zero]
  refine ⟨0,0,Nat.zero_le _,ht,?_,Nat.zero_le _,.inl rfl,?_⟩
  ·show aW _ _ _ (rg base L.length)=_
   have:fileAt d.F (rg base L.length)=⟨[],0⟩:=by unfold fileAt;rw [hno]
   rw [eX,this,List.nil_append]
  ·rw [List.take_left' rfl];omega
theorem aaT {d:ak} (hup:d.down=false) {j:Nat} (hj:j<64) (b:List UInt8) :
  (bU d (j:Nat) b.length=9∧bX d (j:Nat) b=d)∨(∃ a l,bU d (j:Nat) b.length=0∧bX d (j:Nat) b=⟨d.room,cO d.F j b,a,l,false⟩)∨∃ t a l,t≤b.length∧bU d (j:Nat) b.length=10∧bX d (j:Nat) b=⟨d.room,cO d.F j (b.take t),a,l,true⟩:=by
 unfold bU bX
 rw [hup]
 have hc:¬ (((j:Nat):Int)<0∨(64:Int)≤((j:Nat):Int)):=by omega
 simp only [Bool.false_eq_true,if_false,if_neg hc]
 by_cases h:d.room<bR d.F+b.length
 ·rw [if_pos h,if_pos h]
  exact .inl ⟨rfl,rfl⟩
 ·right
  rw [if_neg h,if_neg h]
  have ht:=ad2 d b.length
  by_cases h2:takeN d b.length<b.length
  ·right
   rw [if_pos h2]
   refine ⟨takeN d b.length,d.armed,iN d b.length,ht,rfl,?_⟩
   unfold nJ
   rw [if_pos h2,show ((j:Nat):Int).toNat=j by omega]
  ·left
   rw [if_neg h2]
   refine ⟨d.armed,iN d b.length,rfl,?_⟩
   unfold nJ
   rw [if_neg h2,hup,show ((j:Nat):Int).toNat=j by omega,List.take_of_length_le (by omega)]
inductive qB (d:ak) (most:Int) (base:Nat) (L:List FS) (s N:Nat) (r:List UInt8):Int→ak→List FS→Prop
 | full {d':ak} {c:Nat} : d'.down=false→d'.room=d.room→jN L c→Lay d' most base L c s N→qB d most base L s N r 9 d' L
 | came {d':ak} {c:Nat} {L':List FS} : d'.down=false→d'.room=d.room→jN L' c→Lay d' most base L' c s (N+1)→aC L'=aC L++[r]→L'≠[]→qB d most base L s N r 0 d' L'
 | fell {d':ak} {c:Nat} {M:List FS} : d'.down=true→d'.room=d.room→Lay d' most base M c s (N+1)→aC M=aC L++[r]→(aS L=0→aS M=0)→(L≠[]→aS M=aS L)→qB d most base L s N r 10 d' L
theorem qZ (L:List FS) (f:FS):(L≠[]→aS (L++[f])=aS L)∧(L=[]→aS (L++[f])=f.first):=by
 rcases L with _ | ⟨f0,L⟩
 ·exact ⟨fun h=>absurd rfl h,fun _=>rfl⟩
 ·exact ⟨fun _=>rfl,fun h=>by cases h⟩
theorem adT {d d0:ak} {most:Int} {base N U s:Nat} {L:List FS} (h:aH d most base L N U) (k:iR d base L) (hs:s≤(aC L).length) (h62:L.length≤62) (first:Nat) (hf0:L=[]→first=0) (hfst:∀ f,L.getLast? = some f→first=aO f) (hfN:first≤N) (hlast:∀ f,L.getLast? = some f→most≤(f.all.length:Int)) (r:List UInt8) (hr:r.length≤8192) (hN:N<1000000) (hroom:d.room=d0.room) :
  qB d0 most base L s N r (dK d L (rg base L.length) first r).1 (dK d L (rg base L.length) first r).2.1 (dK d L (rg base L.length) first r).2.2:=by
 obtain ⟨c0,hc0,hl0⟩:=Lay.rV h k
 have hok:=wB h.ok (rg base L.length:Nat) (framed (aG first)++framed r)
 unfold dK
 simp only
 rcases aaT h.up (iF base L.length) (framed (aG first)++framed r) with ⟨e1,e2⟩ | ⟨a,l,e1,e2⟩ | ⟨t,a,l,ht,e1,e2⟩
 ·rw [e1,e2,if_neg (by decide)]
  exact .full h.up hroom hc0 (hl0.less hs)
 ·rw [e2] at hok
  rw [e1,e2,if_pos rfl]
  have h1:=Lay.begin_ h k hs h62 first hfst hfN hlast r hr hN (t:=(framed (aG first)++framed r).length) (Nat.le_refl _) (a:=a) (l:=l) (dn:=false) (by rw [List.take_length];exact hok)
  rw [List.take_length] at h1
  refine .came rfl hroom (fun m hm=>?_) h1 (by rw [qb]) (by simp)
  rw [List.length_append,List.length_singleton] at hm
  obtain rfl:m=L.length:=by omega
  simp
 ·rw [e2] at hok
  rw [e1,e2,if_neg (by decide)]
  have h1:=Lay.begin_ h k hs h62 first hfst hfN hlast r hr hN ht (a:=a) (l:=l) (dn:=true) hok
  refine .fell rfl hroom h1 (by rw [qb]) (fun hz=>?_) (qZ L _).1
  by_cases e:L=[]
  ·rw [(qZ L _).2 e];exact hf0 e
  ·rw [(qZ L _).1 e];exact hz
theorem Lay.append {d:ak} {most:Int} {base c s N:Nat} {L:List FS} (h:Lay d most base L c s N) (hup:d.down=false) (hc:jN L c) (h0:L=[]→base=0) (r:List UInt8) (hr:r.length≤8192) (hN:N<1000000) :
  qB d most base L s N r (aL d most L r).1 (aL d most L r).2.1 (aL d most L r).2.2:=by
 have hlg:=h.gY hup hc
 rcases hl:L.getLast? with _ | f
 ·have hnil:L=[]:=List.getLast?_eq_none_iff.1 hl
  have e:aL d most L r=dK d L (rg base L.length) 0 r:=by
   unfold aL cB
   rw [hl]
   simp only
   rw [h0 hnil,hnil]
   rfl
  rw [e]
  exact adT hlg (fun i hi=>by rw [hnil] at hi;exact absurd hi (Nat.not_lt_zero i)) h.adG (by rw [hnil];simp) 0 (fun _=>rfl) (by rw [hl];simp) (Nat.zero_le _) (by rw [hl];simp) r hr hN rfl
 ·have hl2:=hl
  rw [List.getLast?_eq_getElem?] at hl2
  obtain ⟨hlt,hfe⟩:=List.getElem?_eq_some_iff.1 hl2
  have hm1:L.length-1+1=L.length:=by omega
  by_cases hm:most≤(f.all.length:Int)
  ·by_cases h63:63≤L.length
   ·have e:aL d most L r=(9,d,L):=by
     unfold aL
     rw [hl]
     simp only
     rw [if_pos hm]
     unfold cB
     rw [if_pos h63]
    rw [e]
    exact .full hup rfl hc h
   ·obtain ⟨hs,hsa,hsr⟩:=h.alq hup hc hm1
    rw [hfe] at hs hsa hsr
    obtain ⟨ff,hff⟩:=hlg.has _ hlt
    rw [← hlg.num _ hlt,hfe] at hff
    have hnum:(f.num+1) % 64=rg base L.length:=by
     have h1:=hlg.num _ hlt
     rw [hfe] at h1
     rw [h1,zq]
     congr 1
    have e:aL d most L r=dK (eF d (f.num:Nat)) L (rg base L.length) (aO f) r:=by
     unfold aL
     rw [hl]
     simp only
     rw [if_pos hm]
     unfold cB
     rw [if_neg h63,hl]
     simp only
     rw [if_pos (nK hup hff),hnum]
    rw [e]
    have hb:=hlg.bnd _ hlt
    rw [hfe] at hb
    exact adT hs hsa h.adG (by omega) (aO f) (fun e=>by rw [e] at hl;cases hl) (by rw [hl];intro x hx;cases hx;rfl) hb (by rw [hl];intro x hx;cases hx;exact hm) r hr hN hsr
  ·have hnum:=hlg.num _ hlt
   rw [hfe] at hnum
   have e:aL d most L r=(bU d (f.num:Nat) (framed r).length,bX d (f.num:Nat) (framed r),if bU d (f.num:Nat) (framed r).length=0 then L.set (L.length-1) (fK f (framed r) r) else L):=by
    unfold aL
    rw [hl]
    simp only
    rw [if_neg hm]
   rw [e,hnum]
   have hok:=wB h.ok (rg base (L.length-1):Nat) (framed r)
   simp only
   rcases aaT hup (iF base (L.length-1)) (framed r) with ⟨e1,e2⟩ | ⟨a,l,e1,e2⟩ | ⟨t,a,l,ht,e1,e2⟩
   ·rw [e1,e2,if_neg (by decide)]
    exact .full hup rfl hc h
   ·rw [e2] at hok
    rw [e1,e2,if_pos rfl]
    have h1:=h.put hc hm1 r hr hN (t:=(framed r).length) (Nat.le_refl _) (a:=a) (l:=l) (dn:=false) (by rw [List.take_length];exact hok)
    rw [List.take_length,hfe] at h1
    refine .came rfl rfl (fun m hm=>?_) h1 (zk hm1 _ r (by rw [hfe];rfl)) (ak1 hlt _)
    rw [List.length_set] at hm
    obtain rfl:m=L.length-1:=by omega
    simp only [List.getElem_set_self]
    rw [hc _ hm1,hfe]
    show _=(f.all++framed r).length
    rw [List.length_append]
   ·rw [e2] at hok
    rw [e1,e2,if_neg (by decide)]
    have h1:=h.put hc hm1 r hr hN ht (a:=a) (l:=l) (dn:=true) hok
    rw [hfe] at h1
    have hfirst:aS (L.set (L.length-1) (fK f (framed r) r))=aS L:=by
     rcases L with _ | ⟨f0,L⟩
     ·cases hl
     ·rcases L with _ | ⟨f1,L⟩
      ·have e:f0=f:=by simpa using hl
       subst e
       rfl
      ·rfl
    exact .fell rfl rfl h1 (zk hm1 _ r (by rw [hfe];rfl)) (fun hz=>by rw [hfirst];exact hz) (fun _=>hfirst)
end Wl
end Go.Proofs.YtpcmlopbkehffaaGreat
namespace Go.Proofs.YtpcmlopbkehffaaGreat
open Go.RowKit Fm Dsk
namespace Wl
theorem pK (d:List UInt8) (ds:List (List UInt8)):(frames (d::ds)).length=(framed d).length+(frames ds).length:=by rw [lU,List.length_append]
theorem tQ:∀ (ds:List (List UInt8)) (k:Nat),(∀ d∈ds,d.length≤8192)→k≤(frames ds).length →
  ∃ j,j≤ds.length∧(bD ((frames ds).take k)).1=ds.take j∧(bD ((frames ds).take k)).2.1=(frames (ds.take j)).length∧(frames ds).take (frames (ds.take j)).length=frames (ds.take j)∧(frames (ds.take j)).length≤k∧(k=(frames ds).length→j=ds.length)
 | [],k,_,hk=>by
   have h0:k=0:=by simpa [frames] using hk
   subst h0
   exact ⟨0,Nat.le_refl _,by simp [frames,bD,fI],by simp [frames,bD,fI],by simp [frames],by simp [frames],fun _=>rfl⟩
 | d :: t,k,h,hk=>by
   have hd:d.length≤8192:=h d (by simp)
   rw [pK] at hk
   by_cases hlt:k<(framed d).length
   ·have e:(frames (d::t)).take k=(framed d).take k:=by
     rw [lU,List.take_append_of_le_length (by omega)]
    refine ⟨0,Nat.zero_le _,?_,?_,by simp [frames],by simp [frames],fun h2=>by rw [pK] at h2;omega⟩
    ·rw [e]
     rcases Nat.eq_zero_or_pos k with h0 | h0
     ·subst h0;simp [bD,fI]
     ·have:=aaN [] d (by simp) hd k h0 hlt
      simp only [abQ,List.nil_append] at this
      rw [this]
      rfl
    ·rw [e]
     rcases Nat.eq_zero_or_pos k with h0 | h0
     ·subst h0;simp [bD,fI,frames]
     ·have:=aaN [] d (by simp) hd k h0 hlt
      simp only [abQ,List.nil_append] at this
      rw [this]
      rfl
   ·have e:(frames (d::t)).take k=frames [d]++(frames t).take (k-(framed d).length):=by
     rw [lU,List.take_append,List.take_of_length_le (by omega)]
     simp [frames]
    obtain ⟨j,h1,h2,h3,h4,h5,h6⟩:=tQ t (k-(framed d).length) (fun x hx=>h x (by simp [hx])) (by omega)
    have ha:=qJ [d] ((frames t).take (k-(framed d).length)) (by simpa using hd)
    have hl1:(frames [d]).length=(framed d).length:=by simp [frames]
    refine ⟨j+1,by simpa using h1,?_,?_,?_,?_,fun h7=>?_⟩
    ·rw [e,ha,h2];simp
    ·rw [e,ha]
     show (frames [d]).length+(bD ((frames t).take (k-(framed d).length))).2.1=_
     rw [hl1,h3,List.take_succ_cons,pK]
    ·rw [List.take_succ_cons,pK,lU,lU,List.take_append,List.take_of_length_le (by omega),show (framed d).length+(frames (t.take j)).length-(framed d).length=(frames (t.take j)).length by omega,h4]
    ·rw [List.take_succ_cons,pK];omega
    ·rw [pK] at h7
     rw [h6 (by omega)]
     rfl
theorem aeB {ds:List (List UInt8)} {k j:Nat} (h:∀ d∈ds,d.length≤8192) (hle:(frames (ds.take j)).length≤k) (hj:j≤ds.length):j≤(bD ((frames ds).take k)).1.length:=by
 have e:(frames ds).take k=frames (ds.take j)++(frames (ds.drop j)).take (k-(frames (ds.take j)).length):=by
  conv=>lhs;rw [← List.take_append_drop j ds,abP]
  rw [List.take_append,List.take_of_length_le hle]
 rw [e,qJ _ _ (fun d hd=>h d (List.mem_of_mem_take hd))]
 simp only [List.length_append,List.length_take]
 omega
theorem ag2 {f:FS} {k:Nat} (hk:k≤f.all.length) (hall:f.all=framed (aG f.first)++frames f.recs) (hsm:∀ r∈f.recs,r.length≤8192) (hbn:aO f≤1000000) :
  oh (f.all.take k)∧((bF f.num (f.all.take k)=⟨f.num,0,[],[],k⟩∧k<(framed (aG f.first)).length) ∨
   ∃ j,j≤f.recs.length∧bF f.num (f.all.take k)=⟨f.num,f.first,f.recs.take j,framed (aG f.first)++frames (f.recs.take j),k-(framed (aG f.first)++frames (f.recs.take j)).length⟩∧(framed (aG f.first)++frames (f.recs.take j)).length≤k∧f.all.take (framed (aG f.first)++frames (f.recs.take j)).length=framed (aG f.first)++frames (f.recs.take j)∧∀ j0,j0≤f.recs.length→(framed (aG f.first)++frames (f.recs.take j0)).length≤k→j0≤j):=by
 rw [← lU] at hall
 have hsmall:∀ x∈aG f.first::f.recs,x.length≤8192:=by
  intro x hx
  rcases List.mem_cons.1 hx with e | hx
  ·rw [e,jR];omega
  ·exact hsm x hx
 have hfi:f.first<18446744073709551616:=by unfold aO at hbn;omega
 have hkl:(f.all.take k).length=k:=by rw [List.length_take];omega
 obtain ⟨j,j1,j2,j3,j4,j5,j6⟩:=tQ (aG f.first::f.recs) k hsmall (by rw [← hall];exact hk)
 have hge:∀ j0,j0≤f.recs.length→(framed (aG f.first)++frames (f.recs.take j0)).length≤k→j0+1≤j:=by
  intro j0 h0 h1
  have h2:=aeB (ds:=aG f.first::f.recs) (k:=k) (j:=j0+1) hsmall (by rw [List.take_succ_cons,lU];exact h1) (by simpa using h0)
  rw [j2,List.length_take] at h2
  omega
 rw [← hall] at j2 j3 j4
 have hwh:bS (f.all.take k)=(frames ((aG f.first::f.recs).take j)).length:=j3
 have htk:(f.all.take k).take (bS (f.all.take k))=frames ((aG f.first::f.recs).take j):=by
  rw [hwh,List.take_take,Nat.min_eq_left j5,j4]
 refine ⟨fun x t hx=>?_,?_⟩
 ·rw [j2] at hx
  rcases j with _ | j
  ·simp at hx
  ·rw [List.take_succ_cons] at hx
   simp only [List.cons.injEq] at hx
   obtain ⟨rfl,-⟩:=hx
   refine ⟨jR _,?_⟩
   rw [mW hfi]
   unfold aO at hbn
   omega
 ·rcases j with _ | j
  ·left
   constructor
   ·unfold bF
    rw [j2,htk,hwh,hkl]
    simp [frames]
   ·rcases Nat.lt_or_ge k (framed (aG f.first)).length with h1 | h1
    ·exact h1
    ·have:=hge 0 (Nat.zero_le _) (by simpa [frames] using h1)
     omega
  ·right
   have hds:(aG f.first::f.recs).take (j+1)=aG f.first::f.recs.take j:=List.take_succ_cons
   rw [hds] at j4 j5 htk hwh j2
   rw [lU] at j4 j5 htk hwh
   refine ⟨j,by simpa using j1,?_,j5,j4,fun j0 h0 h1=>by have:=hge j0 h0 h1;omega⟩
   unfold bF
   rw [j2,htk,hwh,hkl]
   simp only [mW hfi]
theorem Lay.crash {d:ak} {most:Int} {base c s N:Nat} {M:List FS} (h:Lay d most base M c s N) (keep:List Int) :
  ∃ c',Lay (iL d keep) most base M c' s N∧∀ m (hm:m+1=M.length),(iL d keep).F (rg base m)=some ⟨(M[m]'(by omega)).all.take c',c'⟩:=by
 rcases Nat.eq_zero_or_pos M.length with hl | hl0
 ·refine ⟨c,⟨wQ h.ok keep,h.shp,fun j hj=>abg (h.rest j hj),fun i hi=>by omega,fun m hm=>by omega,h.s0⟩,fun m hm=>by omega⟩
 ·obtain ⟨n,hl⟩:∃ n,M.length=n+1:=⟨M.length-1,by omega⟩
  obtain ⟨ff,j,h1,h2,h3,h4,h5,h6⟩:=h.last n hl.symm
  have hk:=uE keep (rank d.F (rg base n)) ((M[n].all.take c).length-ff)
  have hcl:(M[n].all.take c).length=c:=by rw [List.length_take];omega
  rw [hcl] at hk
  have hF:(iL d keep).F (rg base n)=some ⟨M[n].all.take (ff+jm keep (rank d.F (rg base n)) (c-ff)),ff+jm keep (rank d.F (rg base n)) (c-ff)⟩:=by
   show mQ d.F keep (rg base n)=_
   rw [abf (iF _ _) h3]
   unfold crashed
   simp only [hcl]
   rw [List.take_take,Nat.min_eq_left (by omega)]
  refine ⟨ff+jm keep (rank d.F (rg base n)) (c-ff),⟨wQ h.ok keep,h.shp,fun j hj=>abg (h.rest j hj),fun i hi=>?_,fun m hm=>?_,fun e=>by rw [e] at hl;cases hl⟩,fun m hm=>?_⟩
  ·show mQ d.F keep (rg base i)=_
   rw [abf (iF _ _) (h.full i hi)]
   have hk0:=uE keep (rank d.F (rg base i)) 0
   unfold crashed
   simp only [Nat.sub_self]
   rw [show jm keep (rank d.F (rg base i)) 0=0 by omega,Nat.add_zero,List.take_length]
  ·obtain rfl:m=n:=by omega
   refine ⟨_,j,Nat.le_refl _,by omega,hF,h4,?_,h6⟩
   rcases h5 with h5 | h5
   ·exact .inl h5
   ·right;omega
  ·obtain rfl:m=n:=by omega
   exact hF
def dP (M:List FS) (c:Nat) (i:Nat):List UInt8:=if i+1=M.length then (jl M i).take c else jl M i
structure aek (d:ak) (most:Int) (M:List FS) (s N:Nat) (d':ak) (L':List FS):Prop where
 out:∃ base,aH d' most base L' N 1048576∧(L'=[]→base=0)∧iR d' base L'
 recs:∃ t,aC L'=(aC M).take t∧s≤t∧t≤(aC M).length
 room:d'.room=d.room
 arm:d'.armed=d.armed
 first:aS M=0→aS L'=0
theorem abK (M:List FS) {m:Nat} (h:M.take m≠[]):aS (M.take m)=aS M:=by
 rcases M with _ | ⟨f,M⟩
 ·simp at h
 ·rcases m with _ | m
  ·simp at h
  ·rfl
theorem aju (M:List FS) (m:Nat):aC (M.take m)=(aC M).take (aC (M.take m)).length:=by
 have e:aC M=aC (M.take m)++aC (M.drop m):=by
  unfold aC
  rw [← List.flatten_append,← List.map_append,List.take_append_drop]
 rw [e,List.take_left' rfl]
theorem Lay.open_ {d:ak} {most:Int} {base c s N:Nat} {M:List FS} (h:Lay d most base M c s N) (hup:d.down=false) (hf:∀ m (hm:m+1=M.length),d.F (rg base m)=some ⟨(M[m]'(by omega)).all.take c,c⟩) (h64:64≤most) (h0:M=[]→base=0) :
  lI d base M.length (dP M c)∧aek d most M s N (gZ d base M.length (dP M c)) (jX base M.length (dP M c)):=by
 rcases hl:M.length with _ | m
 ·have e:=List.eq_nil_of_length_eq_zero hl
  have hlg:=h.gY hup (fun m hm=>by omega)
  have hd:=hlg.disk h64
  rw [hl] at hd
  refine ⟨⟨hd.files,hd.up,fun i hi=>absurd hi (Nat.not_lt_zero i),fun i hi=>absurd hi (Nat.not_lt_zero i),fun i hi=>absurd hi (Nat.not_lt_zero i),fun i hi=>absurd hi (Nat.not_lt_zero _),fun i hi=>absurd hi (Nat.not_lt_zero _),fun i hi=>absurd hi (Nat.not_lt_zero i),hd.n63,hd.b64⟩,⟨⟨base,by rw [e] at hlg;exact hlg,fun _=>h0 e,fun i hi=>absurd hi (Nat.not_lt_zero i)⟩,⟨0,by rw [e];rfl,by have:=h.s0 e;omega,Nat.zero_le _⟩,rfl,rfl,fun _=>rfl⟩⟩
 ·have hm:m<M.length:=by omega
  obtain ⟨ff,j,h1,h2,h3,h4,h5,h6⟩:=h.last m hl.symm
  have hfm:=hf m hl.symm
  rw [hfm] at h3
  injection h3 with h3
  injection h3 with _ h3
  subst h3
  have hall:=h.shp.all m hm
  have hsm:=h.shp.small m hm
  have hnum:=h.shp.num m hm
  have hbn:=Nat.le_trans (h.shp.bnd m hm) h.shp.big
  have hcm:dP M c m=M[m].all.take c:=by unfold dP;rw [if_pos hl.symm,qI hm]
  have hca:∀ i (hi:i<m),dP M c i=M[i].all:=fun i hi=>by unfold dP;rw [if_neg (by omega),qI (by omega)]
  have hlda:∀ i (hi:i<m),bF (rg base i) (dP M c i)=M[i]∧oh (dP M c i):=fun i hi=>by
   have h9:=acj (h.shp.dL i (by omega)) (h.shp.all i (by omega)) (h.shp.small i (by omega)) (Nat.le_trans (h.shp.bnd i (by omega)) h.shp.big)
   rw [h.shp.num i (by omega)] at h9
   rw [hca i hi]
   exact h9
  obtain ⟨hho,hld⟩:=ag2 h2 hall hsm hbn
  rw [hnum,← hcm] at hld
  rw [← hcm] at hho
  have hhas:∀ i,i<m+1→∃ ff,d.F (rg base i)=some ⟨dP M c i,ff⟩:=fun i hi=>by
   by_cases e:i=m
   ·subst e;exact ⟨c,by rw [hcm];exact hfm⟩
   ·exact ⟨_,by rw [hca i (by omega)];exact h.full i (by omega)⟩
  have hlen:∀ i,i<m+1→(dP M c i).length≤1048576:=fun i hi=>by
   obtain ⟨ff,h9⟩:=hhas i hi
   have h8:=qo d.F (j:=rg base i) (iF _ _)
   have h7:bV d.F (rg base i)=(dP M c i).length:=by unfold bV;rw [h9]
   have:=h.ok.used
   have:=h.ok.fM
   omega
  have hnx:∀ g:FS,g.num=rg base m∧((g=⟨rg base m,0,[],[],c⟩)∨∃ j,j≤M[m].recs.length∧g.first=M[m].first∧g.recs=M[m].recs.take j)→aO g≤1000000∧g.recs.length≤1000000:=fun g hg=>by
   rcases hg.2 with e | ⟨j,hj,e1,e2⟩
   ·rw [e];unfold aO;simp
   ·unfold aO at hbn ⊢
    rw [e1,e2,List.length_take]
    omega
  have hnxm:aO (bF (rg base m) (dP M c m))≤1000000∧(bF (rg base m) (dP M c m)).recs.length≤1000000:=hnx _ ⟨rP _ _,by
   rcases hld with ⟨e,-⟩ | ⟨j,hj,e,-⟩
   ·exact .inl e
   ·right;exact ⟨j,hj,by rw [e],by rw [e]⟩⟩
  have hdisk:lI d base (m+1) (dP M c):=by
   refine ⟨abD h.shp.b64 (by have:=h.shp.n63;omega) (fun i hi=>by obtain ⟨ff,e⟩:=hhas i hi;rw [e];rfl) (fun i hi=>h.rest i (fun i2 h2=>hi i2 (by omega))),hup,hhas,hlen,fun i hi=>?_,fun i hi=>?_,fun i hi=>?_,fun i hi=>?_,by have:=h.shp.n63;omega,h.shp.b64⟩
   ·by_cases e:i=m
    ·subst e;exact hho
    ·exact (hlda i (by omega)).2
   ·rw [(hlda i (by omega)).1]
    have:=h.shp.ahead i (by omega)
    exact ⟨h.shp.dL i (by omega),by omega⟩
   ·rw [(hlda i (by omega)).1]
    by_cases e:i+1=m
    ·subst e
     rcases hld with ⟨e,-⟩ | ⟨j,hj,e,-⟩
     ·left;rw [e]
     ·right;rw [e];exact h.shp.next i (by omega)
    ·rw [(hlda (i+1) (by omega)).1]
     exact .inr (h.shp.next i (by omega))
   ·by_cases e:i=m
    ·subst e
     exact ⟨by omega,by omega⟩
    ·rw [(hlda i (by omega)).1]
     have h8:=h.shp.bnd i (by omega)
     have h7:=h.shp.big
     have h6:M[i].recs.length≤aO M[i]:=by unfold aO;omega
     exact ⟨by omega,by omega⟩
  refine ⟨hdisk,?_⟩
  have hlL:∀ i (h1:i<(dZ base (m+1) (dP M c) (m+1)).length),(dZ base (m+1) (dP M c) (m+1))[i]=bF (rg base i) (dP M c i):=fun i h1=>by
   rw [nS,if_pos (by rw [jo] at h1;exact h1)]
  have hask:bE d (rg base m:Nat)=0:=nK hup hfm
  have htm:(M.take m).length=m:=by rw [List.length_take];omega
  rcases hld with ⟨hld,hlt⟩ | ⟨j',hj',hld,hle,htk,hmax⟩
  · -- no whole frame
   have hL:jX base (m+1) (dP M c)=M.take m:=by
    show (if (bF (rg base m) (dP M c m)).all=[] then (dZ base (m+1) (dP M c) (m+1)).take m else _)=_
    rw [hld,if_pos rfl]
    refine List.ext_getElem (by rw [List.length_take,List.length_take,jo];omega) (fun i a b=>?_)
    rw [htm] at b
    rw [List.getElem_take,List.getElem_take,hlL i (by rw [jo];omega),(hlda i b).1]
   have hD:gZ d base (m+1) (dP M c)=dM d (aW d.F (rg base m) none):=by
    show gH d (bF (rg base m) (dP M c m))=_
    rw [hld]
    unfold gH
    rw [if_pos rfl]
    unfold fG
    rw [if_pos hask]
    rfl
   have hok:=uT h.ok (rg base m:Nat)
   unfold fG at hok
   rw [if_pos hask,show ((rg base m:Nat):Int).toNat=rg base m by omega] at hok
   rw [hL,hD]
   have hfull:∀ i (hi:i<(M.take m).length),(dM d (aW d.F (rg base m) none)).F (rg base i)=some ⟨(M.take m)[i].all,(M.take m)[i].all.length⟩:=fun i hi=>by
    rw [htm] at hi
    show aW d.F (rg base m) none (rg base i)=_
    rw [cZ _ _ (uU h.shp (by omega) hm (by omega)),List.getElem_take]
    exact h.full i (by omega)
   have hsp:=h.shp.take m
   have hlog:aH (dM d (aW d.F (rg base m) none)) most base (M.take m) N 1048576:=by
    refine ⟨hok,hup,fun i hi=>?_,fun i hi=>⟨_,hfull i hi⟩,hsp.num,hsp.dL,hsp.all,hsp.small,hsp.ahead,hsp.next,hsp.bnd,hsp.n63,hsp.b64,by have:=hok.used;have:=hok.fM;omega,hsp.big⟩
    show aW d.F (rg base m) none i=none
    by_cases e:i=rg base m
    ·rw [e];exact eX _ _ _
    ·rw [cZ _ _ e]
     refine h.rest i (fun i2 h2=>?_)
     by_cases e2:i2=m
     ·rw [e2];exact e
     ·exact hi i2 (by rw [htm];omega)
   refine ⟨?_,⟨_,aju M m,?_,?_⟩,rfl,rfl,fun hz=>?_⟩
   ·by_cases e:M.take m=[]
    ·refine ⟨0,?_,fun _=>rfl,fun i hi=>by rw [e] at hi;exact absurd hi (Nat.not_lt_zero i)⟩
     rw [e] at hlog ⊢
     refine ⟨hlog.ok,hlog.up,fun i _=>hlog.rest i (fun i2 h2=>absurd h2 (Nat.not_lt_zero i2)),fun i h=>absurd h (Nat.not_lt_zero i),fun i h=>absurd h (Nat.not_lt_zero i),fun i h=>absurd h (Nat.not_lt_zero i),fun i h=>absurd h (Nat.not_lt_zero i),fun i h=>absurd h (Nat.not_lt_zero i),fun i h=>absurd h (Nat.not_lt_zero _),fun i h=>absurd h (Nat.not_lt_zero _),fun i h=>absurd h (Nat.not_lt_zero i),by simp,by omega,hlog.used,hlog.big⟩
    ·exact ⟨base,hlog,fun e2=>absurd e2 e,hfull⟩
   ·rcases h5 with h5 | h5
    ·omega
    ·exfalso
     rw [List.length_append] at h5
     omega
   ·rw [sj hl.symm,List.length_append];omega
   ·by_cases e:M.take m=[]
    ·rw [e];rfl
    ·rw [abK M e];exact hz
  · -- the head is there
   obtain ⟨al,hal⟩:∃ al,al=framed (aG M[m].first)++frames (M[m].recs.take j'):=⟨_,rfl⟩
   have hne:¬ al=[]:=by rw [hal];exact xB _ _
   rw [← hal] at hld hle htk
   have hL:jX base (m+1) (dP M c)=M.take m++[⟨rg base (M.take m).length,M[m].first,M[m].recs.take j',framed (aG M[m].first)++frames (M[m].recs.take j'),0⟩]:=by
    show (if (bF (rg base m) (dP M c m)).all=[] then _ else (dZ base (m+1) (dP M c) (m+1)).set m (iO (bF (rg base m) (dP M c m))))=_
    rw [hld]
    simp only
    rw [if_neg hne]
    refine List.ext_getElem (by rw [List.length_set,List.length_append,htm,jo];rfl) (fun i a b=>?_)
    rw [List.length_set,jo] at a
    by_cases e:i=m
    ·subst e
     rw [List.getElem_set_self,List.getElem_append_right (by omega)]
     simp only [htm,Nat.sub_self,List.getElem_cons_zero]
     unfold iO
     simp only
     rw [if_neg hne,hal]
    ·rw [List.getElem_set_ne (Ne.symm e),List.getElem_append_left (by omega),List.getElem_take,hlL i (by rw [jo];omega),(hlda i (by omega)).1]
   have hD:(gZ d base (m+1) (dP M c)).F=aW d.F (rg base m) (some ⟨al,al.length⟩)∧DOk (gZ d base (m+1) (dP M c))∧(gZ d base (m+1) (dP M c)).down=false∧(gZ d base (m+1) (dP M c)).armed=d.armed∧(gZ d base (m+1) (dP M c)).room=d.room:=by
    have e:gZ d base (m+1) (dP M c)=gH d (bF (rg base m) (dP M c m)):=rfl
    rw [e,hld]
    unfold gH
    simp only
    rw [if_neg hne]
    by_cases ht:c-al.length=0
    ·rw [if_pos ht]
     refine ⟨?_,h.ok,hup,rfl,rfl⟩
     have h9:c=al.length:=by omega
     funext i
     by_cases e:i=rg base m
     ·rw [e,eX,hfm,h9,htk]
     ·rw [cZ _ _ e]
    ·rw [if_neg ht]
     have hcl:(M[m].all.take c).length=c:=by rw [List.length_take];omega
     have hcK:iA d (rg base m:Nat) (al.length:Nat)=0:=by
      unfold iA
      rw [if_pos hask,show ((rg base m:Nat):Int).toNat=rg base m by omega,gG hfm,if_neg ?_]
      rintro (h1 | h1)
      ·omega
      ·have h2:((M[m].all.take c).length:Int)<(al.length:Int):=h1
       omega
     have hcD:gV d (rg base m:Nat) (al.length:Nat)=dM d (qY d.F (rg base m) al.length):=by
      unfold gV
      rw [if_pos ⟨hcK,hask⟩]
      rfl
     have hok:=wS h.ok (rg base m:Nat) (al.length:Nat)
     rw [hcD] at hok ⊢
     refine ⟨?_,hok,hup,rfl,rfl⟩
     show qY d.F (rg base m) _=_
     unfold qY
     rw [gG hfm]
     simp only
     rw [List.take_take,Nat.min_eq_left hle,htk]
   obtain ⟨e1,e2,e3,e4,e5⟩:=hD
   have hsp:Shp most base (M.take m++[⟨rg base (M.take m).length,M[m].first,M[m].recs.take j',framed (aG M[m].first)++frames (M[m].recs.take j'),0⟩]) N:=by
    refine (h.shp.take m).snoc (by have:=h.shp.n63;omega) M[m].first (fun f hf=>?_) (fun f hf=>?_) _ (fun r hr=>hsm r (List.mem_of_mem_take hr)) ?_ (Nat.le_refl _) h.shp.big
    ·rw [List.getLast?_eq_getElem?,htm] at hf
     obtain ⟨hlt,e⟩:=List.getElem?_eq_some_iff.1 hf
     rw [List.getElem_take] at e
     have h9:=h.shp.next (m-1) (by omega)
     rw [← e,← h9]
     congr 2
     omega
    ·rw [List.getLast?_eq_getElem?,htm] at hf
     obtain ⟨hlt,e⟩:=List.getElem?_eq_some_iff.1 hf
     rw [List.getElem_take] at e
     rw [← e]
     exact h.shp.ahead (m-1) (by omega)
    ·have h9:=h.shp.bnd m hm
     unfold aO at h9
     rw [List.length_take]
     omega
   have hfull:iR (gZ d base (m+1) (dP M c)) base (M.take m++[⟨rg base (M.take m).length,M[m].first,M[m].recs.take j',framed (aG M[m].first)++frames (M[m].recs.take j'),0⟩]):=by
    intro i hi
    rw [e1]
    rcases lV (M.take m) _ hi with ⟨e,e6⟩ | ⟨hl2,e6⟩
    ·rw [e6]
     rw [htm] at e
     subst e
     rw [eX]
     simp only
     rw [hal]
    ·rw [e6]
     rw [htm] at hl2
     rw [cZ _ _ (uU h.shp (by omega) hm (by omega)),List.getElem_take]
     exact h.full i (by omega)
   rw [hL]
   refine ⟨⟨base,⟨e2,e3,fun i hi=>?_,fun i hi=>⟨_,hfull i hi⟩,hsp.num,hsp.dL,hsp.all,hsp.small,hsp.ahead,hsp.next,hsp.bnd,hsp.n63,hsp.b64,by have:=e2.used;have:=e2.fM;omega,hsp.big⟩,fun e=>by simp at e,hfull⟩,⟨(aC (M.take m)).length+j',?_,?_,?_⟩,e5,e4,fun hz=>?_⟩
   ·rw [e1]
    have hle2:∀ i2,i2<M.length→i≠rg base i2:=fun i2 h2=>hi i2 (by rw [List.length_append,htm,List.length_singleton];omega)
    rw [cZ _ _ (hle2 m hm)]
    exact h.rest i hle2
   ·rw [qb,sj hl.symm,List.take_length_add_append]
   ·rcases h5 with h5 | h5
    ·omega
    ·have:=hmax j h4 h5
     omega
   ·rw [sj hl.symm,List.length_append];omega
   ·by_cases e:M.take m=[]
    ·have hm0:m=0:=by rw [e] at htm;simpa using htm.symm
     rw [(qZ _ _).2 e]
     subst hm0
     rcases M with _ | ⟨f,M⟩
     ·simp at hm
     ·exact hz
    ·rw [(qZ _ _).1 e,abK M e];exact hz
end Wl
end Go.Proofs.YtpcmlopbkehffaaGreat
namespace Go.Proofs.YtpcmlopbkehffaaGreat
open Go.RowKit Fm Dsk
namespace Wl
def Chain:List FS→Prop
 | f::f2::L=>f2.first=aO f∧Chain (f2::L)
 | _=>True
theorem abe:∀ (L:List FS),(∀ i (h:i+1<L.length),L[i+1].first=aO L[i])→Chain L
 | [],_=>trivial
 | [_],_=>trivial
 | f::f2::L,h=>⟨h 0 (by simp),abe (f2::L) (fun i hi=>h (i+1) (by simpa using hi))⟩
theorem zh (f:FS) (L:List FS):aC (f::L)=f.recs++aC L:=by simp [aC]
theorem acG:∀ (L:List FS) (f:FS),Chain (f::L)→gI (f::L)=f.first+(aC (f::L)).length
 | [],f,_=>by
   show aO f=_
   rw [zh]
   simp [aO,aC]
 | f2 :: L,f,h=>by
   obtain ⟨h1,h2⟩:=h
   have h3:gI (f::f2::L)=gI (f2::L):=by
    unfold gI
    rw [List.getLast?_cons_cons]
   rw [h3,acG L f2 h2,h1,zh f,List.length_append]
   unfold aO
   omega
theorem aH.chain {d:ak} {most:Int} {base N U:Nat} {L:List FS} (h:aH d most base L N U):Chain L:=abe L h.next
theorem abJ {d:ak} {L:List FS} {num first:Nat} {r:List UInt8} (h:aS L=0) (hf:L=[]→first=0):aS (dK d L num first r).2.2=0:=by
 unfold dK
 rcases L with _ | ⟨f,L⟩
 ·rw [hf rfl]
  simp only
  split <;> rfl
 ·simp only
  split <;> exact h
theorem afZ {d:ak} {most:Int} {L:List FS} {r:List UInt8} (h:aS L=0):aS (aL d most L r).2.2=0:=by
 have hb:aS (cB d L r).2.2=0:=by
  unfold cB
  split
  ·exact h
  ·rcases hg:L.getLast? with _ | f
   ·exact abJ h (fun _=>rfl)
   ·simp only
    split
    ·exact abJ h (fun e=>by rw [e] at hg;cases hg)
    ·exact h
 unfold aL
 rcases hg:L.getLast? with _ | f
 ·exact hb
 ·simp only
  split
  ·exact hb
  ·simp only
   split
   ·rcases L with _ | ⟨f0,L⟩
    ·cases hg
    ·rcases L with _ | ⟨f1,L⟩
     ·have e:f0=f:=by simpa using hg
      subst e
      exact h
     ·exact h
   ·exact h
end Wl
end Go.Proofs.YtpcmlopbkehffaaGreat
