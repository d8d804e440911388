/-
  The document's registers in a list: Get, Put, Handle.
-/
import Derived.Test.YtpcmlopbkehffaaGreatOGDD
import Derived.Test.YtpcmlopbkehffaaGreatOGDF
import Derived.Test.YtpcmlopbkehffaaGreatORefPack
set_option linter.unusedSimpArgs false
set_option linter.unusedVariables false
namespace Go.Proofs.YtpcmlopbkehffaaGreat
open Go.RowKit Rg Bl Re Wl Dsk Fm Vw
attribute [local go_sem ↓] Go.wp_at_zero Go.wp_at_succ
namespace Rp
theorem abT {l:List au} {t:Nat} : ∀ k,(∀ j (hj:j<l.length),j<k→l[j].trace≠t)→aA l t=aA (l.drop k) t:=by
 induction l with
 | nil=>intro k _;rw [List.drop_nil]
 | cons o l ih =>
   intro k h
   rcases k with _ | k
   ·rfl
   ·have h0:=h 0 (by simp) (by omega)
    simp only [List.getElem_cons_zero] at h0
    rw [aA,if_neg h0,List.drop_succ_cons]
    exact ih k (fun j hj hjk=>h (j+1) (by simp;omega) (by omega))
theorem af5 {l:List au} {t k:Nat} (hk:k<l.length) (h:∀ j (hj:j<l.length),j<k→l[j].trace≠t) (e:l[k].trace=t):aA l t=l[k].r:=by
 rw [abT k h,List.drop_eq_getElem_cons hk,aA,if_pos e]
theorem af4 {l:List au} {t:Nat} (h:∀ j (hj:j<l.length),l[j].trace≠t):aA l t=bK:=by
 rw [abT l.length (fun j hj _=>h j hj),List.drop_length]
 rfl
theorem ac6 {t:Nat} {r:aF} : ∀ {l:List au} (k:Nat),k≤l.length→(∀ j (hj:j<l.length),j<k→l[j].trace<t)→(∀ hk:k<l.length,¬ l[k].trace<t) →
  bJ l t r=l.take k++[⟨t,r⟩]++(match (l.drop k) with | []=>[] | o::rest=>if o.trace=t then rest else o::rest)
 | [],k,hk,_,_=>by simp [bJ]
 | o :: l,0,_,_,h=>by
   have h0:¬ o.trace<t:=h (by simp)
   unfold bJ
   rw [if_neg h0]
   simp only [List.take_zero,List.drop_zero,List.nil_append]
   split <;> rfl
 | o :: l,k+1,hk,h1,h2=>by
   have h0:o.trace<t:=h1 0 (by simp) (by omega)
   unfold bJ
   rw [if_pos h0,ac6 (l:=l) k (by simpa using hk) (fun j hj hjk=>by have:=h1 (j+1) (by simp;omega) (by omega);simpa using this) (fun hk2=>by have:=h2 (by simp;omega);simpa using this)]
   simp
set_option maxRecDepth 20000 in
set_option maxHeartbeats 4000000 in
theorem adp (A:Option Addr) (n c:Nat) (l:List au) (t:Nat) (w:World) (h:bA.Row w A n c l):Calls Tryz.prog 39 #[.slice A n c,.int .u64 (t:Nat)] w (bT w.heap.size w (aK (aA l t))):=by
 obtain rfl:=h.len
 have hle:=Nat.le_trans h.cap h.max
 have HL:=aj h
 have HBa:=aj (show Below w.heap.size w (w.alloc (.cells #[.int .u64 0,.int .u64 0,.int .u64 0,.int .u64 0,.int .i64 0] 60)) from (Below.refl _ _).alloc (Nat.le_refl _) _)
 have HWa:=aj (aP w 60 #[.int .u64 0,.int .u64 0,.int .u64 0,.int .u64 0,.int .i64 0])
 have HSz:=aj (show w.heap.size<(w.alloc (.cells #[.int .u64 0,.int .u64 0,.int .u64 0,.int .u64 0,.int .i64 0] 60)).heap.size by simp)
 obtain ⟨wa,hwa⟩:∃ wa:World,wa=w.alloc (.cells #[.int .u64 0,.int .u64 0,.int .u64 0,.int .u64 0,.int .i64 0] 60):=⟨_,rfl⟩
 rw [← hwa] at HBa HWa HSz
 have HWw:=aj hwa
 clear h hwa
 go_enter Tryz.func39,Tryz.ntmps39
 go_wp2_with fail
 try rw [← HWw.out]
 go_loopw [5] (fun vi wr=>∃ k:Nat,k≤l.length∧vi = .int .i64 (k:Nat)∧Hid (∀ j (hj:j<l.length),j<k→l[j].trace≠t)∧Hid (wa=wr)) (fun vi _=>l.length-(intOf vi).toNat)
 case atStart=>exact ⟨0,Nat.zero_le _,rfl,aj (fun j hj h=>absurd h (by omega)),aj rfl⟩
 case round =>
  obtain ⟨k,hk,rfl,Hg,Hw⟩:=hrel
  obtain rfl:=Hw.out
  by_cases hlt:k<l.length
  ·obtain ⟨b,off,rfl,a0,a1,a2,a3,a4,a5⟩:=pW (HL.out.below HBa.out) hlt
   have x1:(k:Int)<(l.length:Int):=by omega
   have x2:(0:Int)≤(k:Int):=by omega
   have HK:=aj hlt
   by_cases he:l[k].trace=t
   ·have Hf:=aj (af5 hlt Hg.out he)
    generalize l[k]=o at *
    have e1:(o.trace==t)=true:=beq_iff_eq.2 he
    have e2:((o.trace:Int)==(t:Int))=true:=beq_iff_eq.2 (by omega)
    rw [Hf.out]
    have f1:=fun i=>HWa.out.free i
    have u0:=HWa.out.cell 0 (.int .u64 0) rfl
    have u1:=HWa.out.cell 1 (.int .u64 0) rfl
    have u2:=HWa.out.cell 2 (.int .u64 0) rfl
    have u3:=HWa.out.cell 3 (.int .u64 0) rfl
    have u4:=HWa.out.cell 4 (.int .i64 0) rfl
    clear he hlt
    go_wp2_with fail
    have HW2:=aj (kD HWa.out (.int .u64 (o.r.p.pos:Nat)) (.int .u64 (o.r.p.id:Nat)) (.int .u64 (o.r.t.pos:Nat)) (.int .u64 (o.r.t.id:Nat)) (.int .i64 o.r.v))
    have k0:=HW2.out.cell 0 (.int .u64 (o.r.p.pos:Nat)) rfl
    have k1:=HW2.out.cell 1 (.int .u64 (o.r.p.id:Nat)) rfl
    have k2:=HW2.out.cell 2 (.int .u64 (o.r.t.pos:Nat)) rfl
    have k3:=HW2.out.cell 3 (.int .u64 (o.r.t.id:Nat)) rfl
    have k4:=HW2.out.cell 4 (.int .i64 o.r.v) rfl
    exact bodyPost_ret (v:=aK o.r) (by simp [results,Tryz.results39,go_sem,k0,k1,k2,k3,k4]) rfl (bH rfl (eT HBa.out (Nat.le_refl _) _ _ _ _ _))
   ·have Hn:=aj (show ∀ j (hj:j<l.length),j<k+1→l[j].trace≠t from fun j hj h2=>by
     by_cases e:j=k
     ·subst e;exact he
     ·exact Hg.out j hj (by omega))
    generalize l[k]=o at *
    have e1:(o.trace==t)=false:=beq_eq_false_iff_ne.2 he
    have e2:((o.trace:Int)==(t:Int))=false:=beq_eq_false_iff_ne.2 (by omega)
    clear he hlt
    go_wp2_with fail
    go_roundw
    case rel=>exact ⟨k+1,by have:=HK.out;omega,by go_num,Hn,aj (by first | rfl | trivial)⟩
    case measure=>have:=HK.out;simp [intOf] <;> omega
  ·obtain rfl:k=l.length:=by omega
   have Hf:=aj (af4 (fun j hj=>Hg.out j hj hj))
   have f1:=fun i=>HWa.out.free i
   have u0:=HWa.out.cell 0 (.int .u64 0) rfl
   have u1:=HWa.out.cell 1 (.int .u64 0) rfl
   have u2:=HWa.out.cell 2 (.int .u64 0) rfl
   have u3:=HWa.out.cell 3 (.int .u64 0) rfl
   have u4:=HWa.out.cell 4 (.int .i64 0) rfl
   clear hlt
   go_wp2_with fail
   have HW2:=aj (kD HWa.out (.int .u64 0) (.int .u64 0) (.int .u64 0) (.int .u64 0) (.int .i64 0))
   have k0:=HW2.out.cell 0 (.int .u64 0) rfl
   have k1:=HW2.out.cell 1 (.int .u64 0) rfl
   have k2:=HW2.out.cell 2 (.int .u64 0) rfl
   have k3:=HW2.out.cell 3 (.int .u64 0) rfl
   have k4:=HW2.out.cell 4 (.int .i64 0) rfl
   exact bodyPost_ret (v:=aK bK) (by simp [results,Tryz.results39,go_sem,k0,k1,k2,k3,k4,bK]) rfl (bH (by rw [Hf.out]) (eT HBa.out (Nat.le_refl _) _ _ _ _ _))
abbrev RIn (w1:World) (g:Nat) (r:aF) (W:World):Prop:=Below w1.heap.size w1 W∧R5 W g r
theorem fJ (w:World) (g:Nat) (t:Nat) (r:aF) (T:TypeId) (h:g=w.heap.size):bA.Row (w.alloc (.cells #[.int .u64 (t:Nat),.int .u64 (r.p.pos:Nat),.int .u64 (r.p.id:Nat),.int .u64 (r.t.pos:Nat),.int .u64 (r.t.id:Nat),.int .i64 r.v] T)) (some ⟨g,0,none⟩) 1 1 [⟨t,r⟩]:=acV w g ⟨t,r⟩ T h
def qG (w:World) (R:List au) (e:Ending) (w':World):Prop:=∃ A c,e = .returned (.slice A R.length c)∧tF w.heap.size w' A R.length c R∧Below w.heap.size w w'
theorem p8 (b off k:Nat):Option.map (fun x:Addr=>x.add (k*bA.K)) (some ⟨b,off,none⟩)=some ⟨b,off+k*6,none⟩:=by
 show some (Addr.add ⟨b,off,none⟩ (k*6))=_
 rw [add_plain]
theorem mD {w:World} {A A':Option Addr} {n n' c c':Nat} {ss:List au} (h:bA.Row w A n c ss) (eA:A=A') (en:n=n') (ec:c=c'):bA.Row w A' n' c' ss:=by subst eA en ec;exact h
theorem mo {w1 W W':World} {g:Nat} {r:aF} (h:RIn w1 g r W) (hb:Below W.heap.size W W'):RIn w1 g r W':=⟨h.1.trans (hb.mono h.1.size),aje h.2 hb⟩
theorem ajf {W W':World} {g B:Nat} {r:aF} (h:R5 W g r) (hg:g<B) (hb:Below B W W'):R5 W' g r:=by
 obtain ⟨a,b,c,d,e⟩:=h
 exact ⟨(hb.cell (p:=⟨g,0,none⟩) hg).trans a,(hb.cell (p:=⟨g,1,none⟩) hg).trans b,(hb.cell (p:=⟨g,2,none⟩) hg).trans c,(hb.cell (p:=⟨g,3,none⟩) hg).trans d,(hb.cell (p:=⟨g,4,none⟩) hg).trans e⟩
theorem rZ {w1 W W':World} {g:Nat} {r:aF} (hg:g<w1.heap.size) (h:RIn w1 g r W) (hb:Below w1.heap.size W W'):RIn w1 g r W':=⟨h.1.trans hb,ajf h.2 hg hb⟩
set_option maxRecDepth 20000 in
set_option maxHeartbeats 8000000 in
theorem adx (A:Option Addr) (n c:Nat) (l:List au) (t:Nat) (r:aF) (w:World) (h:bA.Row w A n c l) (hpl:∀ a,A=some a→a.spot=none) (hn:n≤1000000):Calls Tryz.prog 42 #[.slice A n c,.int .u64 (t:Nat),aK r] w (qG w (bJ l t r)):=by
 obtain rfl:=h.len
 have hcap:=h.cap
 have hmax:=h.max
 have HBa:=aj (show Below w.heap.size w (w.alloc (.cells (aQ r) 60)) from (Below.refl _ _).alloc (Nat.le_refl _) _)
 have HL:=aj (h.below HBa.out)
 have HR:=aj (jE (aP w 60 (aQ r)))
 have HSz:=aj (show w.heap.size<(w.alloc (.cells (aQ r) 60)).heap.size by simp)
 obtain ⟨wa,hwa⟩:∃ wa:World,wa=w.alloc (.cells (aQ r) 60):=⟨_,rfl⟩
 rw [← hwa] at HBa HL HR HSz
 have HWw:=aj hwa
 have HPl:=aj hpl
 clear h hwa hpl
 go_enter Tryz.func42,Tryz.ntmps42
 go_wp2_with fail
 try rw [← HWw.out]
 go_loopw [7] (fun vi wr=>∃ k:Nat,k≤l.length∧vi = .int .i64 (k:Nat)∧Hid (∀ j (hj:j<l.length),j<k→l[j].trace<t)∧Hid (wa=wr)) (fun vi _=>l.length-(intOf vi).toNat)
 case atStart=>exact ⟨0,Nat.zero_le _,rfl,aj (fun j hj h=>absurd h (by omega)),aj rfl⟩
 case round =>
  obtain ⟨k,hk,rfl,Hg,Hw⟩:=hrel
  obtain rfl:=Hw.out
  by_cases hmore:∃ hlt:k<l.length,l[k].trace<t
  ·obtain ⟨hlt,he⟩:=hmore
   obtain ⟨b,off,rfl,a0,a1,a2,a3,a4,a5⟩:=pW HL.out hlt
   have x1:(k:Int)<(l.length:Int):=by omega
   have x2:(0:Int)≤(k:Int):=by omega
   have HK:=aj hlt
   have Hn:=aj (show ∀ j (hj:j<l.length),j<k+1→l[j].trace<t from fun j hj h2=>by
    by_cases e:j=k
    ·subst e;exact he
    ·exact Hg.out j hj (by omega))
   generalize l[k]=o at *
   have e0:decide (k<l.length)=true:=decide_eq_true (by omega)
   have e1:decide (o.trace<t)=true:=decide_eq_true he
   have e2:decide ((o.trace:Int)<(t:Int))=true:=decide_eq_true (by omega)
   clear he hlt
   go_wp2_with fail
   go_roundw
   case rel=>exact ⟨k+1,by have:=HK.out;omega,by go_num,Hn,aj (by first | rfl | trivial)⟩
   case measure=>have:=HK.out;simp [intOf] <;> omega
  ·have HPut:=aj (ac6 (r:=r) k hk Hg.out (fun hlt he=>hmore ⟨hlt,he⟩))
   have HSl:=aj (HL.out.from_ k hk)
   have xk:(0:Int)≤(k:Int):=by omega
   have xl:(k:Int)≤(l.length:Int):=by omega
   have xc:(l.length:Int)≤(c:Int):=by omega
   have xkc:(k:Int)≤(c:Int):=by omega
   have HR0:RIn wa w.heap.size r wa:=⟨Below.refl _ _,HR.out⟩
   have HBz:=aj HBa.out
   by_cases hlt:k<l.length
   · -- something is behind
    obtain ⟨b,off,rfl,a0,a1,a2,a3,a4,a5⟩:=pW HL.out hlt
    have HDr:=aj (List.drop_eq_getElem_cons hlt)
    have HNl:=aj (show ¬ l[k].trace<t from fun he=>hmore ⟨hlt,he⟩)
    generalize l[k]=o at *
    rw [HDr.out] at HPut
    simp only at HPut
    have e0:decide (k<l.length)=true:=decide_eq_true hlt
    have e1:decide (o.trace<t)=false:=decide_eq_false HNl.out
    have e2:decide ((o.trace:Int)<(t:Int))=false:=decide_eq_false (by have:=HNl.out;omega)
    have x1:(k:Int)<(l.length:Int):=by omega
    have xnc:¬ c=k:=by omega
    have xp:(0:Int)<(l.length:Int)-(k:Int):=by omega
    have xq:decide (0<l.length-k)=true:=decide_eq_true (by omega)
    have xr:(0:Int)≤(1:Int):=by omega
    have xs:(1:Int)≤(l.length:Int)-(k:Int):=by omega
    have hsl:=HSl.out
    unfold Enc.nL at hsl
    rw [if_neg xnc] at hsl
    have HS2:=aj hsl
    clear hsl hmore
    obtain ⟨wq,rfl⟩:∃ wq:World,wq=wa:=⟨_,rfl⟩
    have HLq:=aj HL.out
    have S0:RIn wq w.heap.size r wq:=HR0
    have hno:∀ x:Nat,x+1≤1000001→x*48≤140737488355328:=fun x h=>by omega
    by_cases he:o.trace=t
    · -- it is this one
     have e3:(o.trace==t)=true:=beq_iff_eq.2 he
     have e4:((o.trace:Int)==(t:Int))=true:=beq_iff_eq.2 (by omega)
     rw [if_pos he] at HPut
     have HLen:=aj (show l.length=(bJ l t r).length by rw [HPut.out];simp <;> omega)
     have HDr2:=aj (show (l.drop k).drop 1=l.drop (k+1) by rw [List.drop_drop])
     have HF1:=aj (HS2.out.from_ 1 (by omega))
     rw [HDr2.out] at HF1
     clear he
     by_cases hc1:c-k=1
     ·have HRs:=aj (show bA.Row wq (some ⟨b,off+k*6,none⟩) (l.length-k-1) (c-k-1) (l.drop (k+1)) by
       have h9:=HF1.out
       unfold Enc.nL at h9
       rw [if_pos hc1] at h9
       exact h9.place (p8 b off k) rfl)
      go_wp2_with fail
      go_region_held3 (RIn wq w.heap.size r) (first | assumption | (refine rZ HSz.out (by assumption) (by assumption)) | (refine mo (by assumption) ((Below.refl _ _).alloc (Nat.le_refl _) _)) | (refine mo (by assumption) (Below.drew (Below.refl _ _))))
       (first
        | (refine Enc.jh (E:=bA) (e:=116) (by rfl) (.tmp 40) (.tmp 43) 32 (by rfl) _ 48 Tryz.underlying32 iY rfl wq.heap.size _ 0 0 [] (by rfl) ?_ _ k _ (l.take k) (by rfl) ?_ k (l.take k) (by omega) (by rfl) (by omega) (by omega) ?_ ?_;(first | exact (Enc.kR _ _ rfl _ (by simp)) | exact Enc.Own.alloc (Enc.kR _ _ rfl _ (by simp)) _ | exact (Enc.mh _ _ _ rfl _ (by simp) (by simp)) | exact Enc.Own.alloc (Enc.mh _ _ _ rfl _ (by simp) (by simp)) _);(exact mD ((HLq.out.below (And.left (by assumption))).upto k (by omega)) rfl rfl (by omega));(exact Below.size (And.left (by assumption)));(intro A1 c1 w1 ho1 hb1 hg1);(try (have hlit:=Enc.lY (E:=bA) (gl:=wq.heap.size+1) (s:=⟨t,r⟩) (hg:=hg1) (h:=by first | exact fJ _ _ t r 116 (by simp) | exact (fJ _ _ t r 116 (by simp)).below (Below.drew (Below.refl _ _))) (hne:=by simp [Value.ownBlock])));(try (have hlit:=Enc.lY (E:=bA) (gl:=wq.heap.size) (s:=⟨t,r⟩) (hg:=hg1) (h:=by first | exact (fJ _ _ t r 116 (by simp)).below ((Below.refl _ _).alloc (Nat.le_refl _) _) | exact (fJ _ _ t r 116 (by simp)).below (Below.drew ((Below.refl _ _).alloc (Nat.le_refl _) _))) (hne:=by simp [Value.ownBlock]))))
        | (refine Enc.jh (E:=bA) (e:=116) (by rfl) (.tmp 44) (.tmp 48) 32 (by rfl) _ 48 Tryz.underlying32 iY rfl wq.heap.size A1 k c1 (l.take k) (by rfl) ?_ _ 1 1 [⟨t,r⟩] (by rfl) ?_ (k+1) (l.take k++[⟨t,r⟩]) (by rfl) (by rfl) (by omega) (by omega) ?_ ?_;(first | exact ho1 | exact Enc.Own.alloc ho1 _);(first | exact hlit | exact fJ _ _ t r 116 (by simp));(exact Below.size (And.left (by assumption)));(intro A2 c2 w2 ho2 hb2 hg2))
        | (refine Enc.jh (E:=bA) (e:=116) (by rfl) (.tmp 49) (.tmp 50) 32 (by rfl) _ 48 Tryz.underlying32 iY rfl wq.heap.size A2 (k+1) c2 (l.take k++[⟨t,r⟩]) (by rfl) ho2 _ _ _ (l.drop (k+1)) (by rfl) ?_ l.length (l.take k++[⟨t,r⟩]++l.drop (k+1)) (by omega) (by rfl) (by omega) (by omega) ?_ ?_;(exact mD (HRs.out.below (And.left (by assumption))) rfl (by omega) (by omega));(exact Below.size (And.left (by assumption)));(intro A3 c3 w3 ho3 hb3 hg3))
        | fail)
      all_goals
       have HO3:=aj (ho3.at_ (l':=bJ l t r) HLen.out (by rw [HPut.out]))
       have HB3:=aj (HBz.out.trans (Below.mono (And.left (by assumption)) HBz.out.size))
       clear ho1 ho2 ho3 hb1 hb2 hb3 hg1 hg2 hg3
       go_wp2_with fail
       go_ret
       exact ⟨_,_,congrArg (fun m=>Ending.returned (Value.slice _ m _)) HLen.out,HO3.out.mono HBz.out.size,HB3.out⟩
     ·have HRs:=aj (show bA.Row wq (some ⟨b,off+k*6+6,none⟩) (l.length-k-1) (c-k-1) (l.drop (k+1)) by
       have h9:=HF1.out
       unfold Enc.nL at h9
       rw [if_neg hc1] at h9
       exact h9.place (by rw [p8 b off k,p8 b (off+k*6) 1]) rfl)
      go_wp2_with fail
      go_region_held3 (RIn wq w.heap.size r) (first | assumption | (refine rZ HSz.out (by assumption) (by assumption)) | (refine mo (by assumption) ((Below.refl _ _).alloc (Nat.le_refl _) _)) | (refine mo (by assumption) (Below.drew (Below.refl _ _))))
       (first
        | (refine Enc.jh (E:=bA) (e:=116) (by rfl) (.tmp 40) (.tmp 43) 32 (by rfl) _ 48 Tryz.underlying32 iY rfl wq.heap.size _ 0 0 [] (by rfl) ?_ _ k _ (l.take k) (by rfl) ?_ k (l.take k) (by omega) (by rfl) (by omega) (by omega) ?_ ?_;(first | exact (Enc.kR _ _ rfl _ (by simp)) | exact Enc.Own.alloc (Enc.kR _ _ rfl _ (by simp)) _ | exact (Enc.mh _ _ _ rfl _ (by simp) (by simp)) | exact Enc.Own.alloc (Enc.mh _ _ _ rfl _ (by simp) (by simp)) _);(exact mD ((HLq.out.below (And.left (by assumption))).upto k (by omega)) rfl rfl (by omega));(exact Below.size (And.left (by assumption)));(intro A1 c1 w1 ho1 hb1 hg1);(try (have hlit:=Enc.lY (E:=bA) (gl:=wq.heap.size+1) (s:=⟨t,r⟩) (hg:=hg1) (h:=by first | exact fJ _ _ t r 116 (by simp) | exact (fJ _ _ t r 116 (by simp)).below (Below.drew (Below.refl _ _))) (hne:=by simp [Value.ownBlock])));(try (have hlit:=Enc.lY (E:=bA) (gl:=wq.heap.size) (s:=⟨t,r⟩) (hg:=hg1) (h:=by first | exact (fJ _ _ t r 116 (by simp)).below ((Below.refl _ _).alloc (Nat.le_refl _) _) | exact (fJ _ _ t r 116 (by simp)).below (Below.drew ((Below.refl _ _).alloc (Nat.le_refl _) _))) (hne:=by simp [Value.ownBlock]))))
        | (refine Enc.jh (E:=bA) (e:=116) (by rfl) (.tmp 44) (.tmp 48) 32 (by rfl) _ 48 Tryz.underlying32 iY rfl wq.heap.size A1 k c1 (l.take k) (by rfl) ?_ _ 1 1 [⟨t,r⟩] (by rfl) ?_ (k+1) (l.take k++[⟨t,r⟩]) (by rfl) (by rfl) (by omega) (by omega) ?_ ?_;(first | exact ho1 | exact Enc.Own.alloc ho1 _);(first | exact hlit | exact fJ _ _ t r 116 (by simp));(exact Below.size (And.left (by assumption)));(intro A2 c2 w2 ho2 hb2 hg2))
        | (refine Enc.jh (E:=bA) (e:=116) (by rfl) (.tmp 49) (.tmp 50) 32 (by rfl) _ 48 Tryz.underlying32 iY rfl wq.heap.size A2 (k+1) c2 (l.take k++[⟨t,r⟩]) (by rfl) ho2 _ _ _ (l.drop (k+1)) (by rfl) ?_ l.length (l.take k++[⟨t,r⟩]++l.drop (k+1)) (by omega) (by rfl) (by omega) (by omega) ?_ ?_;(exact mD (HRs.out.below (And.left (by assumption))) rfl (by omega) (by omega));(exact Below.size (And.left (by assumption)));(intro A3 c3 w3 ho3 hb3 hg3))
        | fail)
      all_goals
       have HO3:=aj (ho3.at_ (l':=bJ l t r) HLen.out (by rw [HPut.out]))
       have HB3:=aj (HBz.out.trans (Below.mono (And.left (by assumption)) HBz.out.size))
       clear ho1 ho2 ho3 hb1 hb2 hb3 hg1 hg2 hg3
       go_wp2_with fail
       go_ret
       exact ⟨_,_,congrArg (fun m=>Ending.returned (Value.slice _ m _)) HLen.out,HO3.out.mono HBz.out.size,HB3.out⟩
    ·have e3:(o.trace==t)=false:=beq_eq_false_iff_ne.2 he
     have e4:((o.trace:Int)==(t:Int))=false:=beq_eq_false_iff_ne.2 (by omega)
     rw [if_neg he,← HDr.out] at HPut
     have HRs:=aj (show bA.Row wq (some ⟨b,off+k*6,none⟩) (l.length-k) (c-k) (l.drop k) from HS2.out.place (p8 b off k) rfl)
     have HLen:=aj (show l.length+1=(bJ l t r).length by rw [HPut.out];simp <;> omega)
     clear he
     go_wp2_with fail
     go_region_held3 (RIn wq w.heap.size r) (first | assumption | (refine rZ HSz.out (by assumption) (by assumption)) | (refine mo (by assumption) ((Below.refl _ _).alloc (Nat.le_refl _) _)) | (refine mo (by assumption) (Below.drew (Below.refl _ _))))
      (first
       | (refine Enc.jh (E:=bA) (e:=116) (by rfl) (.tmp 40) (.tmp 43) 32 (by rfl) _ 48 Tryz.underlying32 iY rfl wq.heap.size _ 0 0 [] (by rfl) ?_ _ k _ (l.take k) (by rfl) ?_ k (l.take k) (by omega) (by rfl) (by omega) (by omega) ?_ ?_;(first | exact (Enc.kR _ _ rfl _ (by simp)) | exact Enc.Own.alloc (Enc.kR _ _ rfl _ (by simp)) _ | exact (Enc.mh _ _ _ rfl _ (by simp) (by simp)) | exact Enc.Own.alloc (Enc.mh _ _ _ rfl _ (by simp) (by simp)) _);(exact mD ((HLq.out.below (And.left (by assumption))).upto k (by omega)) rfl rfl (by omega));(exact Below.size (And.left (by assumption)));(intro A1 c1 w1 ho1 hb1 hg1);(try (have hlit:=Enc.lY (E:=bA) (gl:=wq.heap.size+1) (s:=⟨t,r⟩) (hg:=hg1) (h:=by first | exact fJ _ _ t r 116 (by simp) | exact (fJ _ _ t r 116 (by simp)).below (Below.drew (Below.refl _ _))) (hne:=by simp [Value.ownBlock])));(try (have hlit:=Enc.lY (E:=bA) (gl:=wq.heap.size) (s:=⟨t,r⟩) (hg:=hg1) (h:=by first | exact (fJ _ _ t r 116 (by simp)).below ((Below.refl _ _).alloc (Nat.le_refl _) _) | exact (fJ _ _ t r 116 (by simp)).below (Below.drew ((Below.refl _ _).alloc (Nat.le_refl _) _))) (hne:=by simp [Value.ownBlock]))))
       | (refine Enc.jh (E:=bA) (e:=116) (by rfl) (.tmp 44) (.tmp 48) 32 (by rfl) _ 48 Tryz.underlying32 iY rfl wq.heap.size A1 k c1 (l.take k) (by rfl) ?_ _ 1 1 [⟨t,r⟩] (by rfl) ?_ (k+1) (l.take k++[⟨t,r⟩]) (by rfl) (by rfl) (by omega) (by omega) ?_ ?_;(first | exact ho1 | exact Enc.Own.alloc ho1 _);(first | exact hlit | exact fJ _ _ t r 116 (by simp));(exact Below.size (And.left (by assumption)));(intro A2 c2 w2 ho2 hb2 hg2))
       | (refine Enc.jh (E:=bA) (e:=116) (by rfl) (.tmp 49) (.tmp 50) 32 (by rfl) _ 48 Tryz.underlying32 iY rfl wq.heap.size A2 (k+1) c2 (l.take k++[⟨t,r⟩]) (by rfl) ho2 _ _ _ (l.drop k) (by rfl) ?_ (l.length+1) (l.take k++[⟨t,r⟩]++l.drop k) (by omega) (by rfl) (by omega) (by omega) ?_ ?_;(exact mD (HRs.out.below (And.left (by assumption))) rfl (by omega) (by omega));(exact Below.size (And.left (by assumption)));(intro A3 c3 w3 ho3 hb3 hg3))
       | fail)
     all_goals
      have HO3:=aj (ho3.at_ (l':=bJ l t r) HLen.out (by rw [HPut.out]))
      have HB3:=aj (HBz.out.trans (Below.mono (And.left (by assumption)) HBz.out.size))
      clear ho1 ho2 ho3 hb1 hb2 hb3 hg1 hg2 hg3
      go_wp2_with fail
      go_ret
      exact ⟨_,_,congrArg (fun m=>Ending.returned (Value.slice _ m _)) HLen.out,HO3.out.mono HBz.out.size,HB3.out⟩
   · -- nothing is behind
    have HPut:=aj (show bJ l t r=l.take k++[⟨t,r⟩]++l.drop k by
     have h9:=HPut.out
     rw [show l.drop k=[] from List.drop_eq_nil_of_le (by omega)] at h9 ⊢
     exact h9)
    obtain ⟨wq,rfl⟩:∃ wq:World,wq=wa:=⟨_,rfl⟩
    have HLq:=aj HL.out
    have S0:RIn wq w.heap.size r wq:=HR0
    have e0:decide (k<l.length)=false:=decide_eq_false hlt
    have x1:¬ (k:Int)<(l.length:Int):=by omega
    have xq:decide (0<l.length-k)=false:=decide_eq_false (by omega)
    have HLen:=aj (show l.length+1=(bJ l t r).length by rw [HPut.out];simp <;> omega)
    have hk9:l.length≤k:=by omega
    clear hmore hlt
    by_cases hc1:c=k
    ·have HRs:=aj (show bA.Row wq A (l.length-k) (c-k) (l.drop k) by
      have h9:=HSl.out
      unfold Enc.nL at h9
      rw [if_pos hc1] at h9
      exact h9.place (by first | rfl | exact p8 _ _ _) rfl)
     go_wp2_with fail
     go_region_held3 (RIn wq w.heap.size r) (first | assumption | (refine rZ HSz.out (by assumption) (by assumption)) | (refine mo (by assumption) ((Below.refl _ _).alloc (Nat.le_refl _) _)) | (refine mo (by assumption) (Below.drew (Below.refl _ _))))
      (first
       | (refine Enc.jh (E:=bA) (e:=116) (by rfl) (.tmp 40) (.tmp 43) 32 (by rfl) _ 48 Tryz.underlying32 iY rfl wq.heap.size _ 0 0 [] (by rfl) ?_ _ k _ (l.take k) (by rfl) ?_ k (l.take k) (by omega) (by rfl) (by omega) (by omega) ?_ ?_;(first | exact (Enc.kR _ _ rfl _ (by simp)) | exact Enc.Own.alloc (Enc.kR _ _ rfl _ (by simp)) _ | exact (Enc.mh _ _ _ rfl _ (by simp) (by simp)) | exact Enc.Own.alloc (Enc.mh _ _ _ rfl _ (by simp) (by simp)) _);(exact mD ((HLq.out.below (And.left (by assumption))).upto k (by omega)) rfl rfl (by omega));(exact Below.size (And.left (by assumption)));(intro A1 c1 w1 ho1 hb1 hg1);(try (have hlit:=Enc.lY (E:=bA) (gl:=wq.heap.size+1) (s:=⟨t,r⟩) (hg:=hg1) (h:=by first | exact fJ _ _ t r 116 (by simp) | exact (fJ _ _ t r 116 (by simp)).below (Below.drew (Below.refl _ _))) (hne:=by simp [Value.ownBlock])));(try (have hlit:=Enc.lY (E:=bA) (gl:=wq.heap.size) (s:=⟨t,r⟩) (hg:=hg1) (h:=by first | exact (fJ _ _ t r 116 (by simp)).below ((Below.refl _ _).alloc (Nat.le_refl _) _) | exact (fJ _ _ t r 116 (by simp)).below (Below.drew ((Below.refl _ _).alloc (Nat.le_refl _) _))) (hne:=by simp [Value.ownBlock]))))
       | (refine Enc.jh (E:=bA) (e:=116) (by rfl) (.tmp 44) (.tmp 48) 32 (by rfl) _ 48 Tryz.underlying32 iY rfl wq.heap.size A1 k c1 (l.take k) (by rfl) ?_ _ 1 1 [⟨t,r⟩] (by rfl) ?_ (k+1) (l.take k++[⟨t,r⟩]) (by rfl) (by rfl) (by omega) (by omega) ?_ ?_;(first | exact ho1 | exact Enc.Own.alloc ho1 _);(first | exact hlit | exact fJ _ _ t r 116 (by simp));(exact Below.size (And.left (by assumption)));(intro A2 c2 w2 ho2 hb2 hg2))
       | (refine Enc.jh (E:=bA) (e:=116) (by rfl) (.tmp 49) (.tmp 50) 32 (by rfl) _ 48 Tryz.underlying32 iY rfl wq.heap.size A2 (k+1) c2 (l.take k++[⟨t,r⟩]) (by rfl) ho2 _ _ _ (l.drop k) (by rfl) ?_ (l.length+1) (l.take k++[⟨t,r⟩]++l.drop k) (by omega) (by rfl) (by omega) (by omega) ?_ ?_;(exact mD (HRs.out.below (And.left (by assumption))) rfl (by omega) (by omega));(exact Below.size (And.left (by assumption)));(intro A3 c3 w3 ho3 hb3 hg3))
       | fail)
     all_goals
      have HO3:=aj (ho3.at_ (l':=bJ l t r) HLen.out (by rw [HPut.out]))
      have HB3:=aj (HBz.out.trans (Below.mono (And.left (by assumption)) HBz.out.size))
      clear ho1 ho2 ho3 hb1 hb2 hb3 hg1 hg2 hg3
      go_wp2_with fail
      go_ret
      exact ⟨_,_,congrArg (fun m=>Ending.returned (Value.slice _ m _)) HLen.out,HO3.out.mono HBz.out.size,HB3.out⟩
    ·rcases A with _ | ⟨b,off,spot⟩
     ·exact absurd (HL.out.nil rfl) (by omega)
     obtain rfl:spot=none:=HPl.out _ rfl
     have HRs:=aj (show bA.Row wq (some ⟨b,off+k*6,none⟩) (l.length-k) (c-k) (l.drop k) by
      have h9:=HSl.out
      unfold Enc.nL at h9
      rw [if_neg hc1] at h9
      exact h9.place (by first | rfl | exact p8 _ _ _) rfl)
     go_wp2_with fail
     go_region_held3 (RIn wq w.heap.size r) (first | assumption | (refine rZ HSz.out (by assumption) (by assumption)) | (refine mo (by assumption) ((Below.refl _ _).alloc (Nat.le_refl _) _)) | (refine mo (by assumption) (Below.drew (Below.refl _ _))))
      (first
       | (refine Enc.jh (E:=bA) (e:=116) (by rfl) (.tmp 40) (.tmp 43) 32 (by rfl) _ 48 Tryz.underlying32 iY rfl wq.heap.size _ 0 0 [] (by rfl) ?_ _ k _ (l.take k) (by rfl) ?_ k (l.take k) (by omega) (by rfl) (by omega) (by omega) ?_ ?_;(first | exact (Enc.kR _ _ rfl _ (by simp)) | exact Enc.Own.alloc (Enc.kR _ _ rfl _ (by simp)) _ | exact (Enc.mh _ _ _ rfl _ (by simp) (by simp)) | exact Enc.Own.alloc (Enc.mh _ _ _ rfl _ (by simp) (by simp)) _);(exact mD ((HLq.out.below (And.left (by assumption))).upto k (by omega)) rfl rfl (by omega));(exact Below.size (And.left (by assumption)));(intro A1 c1 w1 ho1 hb1 hg1);(try (have hlit:=Enc.lY (E:=bA) (gl:=wq.heap.size+1) (s:=⟨t,r⟩) (hg:=hg1) (h:=by first | exact fJ _ _ t r 116 (by simp) | exact (fJ _ _ t r 116 (by simp)).below (Below.drew (Below.refl _ _))) (hne:=by simp [Value.ownBlock])));(try (have hlit:=Enc.lY (E:=bA) (gl:=wq.heap.size) (s:=⟨t,r⟩) (hg:=hg1) (h:=by first | exact (fJ _ _ t r 116 (by simp)).below ((Below.refl _ _).alloc (Nat.le_refl _) _) | exact (fJ _ _ t r 116 (by simp)).below (Below.drew ((Below.refl _ _).alloc (Nat.le_refl _) _))) (hne:=by simp [Value.ownBlock]))))
       | (refine Enc.jh (E:=bA) (e:=116) (by rfl) (.tmp 44) (.tmp 48) 32 (by rfl) _ 48 Tryz.underlying32 iY rfl wq.heap.size A1 k c1 (l.take k) (by rfl) ?_ _ 1 1 [⟨t,r⟩] (by rfl) ?_ (k+1) (l.take k++[⟨t,r⟩]) (by rfl) (by rfl) (by omega) (by omega) ?_ ?_;(first | exact ho1 | exact Enc.Own.alloc ho1 _);(first | exact hlit | exact fJ _ _ t r 116 (by simp));(exact Below.size (And.left (by assumption)));(intro A2 c2 w2 ho2 hb2 hg2))
       | (refine Enc.jh (E:=bA) (e:=116) (by rfl) (.tmp 49) (.tmp 50) 32 (by rfl) _ 48 Tryz.underlying32 iY rfl wq.heap.size A2 (k+1) c2 (l.take k++[⟨t,r⟩]) (by rfl) ho2 _ _ _ (l.drop k) (by rfl) ?_ (l.length+1) (l.take k++[⟨t,r⟩]++l.drop k) (by omega) (by rfl) (by omega) (by omega) ?_ ?_;(exact mD (HRs.out.below (And.left (by assumption))) rfl (by omega) (by omega));(exact Below.size (And.left (by assumption)));(intro A3 c3 w3 ho3 hb3 hg3))
       | fail)
     all_goals
      have HO3:=aj (ho3.at_ (l':=bJ l t r) HLen.out (by rw [HPut.out]))
      have HB3:=aj (HBz.out.trans (Below.mono (And.left (by assumption)) HBz.out.size))
      clear ho1 ho2 ho3 hb1 hb2 hb3 hg1 hg2 hg3
      go_wp2_with fail
      go_ret
      exact ⟨_,_,congrArg (fun m=>Ending.returned (Value.slice _ m _)) HLen.out,HO3.out.mono HBz.out.size,HB3.out⟩
end Rp
end Go.Proofs.YtpcmlopbkehffaaGreat
namespace Go.Proofs.YtpcmlopbkehffaaGreat
open Go.RowKit Rg Bl Re Wl Dsk Fm Vw
namespace Rp
theorem ai9 {R:List au} (h:dS R) (hz:fA R) {t:Nat} (hn:aA R t≠bK):bJ R t (aA R t)=R:=by
 refine uX (h.put t _) h (hz.put t hn) hz (fun u=>?_)
 rw [get_put h]
 split
 ·rename_i e;rw [e]
 ·rfl
theorem af6 {r:aF} {b:aY} {v:Int} (hb:b.pos≠0) (hg:jB r b v=true):iW r b v≠bK:=by
 have key:∀ x:aF,x.p=b→x≠bK:=fun x hx e=>hb (by rw [← hx,e])
 unfold jB at hg
 unfold iW
 by_cases hv:v=0
 ·rw [if_pos hv] at hg ⊢
  have hl:fE r b=false:=by simpa using hg
  rw [uP hl]
  exact key _ rfl
 ·rw [if_neg hv] at hg ⊢
  rw [tO hg]
  exact key _ rfl
theorem ajV {r:aF} {b:aY} {v:Int} (hg:jB r b v=false):iW r b v=r:=by
 unfold jB at hg
 unfold iW
 by_cases hv:v=0
 ·rw [if_pos hv] at hg ⊢
  exact uO (by simpa using hg)
 ·rw [if_neg hv] at hg ⊢
  exact tN hg
def nextR (R:List au) (p:av):List au:=keepR R p.trace (dD R p)
def lN (R:List au) (p:av):av:=eZ (dD R p) p.trace (gF p) (iC R p) (decide (p.v≠0))
theorem acH {R:List au} (h:dS R) (hz:fA R) {p:av} (k:dU p=true):(if iC R p=true then bJ R p.trace (dD R p) else R)=nextR R p:=by
 obtain ⟨-,h2,-⟩:=ow k
 have hb:(gF p).pos≠0:=h2
 unfold nextR keepR
 rcases hg:iC R p with _ | _
 ·have e:dD R p=aA R p.trace:=ajV hg
  rw [if_neg (by decide),e,nX,if_pos rfl]
 ·rw [if_pos rfl]
  have hnz:dD R p≠bK:=af6 hb hg
  rcases hs:dH (dD R p) (aA R p.trace) with _ | _
  ·rfl
  ·have e:=(zD _ _).1 hs
   rw [e] at hnz
   rw [if_pos rfl,e,ai9 h hz hnz]
theorem vB (w:World) (g:Nat) (v0 v1 v2 v3 v4:Value):Tn (fun q=>q=g) w (((((w.setCell ⟨g,0,none⟩ v0).setCell ⟨g,1,none⟩ v1).setCell ⟨g,2,none⟩ v2).setCell ⟨g,3,none⟩ v3).setCell ⟨g,4,none⟩ v4) :=
 ((((((Tn.refl (fun q=>q=g) w).set (g:=g) (.inl rfl) 0 v0).set (g:=g) (.inl rfl) 1 v1).set (g:=g) (.inl rfl) 2 v2).set (g:=g) (.inl rfl) 3 v3).set (g:=g) (.inl rfl) 4 v4)
def mJ (w:World) (A:Option Addr) (m:List au) (p:av) (e:Ending) (w':World):Prop :=
 ∃ A' c' m' q,e = .returned (.tuple #[.slice A' m'.length c',aM q noS,.bool (dU p)])∧bA.Row w' A' m'.length c' m'∧(dU p=true→m'=nextR m p∧q=lN m p)∧(dU p=false→m'=m∧q=fU)∧((A'=A∧m'=m)∨∃ g,A'=some ⟨g,0,none⟩∧w.heap.size≤g)∧Below w.heap.size w w'
theorem zu {w w':World} {A:Option Addr} {c:Nat} {m:List au} {p:av} (h:bA.Row w A m.length c m) (k:dU p=false) (hb:Below w.heap.size w w'):mJ w A m p (.returned (.tuple #[.slice A m.length c,aM fU noS,.bool false])) w' :=
 ⟨A,c,m,fU,by rw [k],h.below hb,fun e=>absurd (k.symm.trans e) (by decide),fun _=>⟨rfl,rfl⟩,.inl ⟨rfl,rfl⟩,hb⟩
theorem adr {w w':World} {A:Option Addr} {c:Nat} {m:List au} {p q:av} (h:bA.Row w A m.length c m) (k:dU p=true) (hm:m=nextR m p) (hq:q=lN m p) (hb:Below w.heap.size w w'):mJ w A m p (.returned (.tuple #[.slice A m.length c,aM q noS,.bool true])) w' :=
 ⟨A,c,m,q,by rw [k],h.below hb,fun _=>⟨hm,hq⟩,fun e=>absurd (k.symm.trans e) (by decide),.inl ⟨rfl,rfl⟩,hb⟩
theorem adq {w w1 w1' w9 w':World} {A A':Option Addr} {c':Nat} {m m':List au} {p q:av} (h:tF w1.heap.size w1' A' m'.length c' m') (h1:Below w.heap.size w w1) (k:dU p=true) (hm:m'=nextR m p) (hne:m'≠[]) (hq:q=lN m p) (hb1:Below w1'.heap.size w1' w9) {g0:Nat} (t:Tn (fun q=>q=g0) w9 w') (hg0:g0<w1.heap.size) (hb:Below w.heap.size w w'):mJ w A m p (.returned (.tuple #[.slice A' m'.length c',aM q noS,.bool true])) w':=by
 obtain ⟨g,e,hg,-⟩:=h.place (List.length_pos_iff.2 hne)
 have hr:=uZ (h.row.below hb1) t (fun a ea _ hq=>by rw [e] at ea;injection ea with ea;rw [← ea] at hq;have h9:g=g0:=hq;omega)
 exact ⟨A',c',m',q,by rw [k],hr,fun _=>⟨hm,hq⟩,fun e=>absurd (k.symm.trans e) (by decide),.inr ⟨g,e,Nat.le_trans h1.size hg⟩,hb⟩
theorem ac9 {R:List au} {t:Nat} {r:aF} : bJ R t r≠[]:=by
 rcases R with _ | ⟨o,l⟩
 ·simp [bJ]
 ·unfold bJ
  split
  ·simp
  ·split <;> simp
set_option maxRecDepth 100000 in
set_option maxHeartbeats 2000000 in
theorem akd (A:Option Addr) (c:Nat) (m:List au) (kd:Int) (tr bn bd sn sd:Nat) (v:Int) (ok:Bool) (l1:List ay) (l2:List aJ) (l3:List Nat) (a1:Option Addr) (e1:Nat) (a2:Option Addr) (e2:Nat) (a3:Option Addr) (e3:Nat) (w:World) (h:bA.Row w A m.length c m) (h4:kd≠4) (h6:kd≠6) :
  Calls Tryz.prog 12 #[.slice A m.length c,aM ⟨kd,tr,bn,bd,sn,sd,v,ok,l1,l2,l3⟩ ⟨a1,e1,a2,e2,a3,e3⟩] w (mJ w A m ⟨kd,tr,bn,bd,sn,sd,v,ok,l1,l2,l3⟩):=by
 have HAsk:=aj (show dU ⟨kd,tr,bn,bd,sn,sd,v,ok,l1,l2,l3⟩=false by unfold dU;rw [decide_eq_false h4,decide_eq_false h6];simp)
 have HRow:=aj h
 have e9:(kd != 4)=true:=bne_iff_ne.2 h4
 have e8:(kd != 6)=true:=bne_iff_ne.2 h6
 obtain ⟨hb,hw1,hw2,hsz⟩:=oU w (⟨kd,tr,bn,bd,sn,sd,v,ok,l1,l2,l3⟩:av) (⟨a1,e1,a2,e2,a3,e3⟩:aT)
 obtain ⟨wa,hwa⟩:∃ wa:World,wa=((w.alloc (.cells #[.int .i64 kd,.int .u64 (tr:Nat),.int .u64 (bn:Nat),.int .u64 (bd:Nat),.int .u64 (sn:Nat),.int .u64 (sd:Nat),.int .i64 v,.bool ok,.slice a1 l1.length e1,.slice a2 l2.length e2,.slice a3 l3.length e3] 41)).alloc (.cells #[.int .i64 0,.int .u64 0,.int .u64 0,.int .u64 0,.int .u64 0,.int .u64 0,.int .i64 0,.bool false,.slice none 0 0,.slice none 0 0,.slice none 0 0] 41)):=⟨_,rfl⟩
 rw [← hwa] at hb hw1 hw2 hsz
 have HWa:=aj hwa
 have HB:=aj hb
 have H1:=aj hw1
 have H2:=aj hw2
 have HSz:=aj hsz
 clear hwa
 obtain ⟨x0,x1,x2,x3,x4,x5,x6,x7,x8,x9,x10⟩:=dI H1.out
 have f1:=fun i=>H2.out.free i
 obtain ⟨u0,u1,u2,u3,u4,u5,u6,u7,u8,u9,u10⟩:=dI H2.out
 clear h h4 h6 hb hw1 hw2 hsz
 go_enter Tryz.func12,Tryz.ntmps12
 go_wp2_with fail
 try rw [← HWa.out]
 obtain ⟨k0,k1,k2,k3,k4,k5,k6,k7,k8,k9,k10⟩:=dI H2.out
 exact bodyPost_ret (v := .tuple #[.slice A m.length c,aM fU noS,.bool false]) (by simp [results,Tryz.results12,go_sem,k0,k1,k2,k3,k4,k5,k6,k7,k8,k9,k10]) rfl (zu HRow.out HAsk.out HB.out)
set_option maxRecDepth 100000 in
set_option maxHeartbeats 2000000 in
theorem akb (A:Option Addr) (c:Nat) (m:List au) (tr bn bd sn sd:Nat) (v:Int) (ok:Bool) (l1:List ay) (l2:List aJ) (l3:List Nat) (a1:Option Addr) (e1:Nat) (a2:Option Addr) (e2:Nat) (a3:Option Addr) (e3:Nat) (w:World) (h:bA.Row w A m.length c m) (hp:bP w ⟨4,tr,bn,bd,sn,sd,v,ok,l1,l2,l3⟩ ⟨a1,e1,a2,e2,a3,e3⟩) (hw:av.Wf ⟨4,tr,bn,bd,sn,sd,v,ok,l1,l2,l3⟩) (hr:dF ⟨4,tr,bn,bd,sn,sd,v,ok,l1,l2,l3⟩=false) :
  Calls Tryz.prog 12 #[.slice A m.length c,aM ⟨4,tr,bn,bd,sn,sd,v,ok,l1,l2,l3⟩ ⟨a1,e1,a2,e2,a3,e3⟩] w (mJ w A m ⟨4,tr,bn,bd,sn,sd,v,ok,l1,l2,l3⟩):=by
 have HRow:=aj h
 have HRi:=aj (fun (W:World) (hb:Below w.heap.size w W)=>uS _ _ W (hp.below hb) hw)
 obtain ⟨hb,hw1,hw2,hsz⟩:=oU w (⟨4,tr,bn,bd,sn,sd,v,ok,l1,l2,l3⟩:av) (⟨a1,e1,a2,e2,a3,e3⟩:aT)
 obtain ⟨wa,hwa⟩:∃ wa:World,wa=((w.alloc (.cells #[.int .i64 4,.int .u64 (tr:Nat),.int .u64 (bn:Nat),.int .u64 (bd:Nat),.int .u64 (sn:Nat),.int .u64 (sd:Nat),.int .i64 v,.bool ok,.slice a1 l1.length e1,.slice a2 l2.length e2,.slice a3 l3.length e3] 41)).alloc (.cells #[.int .i64 0,.int .u64 0,.int .u64 0,.int .u64 0,.int .u64 0,.int .u64 0,.int .i64 0,.bool false,.slice none 0 0,.slice none 0 0,.slice none 0 0] 41)):=⟨_,rfl⟩
 rw [← hwa] at hb hw1 hw2 hsz
 have HWa:=aj hwa
 have HB:=aj hb
 have H1:=aj hw1
 have H2:=aj hw2
 have HSz:=aj hsz
 clear hwa
 obtain ⟨x0,x1,x2,x3,x4,x5,x6,x7,x8,x9,x10⟩:=dI H1.out
 clear hb hw1 hw2 hsz
 have HAsk:=aj (show dU ⟨4,tr,bn,bd,sn,sd,v,ok,l1,l2,l3⟩=false by unfold dU;rw [hr];rfl)
 rw [hr,show bY false=6 from rfl] at HRi
 clear h hp hw hr
 go_enter Tryz.func12,Tryz.ntmps12
 go_wp2_with fail
 try rw [← HWa.out]
 (with_reducible refine Calls.mono (HRi.out _ HB.out) ?_)
 rintro e w1 ⟨rfl,hb1⟩
 have H2x:=aj (H2.out.below hb1 H2.out.lt)
 have HBx:=aj (HB.out.trans (hb1.mono HB.out.size))
 have f1:=fun i=>H2x.out.free i
 obtain ⟨u0,u1,u2,u3,u4,u5,u6,u7,u8,u9,u10⟩:=dI H2x.out
 clear hb1 x0 x1 x2 x3 x4 x5 x6 x7 x8 x9 x10
 go_wp2_with fail
 obtain ⟨wz,hz,hwz,hbz⟩:=pJ H2x.out HBx.out (Nat.le_succ _) (.int .i64 0) (.int .u64 0) (.int .u64 0) (.int .u64 0) (.int .u64 0) (.int .u64 0) (.int .i64 0) (.bool false) (.slice none 0 0) (.slice none 0 0) (.slice none 0 0)
 rw [← hz]
 obtain ⟨k0,k1,k2,k3,k4,k5,k6,k7,k8,k9,k10⟩:=dI hwz
 have HZ:=aj hbz.1
 clear hz hwz hbz
 exact bodyPost_ret (v := .tuple #[.slice A m.length c,aM fU noS,.bool false]) (by simp [results,Tryz.results12,go_sem,k0,k1,k2,k3,k4,k5,k6,k7,k8,k9,k10]) rfl (zu HRow.out HAsk.out HZ.out)
set_option maxRecDepth 100000 in
set_option maxHeartbeats 2000000 in
theorem akc (A:Option Addr) (c:Nat) (m:List au) (tr bn bd sn sd:Nat) (v:Int) (ok:Bool) (l1:List ay) (l2:List aJ) (l3:List Nat) (a1:Option Addr) (e1:Nat) (a2:Option Addr) (e2:Nat) (a3:Option Addr) (e3:Nat) (w:World) (h:bA.Row w A m.length c m) (hp:bP w ⟨6,tr,bn,bd,sn,sd,v,ok,l1,l2,l3⟩ ⟨a1,e1,a2,e2,a3,e3⟩) (hw:av.Wf ⟨6,tr,bn,bd,sn,sd,v,ok,l1,l2,l3⟩) (hr:dF ⟨6,tr,bn,bd,sn,sd,v,ok,l1,l2,l3⟩=false) :
  Calls Tryz.prog 12 #[.slice A m.length c,aM ⟨6,tr,bn,bd,sn,sd,v,ok,l1,l2,l3⟩ ⟨a1,e1,a2,e2,a3,e3⟩] w (mJ w A m ⟨6,tr,bn,bd,sn,sd,v,ok,l1,l2,l3⟩):=by
 have HRow:=aj h
 have HRi:=aj (fun (W:World) (hb:Below w.heap.size w W)=>uS _ _ W (hp.below hb) hw)
 obtain ⟨hb,hw1,hw2,hsz⟩:=oU w (⟨6,tr,bn,bd,sn,sd,v,ok,l1,l2,l3⟩:av) (⟨a1,e1,a2,e2,a3,e3⟩:aT)
 obtain ⟨wa,hwa⟩:∃ wa:World,wa=((w.alloc (.cells #[.int .i64 6,.int .u64 (tr:Nat),.int .u64 (bn:Nat),.int .u64 (bd:Nat),.int .u64 (sn:Nat),.int .u64 (sd:Nat),.int .i64 v,.bool ok,.slice a1 l1.length e1,.slice a2 l2.length e2,.slice a3 l3.length e3] 41)).alloc (.cells #[.int .i64 0,.int .u64 0,.int .u64 0,.int .u64 0,.int .u64 0,.int .u64 0,.int .i64 0,.bool false,.slice none 0 0,.slice none 0 0,.slice none 0 0] 41)):=⟨_,rfl⟩
 rw [← hwa] at hb hw1 hw2 hsz
 have HWa:=aj hwa
 have HB:=aj hb
 have H1:=aj hw1
 have H2:=aj hw2
 have HSz:=aj hsz
 clear hwa
 obtain ⟨x0,x1,x2,x3,x4,x5,x6,x7,x8,x9,x10⟩:=dI H1.out
 clear hb hw1 hw2 hsz
 have HAsk:=aj (show dU ⟨6,tr,bn,bd,sn,sd,v,ok,l1,l2,l3⟩=false by unfold dU;rw [hr];rfl)
 rw [hr,show bY false=6 from rfl] at HRi
 clear h hp hw hr
 go_enter Tryz.func12,Tryz.ntmps12
 go_wp2_with fail
 try rw [← HWa.out]
 (with_reducible refine Calls.mono (HRi.out _ HB.out) ?_)
 rintro e w1 ⟨rfl,hb1⟩
 have H2x:=aj (H2.out.below hb1 H2.out.lt)
 have HBx:=aj (HB.out.trans (hb1.mono HB.out.size))
 have f1:=fun i=>H2x.out.free i
 obtain ⟨u0,u1,u2,u3,u4,u5,u6,u7,u8,u9,u10⟩:=dI H2x.out
 clear hb1 x0 x1 x2 x3 x4 x5 x6 x7 x8 x9 x10
 go_wp2_with fail
 obtain ⟨wz,hz,hwz,hbz⟩:=pJ H2x.out HBx.out (Nat.le_succ _) (.int .i64 0) (.int .u64 0) (.int .u64 0) (.int .u64 0) (.int .u64 0) (.int .u64 0) (.int .i64 0) (.bool false) (.slice none 0 0) (.slice none 0 0) (.slice none 0 0)
 rw [← hz]
 obtain ⟨k0,k1,k2,k3,k4,k5,k6,k7,k8,k9,k10⟩:=dI hwz
 have HZ:=aj hbz.1
 clear hz hwz hbz
 exact bodyPost_ret (v := .tuple #[.slice A m.length c,aM fU noS,.bool false]) (by simp [results,Tryz.results12,go_sem,k0,k1,k2,k3,k4,k5,k6,k7,k8,k9,k10]) rfl (zu HRow.out HAsk.out HZ.out)
set_option maxRecDepth 100000 in
set_option maxHeartbeats 2000000 in
theorem ake (A:Option Addr) (c:Nat) (m:List au) (tr bn bd sn sd:Nat) (ok:Bool) (l1:List ay) (l2:List aJ) (l3:List Nat) (a1:Option Addr) (e1:Nat) (a2:Option Addr) (e2:Nat) (a3:Option Addr) (e3:Nat) (w:World) (h:bA.Row w A m.length c m) (hp:bP w ⟨4,tr,bn,bd,sn,sd,0,ok,l1,l2,l3⟩ ⟨a1,e1,a2,e2,a3,e3⟩) (hw:av.Wf ⟨4,tr,bn,bd,sn,sd,0,ok,l1,l2,l3⟩) (hr:dF ⟨4,tr,bn,bd,sn,sd,0,ok,l1,l2,l3⟩=true) (hask:dU ⟨4,tr,bn,bd,sn,sd,0,ok,l1,l2,l3⟩=true) (hpl:∀ a,A=some a→a.spot=none) (hlen:m.length≤1000000) (hri:dS m) (hnz:fA m) :
  Calls Tryz.prog 12 #[.slice A m.length c,aM ⟨4,tr,bn,bd,sn,sd,0,ok,l1,l2,l3⟩ ⟨a1,e1,a2,e2,a3,e3⟩] w (mJ w A m ⟨4,tr,bn,bd,sn,sd,0,ok,l1,l2,l3⟩):=by
 have HRow:=aj h
 have HRi:=aj (fun (W:World) (hb:Below w.heap.size w W)=>uS _ _ W (hp.below hb) hw)
 obtain ⟨hb,hw1,hw2,hsz⟩:=oU w (⟨4,tr,bn,bd,sn,sd,0,ok,l1,l2,l3⟩:av) (⟨a1,e1,a2,e2,a3,e3⟩:aT)
 obtain ⟨wa,hwa⟩:∃ wa:World,wa=((w.alloc (.cells #[.int .i64 4,.int .u64 (tr:Nat),.int .u64 (bn:Nat),.int .u64 (bd:Nat),.int .u64 (sn:Nat),.int .u64 (sd:Nat),.int .i64 0,.bool ok,.slice a1 l1.length e1,.slice a2 l2.length e2,.slice a3 l3.length e3] 41)).alloc (.cells #[.int .i64 0,.int .u64 0,.int .u64 0,.int .u64 0,.int .u64 0,.int .u64 0,.int .i64 0,.bool false,.slice none 0 0,.slice none 0 0,.slice none 0 0] 41)):=⟨_,rfl⟩
 rw [← hwa] at hb hw1 hw2 hsz
 have HWa:=aj hwa
 have HB:=aj hb
 have H1:=aj hw1
 have H2:=aj hw2
 have HSz:=aj hsz
 clear hwa
 obtain ⟨x0,x1,x2,x3,x4,x5,x6,x7,x8,x9,x10⟩:=dI H1.out
 clear hb hw1 hw2 hsz
 have HAsk:=aj hask
 rw [hr,show bY true=0 from rfl] at HRi
 have hkv:=ow hask
 have HTr:=aj (show tr<18446744073709551616 from hw.trace)
 have HGe:=aj (fun (W:World) (hb:Below w.heap.size w W)=>adp A m.length c m tr W (h.below hb))
 have HPu:=aj (fun (r:aF) (W:World) (hb:Below w.heap.size w W)=>adx A m.length c m tr r W (h.below hb) hpl hlen)
 have HNx:=aj (acH hri hnz hask)
 have HX:=aj (show dD m (⟨4,tr,bn,bd,sn,sd,0,ok,l1,l2,l3⟩:av)=(jZ (aA m tr) ⟨bn,bd⟩) from by
  show iW (aA m tr) ⟨bn,bd⟩ 0=_
  unfold iW
  rw [if_pos rfl])
 have HG:=aj (show iC m (⟨4,tr,bn,bd,sn,sd,0,ok,l1,l2,l3⟩:av)=(!fE (aA m tr) ⟨bn,bd⟩) from by
  show jB (aA m tr) ⟨bn,bd⟩ 0=_
  unfold jB
  rw [if_pos rfl])
 have HAn:=aj (show lN m (⟨4,tr,bn,bd,sn,sd,0,ok,l1,l2,l3⟩:av)=eZ (dD m (⟨4,tr,bn,bd,sn,sd,0,ok,l1,l2,l3⟩:av)) tr ⟨bn,bd⟩ (iC m (⟨4,tr,bn,bd,sn,sd,0,ok,l1,l2,l3⟩:av)) false from by
  show eZ (dD m (⟨4,tr,bn,bd,sn,sd,0,ok,l1,l2,l3⟩:av)) tr ⟨bn,bd⟩ (iC m (⟨4,tr,bn,bd,sn,sd,0,ok,l1,l2,l3⟩:av)) (decide (0≠0))=_
  rfl)
 have HCo:=aj (fun (W:World)=>akt (aA m tr) ⟨bn,bd⟩  W)
 clear h hp hw hr hask hkv hpl hlen hri hnz
 rw [← HX.out,← HG.out] at HCo
 generalize hqa:lN m (⟨4,tr,bn,bd,sn,sd,0,ok,l1,l2,l3⟩:av)=qa at *
 generalize hm9:nextR m (⟨4,tr,bn,bd,sn,sd,0,ok,l1,l2,l3⟩:av)=m9 at *
 have HQ:=aj (And.intro hqa hm9)
 clear hqa hm9
 generalize dD m (⟨4,tr,bn,bd,sn,sd,0,ok,l1,l2,l3⟩:av)=x at *
 generalize iC m (⟨4,tr,bn,bd,sn,sd,0,ok,l1,l2,l3⟩:av)=gr at *
 generalize aA m tr=old at *
 clear HX HG
 go_enter Tryz.func12,Tryz.ntmps12
 go_wp2_with fail
 try rw [← HWa.out]
 (with_reducible refine Calls.mono (HRi.out _ HB.out) ?_)
 rintro e w1 ⟨rfl,hb1⟩
 have H11:=aj (H1.out.below hb1 H1.out.lt)
 have H21:=aj (H2.out.below hb1 H2.out.lt)
 have HB1:=aj (HB.out.trans (hb1.mono HB.out.size))
 have HS1:=aj (show w.heap.size+2≤w1.heap.size by have:=hb1.size;rw [HSz.out] at this;exact this)
 clear x0 x1 x2 x3 x4 x5 x6 x7 x8 x9 x10
 obtain ⟨x0,x1,x2,x3,x4,x5,x6,x7,x8,x9,x10⟩:=dI H11.out
 clear hb1
 go_wp2_with fail
 (with_reducible refine Calls.mono (HGe.out _ HB1.out) ?_)
 rintro e w2 ⟨rfl,hb2⟩
 have h22:Below w1.heap.size w1 (w2.alloc (.cells (aQ old) 60)):=hb2.alloc hb2.size _
 have H12:=aj (H11.out.below h22 H11.out.lt)
 have H22:=aj (H21.out.below h22 H21.out.lt)
 have HB2:=aj (HB1.out.trans (h22.mono HB1.out.size))
 have H72:=aj (aP w2 60 (aQ old))
 have HS2:=aj (show w.heap.size+2≤w2.heap.size by have:=HS1.out;have:=hb2.size;omega)
 clear x0 x1 x2 x3 x4 x5 x6 x7 x8 x9 x10
 obtain ⟨x0,x1,x2,x3,x4,x5,x6,x7,x8,x9,x10⟩:=dI H12.out
 obtain ⟨y0,y1,y2,y3,y4⟩:=jE H72.out
 clear hb2 h22
 go_wp2_with fail
 (with_reducible refine Calls.mono (HCo.out _) ?_)
 rintro e w3 ⟨rfl,hb3⟩
 have H13:=aj (H12.out.below hb3 H12.out.lt)
 have H23:=aj (H22.out.below hb3 H22.out.lt)
 have H73:=aj (H72.out.below hb3 H72.out.lt)
 have HB3:=aj (HB2.out.trans (hb3.mono HB2.out.size))
 clear x0 x1 x2 x3 x4 x5 x6 x7 x8 x9 x10
 clear y0 y1 y2 y3 y4
 obtain ⟨x0,x1,x2,x3,x4,x5,x6,x7,x8,x9,x10⟩:=dI H13.out
 obtain ⟨y0,y1,y2,y3,y4⟩:=jE H73.out
 have f7:=fun i=>H73.out.free i
 clear hb3
 generalize w2.heap.size=g7 at *
 have hn1:¬ w.heap.size=g7:=by have:=HS2.out;omega
 have hn2:¬ g7=w.heap.size:=by have:=HS2.out;omega
 have HAw:=aj (fun (W:World)=>ade x tr ⟨bn,bd⟩ gr false W)
 rw [← HAn.out] at HAw
 cases gr
 ·have HM9:=aj (show m=m9 from by have:=HNx.out;rwa [if_neg (by decide)] at this)
  go_wp2_with fail
  have t4:=vB w3 g7 (.int .u64 (x.p.pos:Nat)) (.int .u64 (x.p.id:Nat)) (.int .u64 (x.t.pos:Nat)) (.int .u64 (x.t.id:Nat)) (.int .i64 x.v)
  have H14:=aj (H13.out.tn t4 (by have:=HS2.out;omega))
  have H24:=aj (H23.out.tn t4 (by have:=HS2.out;omega))
  have H74:=aj (kD H73.out (.int .u64 (x.p.pos:Nat)) (.int .u64 (x.p.id:Nat)) (.int .u64 (x.t.pos:Nat)) (.int .u64 (x.t.id:Nat)) (.int .i64 x.v))
  have HB4:=aj (eT HB3.out (show w.heap.size≤g7 by have:=HS2.out;omega) (.int .u64 (x.p.pos:Nat)) (.int .u64 (x.p.id:Nat)) (.int .u64 (x.t.pos:Nat)) (.int .u64 (x.t.id:Nat)) (.int .i64 x.v))
  have HG7:=aj H74.out.lt
  obtain ⟨w4,hw4⟩:∃ w4:World,w4=(((((w3.setCell ⟨g7,0,none⟩ (.int .u64 (x.p.pos:Nat))).setCell ⟨g7,1,none⟩ (.int .u64 (x.p.id:Nat))).setCell ⟨g7,2,none⟩ (.int .u64 (x.t.pos:Nat))).setCell ⟨g7,3,none⟩ (.int .u64 (x.t.id:Nat))).setCell ⟨g7,4,none⟩ (.int .i64 x.v)):=⟨_,rfl⟩
  rw [← hw4] at H14 H24 H74 HB4 HG7
  try rw [← hw4]
  clear t4 f7 hw4
  clear x0 x1 x2 x3 x4 x5 x6 x7 x8 x9 x10
  clear y0 y1 y2 y3 y4
  obtain ⟨x0,x1,x2,x3,x4,x5,x6,x7,x8,x9,x10⟩:=dI H14.out
  obtain ⟨y0,y1,y2,y3,y4⟩:=jE H74.out
  (with_reducible refine Calls.mono (HAw.out _) ?_)
  rintro e w9 ⟨rfl,hb9⟩
  have H29:=aj (H24.out.below hb9 H24.out.lt)
  have HB9:=aj (HB4.out.trans (hb9.mono HB4.out.size))
  have HBL:=aj hb9
  clear x0 x1 x2 x3 x4 x5 x6 x7 x8 x9 x10
  clear y0 y1 y2 y3 y4
  have f1:=fun i=>H29.out.free i
  obtain ⟨u0,u1,u2,u3,u4,u5,u6,u7,u8,u9,u10⟩:=dI H29.out
  clear hb9
  go_wp2_with fail
  obtain ⟨wz,hz,hwz,hbz⟩:=pJ H29.out HB9.out (Nat.le_succ _) (.int .i64 qa.kind) (.int .u64 (qa.trace:Nat)) (.int .u64 (qa.bn:Nat)) (.int .u64 (qa.aZ:Nat)) (.int .u64 (qa.sn:Nat)) (.int .u64 (qa.bM:Nat)) (.int .i64 qa.v) (.bool qa.ok) (.slice none qa.spans.length 0) (.slice none qa.members.length 0) (.slice none qa.ids.length 0)
  rw [← hz]
  obtain ⟨k0,k1,k2,k3,k4,k5,k6,k7,k8,k9,k10⟩:=dI hwz
  have HZ:=aj hbz
  clear hz hwz hbz
  exact bodyPost_ret (v := .tuple #[.slice A m.length c,aM qa noS,.bool true]) (by simp [results,Tryz.results12,go_sem,k0,k1,k2,k3,k4,k5,k6,k7,k8,k9,k10]) rfl (adr HRow.out HAsk.out (HM9.out.trans HQ.out.2.symm) HQ.out.1.symm HZ.out.1)
 ·have HM9:=aj (show bJ m tr x=m9 from by have:=HNx.out;rwa [if_pos rfl] at this)
  have HNe:=aj (show bJ m tr x≠[] from ac9)
  go_wp2_with fail
  have t4:=vB w3 g7 (.int .u64 (x.p.pos:Nat)) (.int .u64 (x.p.id:Nat)) (.int .u64 (x.t.pos:Nat)) (.int .u64 (x.t.id:Nat)) (.int .i64 x.v)
  have H14:=aj (H13.out.tn t4 (by have:=HS2.out;omega))
  have H24:=aj (H23.out.tn t4 (by have:=HS2.out;omega))
  have H74:=aj (kD H73.out (.int .u64 (x.p.pos:Nat)) (.int .u64 (x.p.id:Nat)) (.int .u64 (x.t.pos:Nat)) (.int .u64 (x.t.id:Nat)) (.int .i64 x.v))
  have HB4:=aj (eT HB3.out (show w.heap.size≤g7 by have:=HS2.out;omega) (.int .u64 (x.p.pos:Nat)) (.int .u64 (x.p.id:Nat)) (.int .u64 (x.t.pos:Nat)) (.int .u64 (x.t.id:Nat)) (.int .i64 x.v))
  have HG7:=aj H74.out.lt
  obtain ⟨w4,hw4⟩:∃ w4:World,w4=(((((w3.setCell ⟨g7,0,none⟩ (.int .u64 (x.p.pos:Nat))).setCell ⟨g7,1,none⟩ (.int .u64 (x.p.id:Nat))).setCell ⟨g7,2,none⟩ (.int .u64 (x.t.pos:Nat))).setCell ⟨g7,3,none⟩ (.int .u64 (x.t.id:Nat))).setCell ⟨g7,4,none⟩ (.int .i64 x.v)):=⟨_,rfl⟩
  rw [← hw4] at H14 H24 H74 HB4 HG7
  try rw [← hw4]
  clear t4 f7 hw4
  clear x0 x1 x2 x3 x4 x5 x6 x7 x8 x9 x10
  clear y0 y1 y2 y3 y4
  obtain ⟨x0,x1,x2,x3,x4,x5,x6,x7,x8,x9,x10⟩:=dI H14.out
  obtain ⟨y0,y1,y2,y3,y4⟩:=jE H74.out
  (with_reducible refine Calls.mono (HPu.out _ _ HB4.out) ?_)
  rintro e w5 ⟨A5,c5,rfl,ho5,hb5⟩
  have HO5:=aj ho5
  generalize bJ m tr x=m5 at *
  have H15:=aj (H14.out.below hb5 H14.out.lt)
  have H25:=aj (H24.out.below hb5 H24.out.lt)
  have H75:=aj (H74.out.below hb5 H74.out.lt)
  have HB5:=aj (HB4.out.trans (hb5.mono HB4.out.size))
  clear x0 x1 x2 x3 x4 x5 x6 x7 x8 x9 x10
  clear y0 y1 y2 y3 y4
  obtain ⟨x0,x1,x2,x3,x4,x5,x6,x7,x8,x9,x10⟩:=dI H15.out
  obtain ⟨y0,y1,y2,y3,y4⟩:=jE H75.out
  clear hb5 ho5
  go_wp2_with fail
  (with_reducible refine Calls.mono (HAw.out _) ?_)
  rintro e w9 ⟨rfl,hb9⟩
  have H29:=aj (H25.out.below hb9 H25.out.lt)
  have HB9:=aj (HB5.out.trans (hb9.mono HB5.out.size))
  have HBL:=aj hb9
  clear x0 x1 x2 x3 x4 x5 x6 x7 x8 x9 x10
  clear y0 y1 y2 y3 y4
  have f1:=fun i=>H29.out.free i
  obtain ⟨u0,u1,u2,u3,u4,u5,u6,u7,u8,u9,u10⟩:=dI H29.out
  clear hb9
  go_wp2_with fail
  obtain ⟨wz,hz,hwz,hbz⟩:=pJ H29.out HB9.out (Nat.le_succ _) (.int .i64 qa.kind) (.int .u64 (qa.trace:Nat)) (.int .u64 (qa.bn:Nat)) (.int .u64 (qa.aZ:Nat)) (.int .u64 (qa.sn:Nat)) (.int .u64 (qa.bM:Nat)) (.int .i64 qa.v) (.bool qa.ok) (.slice none qa.spans.length 0) (.slice none qa.members.length 0) (.slice none qa.ids.length 0)
  rw [← hz]
  obtain ⟨k0,k1,k2,k3,k4,k5,k6,k7,k8,k9,k10⟩:=dI hwz
  have HZ:=aj hbz
  clear hz hwz hbz
  exact bodyPost_ret (v := .tuple #[.slice A5 m5.length c5,aM qa noS,.bool true]) (by simp [results,Tryz.results12,go_sem,k0,k1,k2,k3,k4,k5,k6,k7,k8,k9,k10]) rfl (adq HO5.out HB4.out HAsk.out (HM9.out.trans HQ.out.2.symm) HNe.out HQ.out.1.symm HBL.out HZ.out.2 (by have:=HS2.out;have:=HG7.out;omega) HZ.out.1)
set_option maxRecDepth 100000 in
set_option maxHeartbeats 2000000 in
theorem aj8 (A:Option Addr) (c:Nat) (m:List au) (tr bn bd sn sd:Nat) (v:Int) (ok:Bool) (l1:List ay) (l2:List aJ) (l3:List Nat) (a1:Option Addr) (e1:Nat) (a2:Option Addr) (e2:Nat) (a3:Option Addr) (e3:Nat) (w:World) (h:bA.Row w A m.length c m) (hp:bP w ⟨6,tr,bn,bd,sn,sd,v,ok,l1,l2,l3⟩ ⟨a1,e1,a2,e2,a3,e3⟩) (hw:av.Wf ⟨6,tr,bn,bd,sn,sd,v,ok,l1,l2,l3⟩) (hr:dF ⟨6,tr,bn,bd,sn,sd,v,ok,l1,l2,l3⟩=true) (hask:dU ⟨6,tr,bn,bd,sn,sd,v,ok,l1,l2,l3⟩=true) (hpl:∀ a,A=some a→a.spot=none) (hlen:m.length≤1000000) (hri:dS m) (hnz:fA m) (hv0:v≠0) :
  Calls Tryz.prog 12 #[.slice A m.length c,aM ⟨6,tr,bn,bd,sn,sd,v,ok,l1,l2,l3⟩ ⟨a1,e1,a2,e2,a3,e3⟩] w (mJ w A m ⟨6,tr,bn,bd,sn,sd,v,ok,l1,l2,l3⟩):=by
 have HRow:=aj h
 have HRi:=aj (fun (W:World) (hb:Below w.heap.size w W)=>uS _ _ W (hp.below hb) hw)
 obtain ⟨hb,hw1,hw2,hsz⟩:=oU w (⟨6,tr,bn,bd,sn,sd,v,ok,l1,l2,l3⟩:av) (⟨a1,e1,a2,e2,a3,e3⟩:aT)
 obtain ⟨wa,hwa⟩:∃ wa:World,wa=((w.alloc (.cells #[.int .i64 6,.int .u64 (tr:Nat),.int .u64 (bn:Nat),.int .u64 (bd:Nat),.int .u64 (sn:Nat),.int .u64 (sd:Nat),.int .i64 v,.bool ok,.slice a1 l1.length e1,.slice a2 l2.length e2,.slice a3 l3.length e3] 41)).alloc (.cells #[.int .i64 0,.int .u64 0,.int .u64 0,.int .u64 0,.int .u64 0,.int .u64 0,.int .i64 0,.bool false,.slice none 0 0,.slice none 0 0,.slice none 0 0] 41)):=⟨_,rfl⟩
 rw [← hwa] at hb hw1 hw2 hsz
 have HWa:=aj hwa
 have HB:=aj hb
 have H1:=aj hw1
 have H2:=aj hw2
 have HSz:=aj hsz
 clear hwa
 obtain ⟨x0,x1,x2,x3,x4,x5,x6,x7,x8,x9,x10⟩:=dI H1.out
 clear hb hw1 hw2 hsz
 have HAsk:=aj hask
 rw [hr,show bY true=0 from rfl] at HRi
 have hkv:=ow hask
 have HTr:=aj (show tr<18446744073709551616 from hw.trace)
 have HGe:=aj (fun (W:World) (hb:Below w.heap.size w W)=>adp A m.length c m tr W (h.below hb))
 have HPu:=aj (fun (r:aF) (W:World) (hb:Below w.heap.size w W)=>adx A m.length c m tr r W (h.below hb) hpl hlen)
 have HNx:=aj (acH hri hnz hask)
 have HX:=aj (show dD m (⟨6,tr,bn,bd,sn,sd,v,ok,l1,l2,l3⟩:av)=(jO (aA m tr) ⟨bn,bd⟩ v) from by
  show iW (aA m tr) ⟨bn,bd⟩ v=_
  unfold iW
  rw [if_neg hv0])
 have HG:=aj (show iC m (⟨6,tr,bn,bd,sn,sd,v,ok,l1,l2,l3⟩:av)=(fu (aA m tr) ⟨bn,bd⟩ v) from by
  show jB (aA m tr) ⟨bn,bd⟩ v=_
  unfold jB
  rw [if_neg hv0])
 have HAn:=aj (show lN m (⟨6,tr,bn,bd,sn,sd,v,ok,l1,l2,l3⟩:av)=eZ (dD m (⟨6,tr,bn,bd,sn,sd,v,ok,l1,l2,l3⟩:av)) tr ⟨bn,bd⟩ (iC m (⟨6,tr,bn,bd,sn,sd,v,ok,l1,l2,l3⟩:av)) true from by
  show eZ (dD m (⟨6,tr,bn,bd,sn,sd,v,ok,l1,l2,l3⟩:av)) tr ⟨bn,bd⟩ (iC m (⟨6,tr,bn,bd,sn,sd,v,ok,l1,l2,l3⟩:av)) (decide (v≠0))=_
  rw [decide_eq_true hv0])
 have HCo:=aj (fun (W:World)=>ajg (aA m tr) ⟨bn,bd⟩ v W)
 clear h hp hw hr hask hkv hpl hlen hri hnz
 rw [← HX.out,← HG.out] at HCo
 generalize hqa:lN m (⟨6,tr,bn,bd,sn,sd,v,ok,l1,l2,l3⟩:av)=qa at *
 generalize hm9:nextR m (⟨6,tr,bn,bd,sn,sd,v,ok,l1,l2,l3⟩:av)=m9 at *
 have HQ:=aj (And.intro hqa hm9)
 clear hqa hm9
 generalize dD m (⟨6,tr,bn,bd,sn,sd,v,ok,l1,l2,l3⟩:av)=x at *
 generalize iC m (⟨6,tr,bn,bd,sn,sd,v,ok,l1,l2,l3⟩:av)=gr at *
 generalize aA m tr=old at *
 clear HX HG
 go_enter Tryz.func12,Tryz.ntmps12
 go_wp2_with fail
 try rw [← HWa.out]
 (with_reducible refine Calls.mono (HRi.out _ HB.out) ?_)
 rintro e w1 ⟨rfl,hb1⟩
 have H11:=aj (H1.out.below hb1 H1.out.lt)
 have H21:=aj (H2.out.below hb1 H2.out.lt)
 have HB1:=aj (HB.out.trans (hb1.mono HB.out.size))
 have HS1:=aj (show w.heap.size+2≤w1.heap.size by have:=hb1.size;rw [HSz.out] at this;exact this)
 clear x0 x1 x2 x3 x4 x5 x6 x7 x8 x9 x10
 obtain ⟨x0,x1,x2,x3,x4,x5,x6,x7,x8,x9,x10⟩:=dI H11.out
 clear hb1
 go_wp2_with fail
 (with_reducible refine Calls.mono (HGe.out _ HB1.out) ?_)
 rintro e w2 ⟨rfl,hb2⟩
 have h22:Below w1.heap.size w1 (w2.alloc (.cells (aQ old) 60)):=hb2.alloc hb2.size _
 have H12:=aj (H11.out.below h22 H11.out.lt)
 have H22:=aj (H21.out.below h22 H21.out.lt)
 have HB2:=aj (HB1.out.trans (h22.mono HB1.out.size))
 have H72:=aj (aP w2 60 (aQ old))
 have HS2:=aj (show w.heap.size+2≤w2.heap.size by have:=HS1.out;have:=hb2.size;omega)
 clear x0 x1 x2 x3 x4 x5 x6 x7 x8 x9 x10
 obtain ⟨x0,x1,x2,x3,x4,x5,x6,x7,x8,x9,x10⟩:=dI H12.out
 obtain ⟨y0,y1,y2,y3,y4⟩:=jE H72.out
 clear hb2 h22
 go_wp2_with fail
 (with_reducible refine Calls.mono (HCo.out _) ?_)
 rintro e w3 ⟨rfl,hb3⟩
 have H13:=aj (H12.out.below hb3 H12.out.lt)
 have H23:=aj (H22.out.below hb3 H22.out.lt)
 have H73:=aj (H72.out.below hb3 H72.out.lt)
 have HB3:=aj (HB2.out.trans (hb3.mono HB2.out.size))
 clear x0 x1 x2 x3 x4 x5 x6 x7 x8 x9 x10
 clear y0 y1 y2 y3 y4
 obtain ⟨x0,x1,x2,x3,x4,x5,x6,x7,x8,x9,x10⟩:=dI H13.out
 obtain ⟨y0,y1,y2,y3,y4⟩:=jE H73.out
 have f7:=fun i=>H73.out.free i
 clear hb3
 generalize w2.heap.size=g7 at *
 have hn1:¬ w.heap.size=g7:=by have:=HS2.out;omega
 have hn2:¬ g7=w.heap.size:=by have:=HS2.out;omega
 have HAw:=aj (fun (W:World)=>ade x tr ⟨bn,bd⟩ gr true W)
 rw [← HAn.out] at HAw
 cases gr
 ·have HM9:=aj (show m=m9 from by have:=HNx.out;rwa [if_neg (by decide)] at this)
  go_wp2_with fail
  have t4:=vB w3 g7 (.int .u64 (x.p.pos:Nat)) (.int .u64 (x.p.id:Nat)) (.int .u64 (x.t.pos:Nat)) (.int .u64 (x.t.id:Nat)) (.int .i64 x.v)
  have H14:=aj (H13.out.tn t4 (by have:=HS2.out;omega))
  have H24:=aj (H23.out.tn t4 (by have:=HS2.out;omega))
  have H74:=aj (kD H73.out (.int .u64 (x.p.pos:Nat)) (.int .u64 (x.p.id:Nat)) (.int .u64 (x.t.pos:Nat)) (.int .u64 (x.t.id:Nat)) (.int .i64 x.v))
  have HB4:=aj (eT HB3.out (show w.heap.size≤g7 by have:=HS2.out;omega) (.int .u64 (x.p.pos:Nat)) (.int .u64 (x.p.id:Nat)) (.int .u64 (x.t.pos:Nat)) (.int .u64 (x.t.id:Nat)) (.int .i64 x.v))
  have HG7:=aj H74.out.lt
  obtain ⟨w4,hw4⟩:∃ w4:World,w4=(((((w3.setCell ⟨g7,0,none⟩ (.int .u64 (x.p.pos:Nat))).setCell ⟨g7,1,none⟩ (.int .u64 (x.p.id:Nat))).setCell ⟨g7,2,none⟩ (.int .u64 (x.t.pos:Nat))).setCell ⟨g7,3,none⟩ (.int .u64 (x.t.id:Nat))).setCell ⟨g7,4,none⟩ (.int .i64 x.v)):=⟨_,rfl⟩
  rw [← hw4] at H14 H24 H74 HB4 HG7
  try rw [← hw4]
  clear t4 f7 hw4
  clear x0 x1 x2 x3 x4 x5 x6 x7 x8 x9 x10
  clear y0 y1 y2 y3 y4
  obtain ⟨x0,x1,x2,x3,x4,x5,x6,x7,x8,x9,x10⟩:=dI H14.out
  obtain ⟨y0,y1,y2,y3,y4⟩:=jE H74.out
  (with_reducible refine Calls.mono (HAw.out _) ?_)
  rintro e w9 ⟨rfl,hb9⟩
  have H29:=aj (H24.out.below hb9 H24.out.lt)
  have HB9:=aj (HB4.out.trans (hb9.mono HB4.out.size))
  have HBL:=aj hb9
  clear x0 x1 x2 x3 x4 x5 x6 x7 x8 x9 x10
  clear y0 y1 y2 y3 y4
  have f1:=fun i=>H29.out.free i
  obtain ⟨u0,u1,u2,u3,u4,u5,u6,u7,u8,u9,u10⟩:=dI H29.out
  clear hb9
  go_wp2_with fail
  obtain ⟨wz,hz,hwz,hbz⟩:=pJ H29.out HB9.out (Nat.le_succ _) (.int .i64 qa.kind) (.int .u64 (qa.trace:Nat)) (.int .u64 (qa.bn:Nat)) (.int .u64 (qa.aZ:Nat)) (.int .u64 (qa.sn:Nat)) (.int .u64 (qa.bM:Nat)) (.int .i64 qa.v) (.bool qa.ok) (.slice none qa.spans.length 0) (.slice none qa.members.length 0) (.slice none qa.ids.length 0)
  rw [← hz]
  obtain ⟨k0,k1,k2,k3,k4,k5,k6,k7,k8,k9,k10⟩:=dI hwz
  have HZ:=aj hbz
  clear hz hwz hbz
  exact bodyPost_ret (v := .tuple #[.slice A m.length c,aM qa noS,.bool true]) (by simp [results,Tryz.results12,go_sem,k0,k1,k2,k3,k4,k5,k6,k7,k8,k9,k10]) rfl (adr HRow.out HAsk.out (HM9.out.trans HQ.out.2.symm) HQ.out.1.symm HZ.out.1)
 ·have HM9:=aj (show bJ m tr x=m9 from by have:=HNx.out;rwa [if_pos rfl] at this)
  have HNe:=aj (show bJ m tr x≠[] from ac9)
  go_wp2_with fail
  have t4:=vB w3 g7 (.int .u64 (x.p.pos:Nat)) (.int .u64 (x.p.id:Nat)) (.int .u64 (x.t.pos:Nat)) (.int .u64 (x.t.id:Nat)) (.int .i64 x.v)
  have H14:=aj (H13.out.tn t4 (by have:=HS2.out;omega))
  have H24:=aj (H23.out.tn t4 (by have:=HS2.out;omega))
  have H74:=aj (kD H73.out (.int .u64 (x.p.pos:Nat)) (.int .u64 (x.p.id:Nat)) (.int .u64 (x.t.pos:Nat)) (.int .u64 (x.t.id:Nat)) (.int .i64 x.v))
  have HB4:=aj (eT HB3.out (show w.heap.size≤g7 by have:=HS2.out;omega) (.int .u64 (x.p.pos:Nat)) (.int .u64 (x.p.id:Nat)) (.int .u64 (x.t.pos:Nat)) (.int .u64 (x.t.id:Nat)) (.int .i64 x.v))
  have HG7:=aj H74.out.lt
  obtain ⟨w4,hw4⟩:∃ w4:World,w4=(((((w3.setCell ⟨g7,0,none⟩ (.int .u64 (x.p.pos:Nat))).setCell ⟨g7,1,none⟩ (.int .u64 (x.p.id:Nat))).setCell ⟨g7,2,none⟩ (.int .u64 (x.t.pos:Nat))).setCell ⟨g7,3,none⟩ (.int .u64 (x.t.id:Nat))).setCell ⟨g7,4,none⟩ (.int .i64 x.v)):=⟨_,rfl⟩
  rw [← hw4] at H14 H24 H74 HB4 HG7
  try rw [← hw4]
  clear t4 f7 hw4
  clear x0 x1 x2 x3 x4 x5 x6 x7 x8 x9 x10
  clear y0 y1 y2 y3 y4
  obtain ⟨x0,x1,x2,x3,x4,x5,x6,x7,x8,x9,x10⟩:=dI H14.out
  obtain ⟨y0,y1,y2,y3,y4⟩:=jE H74.out
  (with_reducible refine Calls.mono (HPu.out _ _ HB4.out) ?_)
  rintro e w5 ⟨A5,c5,rfl,ho5,hb5⟩
  have HO5:=aj ho5
  generalize bJ m tr x=m5 at *
  have H15:=aj (H14.out.below hb5 H14.out.lt)
  have H25:=aj (H24.out.below hb5 H24.out.lt)
  have H75:=aj (H74.out.below hb5 H74.out.lt)
  have HB5:=aj (HB4.out.trans (hb5.mono HB4.out.size))
  clear x0 x1 x2 x3 x4 x5 x6 x7 x8 x9 x10
  clear y0 y1 y2 y3 y4
  obtain ⟨x0,x1,x2,x3,x4,x5,x6,x7,x8,x9,x10⟩:=dI H15.out
  obtain ⟨y0,y1,y2,y3,y4⟩:=jE H75.out
  clear hb5 ho5
  go_wp2_with fail
  (with_reducible refine Calls.mono (HAw.out _) ?_)
  rintro e w9 ⟨rfl,hb9⟩
  have H29:=aj (H25.out.below hb9 H25.out.lt)
  have HB9:=aj (HB5.out.trans (hb9.mono HB5.out.size))
  have HBL:=aj hb9
  clear x0 x1 x2 x3 x4 x5 x6 x7 x8 x9 x10
  clear y0 y1 y2 y3 y4
  have f1:=fun i=>H29.out.free i
  obtain ⟨u0,u1,u2,u3,u4,u5,u6,u7,u8,u9,u10⟩:=dI H29.out
  clear hb9
  go_wp2_with fail
  obtain ⟨wz,hz,hwz,hbz⟩:=pJ H29.out HB9.out (Nat.le_succ _) (.int .i64 qa.kind) (.int .u64 (qa.trace:Nat)) (.int .u64 (qa.bn:Nat)) (.int .u64 (qa.aZ:Nat)) (.int .u64 (qa.sn:Nat)) (.int .u64 (qa.bM:Nat)) (.int .i64 qa.v) (.bool qa.ok) (.slice none qa.spans.length 0) (.slice none qa.members.length 0) (.slice none qa.ids.length 0)
  rw [← hz]
  obtain ⟨k0,k1,k2,k3,k4,k5,k6,k7,k8,k9,k10⟩:=dI hwz
  have HZ:=aj hbz
  clear hz hwz hbz
  exact bodyPost_ret (v := .tuple #[.slice A5 m5.length c5,aM qa noS,.bool true]) (by simp [results,Tryz.results12,go_sem,k0,k1,k2,k3,k4,k5,k6,k7,k8,k9,k10]) rfl (adq HO5.out HB4.out HAsk.out (HM9.out.trans HQ.out.2.symm) HNe.out HQ.out.1.symm HBL.out HZ.out.2 (by have:=HS2.out;have:=HG7.out;omega) HZ.out.1)
theorem aj9 (A:Option Addr) (n c:Nat) (m:List au) (p:av) (s:aT) (w:World) (h:bA.Row w A n c m) (hp:bP w p s) (hw:p.Wf) (hpl:∀ a,A=some a→a.spot=none) (hlen:m.length≤1000000) (hri:dS m) (hnz:fA m) :
  Calls Tryz.prog 12 #[.slice A n c,aM p s] w (mJ w A m p):=by
 obtain rfl:=h.len
 obtain ⟨kd,tr,bn,bd,sn,sd,v,ok,l1,l2,l3⟩:=p
 obtain ⟨a1,e1,a2,e2,a3,e3⟩:=s
 by_cases h4:kd=4
 ·subst h4
  rcases hr:dF ⟨4,tr,bn,bd,sn,sd,v,ok,l1,l2,l3⟩ with _ | _
  ·exact akb A c m tr bn bd sn sd v ok l1 l2 l3 a1 e1 a2 e2 a3 e3 w h hp hw hr
  ·have hask:dU ⟨4,tr,bn,bd,sn,sd,v,ok,l1,l2,l3⟩=true:=by unfold dU;rw [hr];rfl
   obtain ⟨-,-,h9⟩:=ow hask
   have hv:v=0:=by
    rcases h9 with h9 | h9
    ·exact h9.2
    ·exact absurd (show (4:Int)=6 from h9.1) (by decide)
   subst hv
   exact ake A c m tr bn bd sn sd ok l1 l2 l3 a1 e1 a2 e2 a3 e3 w h hp hw hr hask hpl hlen hri hnz
 ·by_cases h6:kd=6
  ·subst h6
   rcases hr:dF ⟨6,tr,bn,bd,sn,sd,v,ok,l1,l2,l3⟩ with _ | _
   ·exact akc A c m tr bn bd sn sd v ok l1 l2 l3 a1 e1 a2 e2 a3 e3 w h hp hw hr
   ·have hask:dU ⟨6,tr,bn,bd,sn,sd,v,ok,l1,l2,l3⟩=true:=by unfold dU;rw [hr];rfl
    obtain ⟨-,-,h9⟩:=ow hask
    have hv:v≠0:=by
     rcases h9 with h9 | h9
     ·exact absurd (show (6:Int)=4 from h9.1) (by decide)
     ·have h8:1≤v:=h9.2.1
      omega
    exact aj8 A c m tr bn bd sn sd v ok l1 l2 l3 a1 e1 a2 e2 a3 e3 w h hp hw hr hask hpl hlen hri hnz hv
  ·exact akd A c m kd tr bn bd sn sd v ok l1 l2 l3 a1 e1 a2 e2 a3 e3 w h h4 h6
end Rp
end Go.Proofs.YtpcmlopbkehffaaGreat
