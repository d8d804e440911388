/-
  A row of numbers (uint64) in a block, sorted in place: how it reads, an exchange, cmp.Less.
-/
import Derived.Test.YtpcmlopbkehffaaGreatOGAQ
import Derived.Sort.WalkA
import Derived.Sort.WalkB3
set_option linter.unusedSimpArgs false
set_option linter.unusedVariables false
namespace Go.Proofs.YtpcmlopbkehffaaGreat
open Go.RowKit Go.Sort
namespace Ns
structure NSt (B:Nat) (w0:World) (g off:Nat) (d:Array Nat) (W:World):Prop where
 bel:Below B w0 W
 at_:∀ k,k<d.size→W.cell? ⟨g,off+k,none⟩=some (.int .u64 (d[k]! : Nat))
 free:∀ o,W.frozen? ⟨g,o,none⟩=false
 old:B≤g
 lt:g<W.heap.size
theorem NSt.keep {B:Nat} {w0:World} {g off:Nat} {d:Array Nat} {W W':World} (h:NSt B w0 g off d W) (hb:Below W.heap.size W W') (hB:B≤W.heap.size):NSt B w0 g off d W' :=
 ⟨h.bel.trans (hb.mono hB),fun k hk=>by rw [hb.cell (p:=⟨g,off+k,none⟩) h.lt];exact h.at_ k hk,fun o=>by rw [hb.frozen (p:=⟨g,o,none⟩) h.lt];exact h.free o,h.old,Nat.lt_of_lt_of_le h.lt hb.size⟩
theorem NSt.base {B:Nat} {w0:World} {g off:Nat} {d:Array Nat} {W:World} (h:NSt B w0 g off d W):B≤W.heap.size:=Nat.le_trans h.old (Nat.le_of_lt h.lt)
theorem NSt.drewN {B:Nat} {w0:World} {g off:Nat} {d:Array Nat} {W:World} (h:NSt B w0 g off d W) (q:Nat):NSt B w0 g off d (W.drewN q):=h.keep (below_drewN (Below.refl _ _) q) h.base
theorem NSt.drew {B:Nat} {w0:World} {g off:Nat} {d:Array Nat} {W:World} (h:NSt B w0 g off d W):NSt B w0 g off d W.drew:=h.keep (Below.drew (Below.refl _ _)) h.base
theorem NSt.to {B:Nat} {w0:World} {g off:Nat} {d d':Array Nat} {W:World} (h:NSt B w0 g off d W) (e:d=d'):NSt B w0 g off d' W:=by subst e;exact h
theorem ae3 {w:World} {g o o':Nat} (v:Value) (h:o'≠o):(w.setCell ⟨g,o,none⟩ v).cell? ⟨g,o',none⟩=w.cell? ⟨g,o',none⟩ :=
 World.cell?_setCell_other w ⟨g,o,none⟩ ⟨g,o',none⟩ v (fun e=>by injection e with _ e;exact h e.symm)
theorem ae2 {w:World} {g o:Nat} {u:Value} (v:Value) (h:w.cell? ⟨g,o,none⟩=some u):(w.setCell ⟨g,o,none⟩ v).cell? ⟨g,o,none⟩=some v :=
 World.cell?_setCell_same w ⟨g,o,none⟩ v h
theorem NSt.put {B:Nat} {w0:World} {g off:Nat} {d:Array Nat} {W:World} (h:NSt B w0 g off d W) {k:Nat} (hk:k<d.size) (x:Nat):NSt B w0 g off (d.setIfInBounds k x) (W.setCell ⟨g,off+k,none⟩ (.int .u64 (x:Nat))):=by
 refine ⟨h.bel.setCell (p:=⟨g,off+k,none⟩) h.old _,fun j hj=>?_,fun o=>?_,h.old,?_⟩
 ·rw [Array.size_setIfInBounds] at hj
  by_cases e:k=j
  ·subst e
   rw [ae2 _ (h.at_ k hk)]
   simp [hk]
  ·rw [ae3 _ (by omega),h.at_ j hj]
   simp [hj,e]
 ·rw [World.frozen?_setCell];exact h.free o
 ·rw [World.size_setCell];exact h.lt
theorem NSt.swap {B:Nat} {w0:World} {g off:Nat} {d:Array Nat} {W:World} (h:NSt B w0 g off d W) {i j:Nat} (hi:i<d.size) (hj:j<d.size) :
  NSt B w0 g off (swp d i j) ((W.setCell ⟨g,off+i,none⟩ (.int .u64 (d[j]! : Nat))).setCell ⟨g,off+j,none⟩ (.int .u64 (d[i]! : Nat))).drew :=
 ((h.put hi d[j]!).put (k:=j) (by rw [Array.size_setIfInBounds];exact hj) d[i]!).drew
theorem size_swp (d:Array Nat) (i j:Nat):(swp d i j).size=d.size:=by unfold swp;rw [Array.size_setIfInBounds,Array.size_setIfInBounds]
def ltN (x y:Nat):Bool:=decide (x<y)
theorem qp:Go.Sort.SWO ltN where
 irrefl x:=by simp [ltN]
 trans x y z h1 h2:=by simp [ltN] at *;omega
 ntrans x y z h1 h2:=by simp [ltN] at *;omega
set_option maxHeartbeats 1000000 in
theorem dJ (x y:Nat) (w:World):Calls Tryz.prog 114 #[.int .u64 (x:Nat),.int .u64 (y:Nat)] w (fun e w'=>e = .returned (.bool (ltN x y))∧w'=w):=by
 have Hn:=aj (fun (z:Nat) W=>Rg.uD z W)
 cases hl:ltN x y
 ·have e1:decide (x<y)=false:=hl
  have Hl:=aj hl
  clear hl
  go_enter Tryz.func114,Tryz.ntmps114
  go_wp2_with (go_at_call 142;(with_reducible refine Calls.mono (Hn.out _ _) ?_);rintro e w' ⟨rfl,rfl⟩)
  go_ret
  exact ⟨by rfl,rfl⟩
 ·have e1:decide (x<y)=true:=hl
  have Hl:=aj hl
  clear hl
  go_enter Tryz.func114,Tryz.ntmps114
  go_wp2_with (go_at_call 142;(with_reducible refine Calls.mono (Hn.out _ _) ?_);rintro e w' ⟨rfl,rfl⟩)
  go_ret
  exact ⟨by rfl,rfl⟩
def o7 (B:Nat) (w0:World) (g off:Nat) (d:Array Nat) (e:Ending) (W:World):Prop:=e = .returned (.tuple #[])∧NSt B w0 g off d W
end Ns
end Go.Proofs.YtpcmlopbkehffaaGreat
namespace Go.Proofs.YtpcmlopbkehffaaGreat
open Go.RowKit Go.Sort
namespace Ns
set_option maxRecDepth 100000 in
set_option maxHeartbeats 4000000 in
theorem agp (B:Nat) (w0:World) (g off n c a b:Nat) (d:Array Nat) (w:World) (h:NSt B w0 g off d w) (hn:d.size=n) (hm:n≤1000000000) (hnc:n≤c) (hab:a≤b) (hb:b≤n) :
  Calls Tryz.prog 108 #[.slice (some ⟨g,off,none⟩) n c,.int .i64 (a:Nat),.int .i64 (b:Nat)] w (o7 B w0 g off (insertionSort ltN d a b)):=by
 have HN:=aj hn
 have H0:=aj h
 have Hl:=aj (fun (x y:Nat) W=>dJ x y W)
 clear h hn
 go_enter Tryz.func108,Tryz.ntmps108
 go_wp2_with fail
 go_loopw [6] (fun v6 wr=>∃ (i:Nat) (dk:Array Nat),v6 = .int .i64 i∧a<i∧i≤b+1∧Hid (dk.size=n)∧Hid (NSt B w0 g off dk wr)∧Hid (insOuter ltN a b i dk=insOuter ltN a b (a+1) d)) (fun v6 _=>b+1-(intOf v6).toNat)
 case atStart=>exact ⟨a+1,d,by go_num,by omega,by omega,HN,H0,aj rfl⟩
 case round =>
  obtain ⟨i,dk,rfl,hai,hib,HSk,HK,HO⟩:=hrel
  by_cases hlt:i<b
  ·have HLT:=aj hlt
   obtain ⟨wo,hwo⟩:∃ wo:World,wo=wr:=⟨_,rfl⟩
   subst hwo
   go_wp2_with fail
   go_loopw [7] (fun v7 wi=>∃ (j:Nat) (dj:Array Nat),v7 = .int .i64 j∧a≤j∧j≤i∧Hid (dj.size=n)∧Hid (NSt B w0 g off dj wi)∧Hid (insInner ltN a j dj=insInner ltN a i dk)) (fun v7 _=>(intOf v7).toNat)
   case atStart=>exact ⟨i,dk,rfl,by omega,Nat.le_refl _,HSk,HK,aj rfl⟩
   case round =>
    obtain ⟨j,dj,rfl,haj,hji,HSj,HJ,HI⟩:=hrel
    have Hout:=aj (fun (hs:j≤a∨ltN dj[j]! dj[j-1]! = false)=>(show insOuter ltN a b (i+1) dj=insOuter ltN a b (a+1) d by rw [← HO.out,insOuter_go _ _ _ _ _ HLT.out,← HI.out,insInner_stop _ _ _ _ hs]))
    by_cases hja:a<j
    ·have hc1:=HJ.out.at_ j (by have:=HSj.out;omega)
     have hc2:=HJ.out.at_ (j-1) (by have:=HSj.out;omega)
     have hf:=HJ.out.free
     have HSW:=aj (fun (W:World) (hW:NSt B w0 g off dj W)=>And.intro (hW.at_ j (by have:=HSj.out;omega)) (And.intro (hW.at_ (j-1) (by have:=HSj.out;omega)) (hW.swap (i:=j) (j:=j-1) (by have:=HSj.out;omega) (by have:=HSj.out;omega))))
     have Hgo:=aj (fun hl=>insInner_go (lt:=ltN) a j dj hja hl)
     generalize dj[j]! = x at *
     generalize dj[j-1]! = y at *
     have e1:decide ((j:Int)>(a:Int))=true:=decide_eq_true (by omega)
     have e2:decide ((a:Int)<(j:Int))=true:=decide_eq_true (by omega)
     have e3:decide (a<j)=true:=decide_eq_true hja
     have m1:(0:Int)≤(j:Int):=by omega
     have m2:(j:Int)<(n:Int):=by omega
     have m3:(0:Int)≤(j:Int)-1:=by omega
     have m4:(j:Int)-1<(n:Int):=by omega
     have m5:(1:Int)≤(j:Int):=by omega
     have m6:((j:Int)-1).toNat=j-1:=by omega
     cases hl:ltN x y
     ·have Hlv:=aj (fun W=>dJ x y W)
      rw [hl] at Hlv
      have Hov:=aj (Hout.out (.inr hl))
      clear hl hf
      go_wp2_with fail
      go_quiet ((go_at_call 114;exact Calls.quiet_of_same (Hlv.out _)))
      go_wp2_with fail
      go_roundw
      case rel=>exact ⟨i+1,dj,by go_num,by omega,by have:=HLT.out;omega,HSj,aj (HJ.out.drewN _),Hov⟩
      case measure=>have:=HLT.out;simp [intOf];omega
     ·have Hlv:=aj (fun W=>dJ x y W)
      rw [hl] at Hlv
      have Hgv:=aj (Hgo.out hl)
      clear hl
      have HF:=aj hf
      clear hf
      go_wp2_with fail
      go_quiet ((go_at_call 114;exact Calls.quiet_of_same (Hlv.out _)))
      have HQ:=aj (HJ.out.drewN nq)
      clear hc1 hc2
      generalize wr.drewN nq=wq at *
      obtain ⟨hc1,hc2,hsw⟩:=HSW.out wq HQ.out
      have HS:=aj hsw
      have hf1:=HQ.out.free
      have hgl:g<wq.heap.size:=HQ.out.lt
      clear hsw
      go_wp2_with fail
      go_region
      go_wp2_with fail
      go_roundw
      case rel=>exact ⟨j-1,swp dj j (j-1),by first | go_num | (congr 1;omega),by omega,by omega,aj (by rw [size_swp];exact HSj.out),HS,aj (by rw [← Hgv.out];exact HI.out)⟩
      case measure=>simp [intOf];omega
    ·obtain rfl:j=a:=by omega
     have e1:decide ((j:Int)>(j:Int))=false:=decide_eq_false (by omega)
     have e2:decide ((j:Int)<(j:Int))=false:=decide_eq_false (by omega)
     have e3:decide (j<j)=false:=decide_eq_false (by omega)
     have Hov:=aj (Hout.out (.inl (Nat.le_refl _)))
     go_wp2_with fail
     go_quiet (fail)
     go_wp2_with fail
     go_roundw
     case rel=>exact ⟨i+1,dj,by go_num,by omega,by have:=HLT.out;omega,HSj,aj (HJ.out.drewN _),Hov⟩
     case measure=>have:=HLT.out;simp [intOf];omega
  ·have Hend:=aj (show NSt B w0 g off (insertionSort ltN d a b) wr from HK.out.to (by rw [show insertionSort ltN d a b=insOuter ltN a b (a+1) d from rfl,← HO.out,insOuter_stop _ _ _ _ _ hlt]))
   go_wp2_with fail
   go_end0
   exact ⟨rfl,Hend.out⟩
end Ns
end Go.Proofs.YtpcmlopbkehffaaGreat
namespace Go.Proofs.YtpcmlopbkehffaaGreat
open Go.RowKit Go.Sort
namespace Ns
set_option maxRecDepth 100000 in
set_option maxHeartbeats 1000000 in
theorem zG (B:Nat) (w0:World) (g off n c lo hi F:Nat) (d:Array Nat) (w:World) (h:NSt B w0 g off d w) (hn:d.size=n) (hm:n≤1000000000) (hnc:n≤c) (hlo:lo≤n) (hF:F+hi≤n) :
  Calls Tryz.prog 137 #[.slice (some ⟨g,off,none⟩) n c,.int .i64 (lo:Nat),.int .i64 (hi:Nat),.int .i64 (F:Nat)] w (o7 B w0 g off (siftDown ltN hi F lo d)):=by
 have HN:=aj hn
 have H0:=aj h
 clear h hn
 go_enter Tryz.func137,Tryz.ntmps137
 go_wp2_with fail
 go_loopw [8] (fun v8 wr=>∃ (root:Nat) (dk:Array Nat),v8 = .int .i64 root∧root≤n∧Hid (dk.size=n)∧Hid (NSt B w0 g off dk wr)∧Hid (siftDown ltN hi F root dk=siftDown ltN hi F lo d)) (fun v8 _=>hi-(intOf v8).toNat)
 case atStart=>exact ⟨lo,d,rfl,hlo,HN,H0,aj rfl⟩
 case round =>
  obtain ⟨root,dk,rfl,hr,HSk,HK,HR⟩:=hrel
  by_cases h0:2*root+1<hi
  ·have e1:decide (2*(root:Int)+1 ≥ (hi:Int))=false:=decide_eq_false (by omega)
   have e2:decide ((hi:Int)≤2*(root:Int)+1)=false:=decide_eq_false (by omega)
   by_cases h1:2*root+2<hi
   ·have e3:decide (2*(root:Int)+1+1<(hi:Int))=true:=decide_eq_true (by omega)
    have p1:(0:Int)≤(F:Int)+(2*(root:Int)+1):=by omega
    have p2:(F:Int)+(2*(root:Int)+1)<(n:Int):=by omega
    have p3:((F:Int)+(2*(root:Int)+1)).toNat=F+(2*root+1):=by omega
    have p4:(0:Int)≤(F:Int)+(2*(root:Int)+1)+1:=by omega
    have p5:(F:Int)+(2*(root:Int)+1)+1<(n:Int):=by omega
    have p6:((F:Int)+(2*(root:Int)+1)+1).toNat=F+(2*root+2):=by omega
    have hc1:=HK.out.at_ (F+(2*root+1)) (by have:=HSk.out;omega)
    have hc2:=HK.out.at_ (F+(2*root+2)) (by have:=HSk.out;omega)
    cases h2:ltN dk[F+(2*root+1)]! dk[F+(2*root+2)]!
    ·have Hlw:=aj (fun W=>dJ dk[F+(2*root+1)]! dk[F+(2*root+2)]! W)
     rw [h2] at Hlw
     have H12:=aj (show 2*root+2<hi→ltN dk[F+(2*root+1)]! dk[F+(2*root+2)]! = false from fun _=>h2)
     clear h2
     have hs1:F+root<dk.size:=by have:=HSk.out;omega
     have hs2:F+(2*root+1)<dk.size:=by have:=HSk.out;omega
     have HC:=aj (fun (W:World) (hW:NSt B w0 g off dk W)=>And.intro (hW.at_ (F+root) hs1) (And.intro (hW.at_ (F+(2*root+1)) hs2) (And.intro hW.free (And.intro hW.lt (hW.swap (i:=F+root) (j:=F+(2*root+1)) hs1 hs2)))))
     have Hgo:=aj (fun h3=>sd_left_go (lt:=ltN) (F:=F) dk h0 H12.out h3)
     have Hst:=aj (fun h3=>sd_left_stop (lt:=ltN) (F:=F) dk h0 H12.out h3)
     have n1:(0:Int)≤(F:Int)+(root:Int):=by omega
     have n2:(F:Int)+(root:Int)<(n:Int):=by omega
     have n3:((F:Int)+(root:Int)).toNat=F+root:=by omega
     have n4:(0:Int)≤(F:Int)+(2*(root:Int)+1):=by omega
     have n5:(F:Int)+(2*(root:Int)+1)<(n:Int):=by omega
     have n6:((F:Int)+(2*(root:Int)+1)).toNat=F+(2*root+1):=by omega
     have hne:¬ F+root=F+(2*root+1):=by omega
     have hne2:¬ F+(2*root+1)=F+root:=by omega
     clear hs1 hs2
     go_wp2_with fail
     go_quiet ((go_at_call 114;exact Calls.quiet_of_same (Hlw.out _)))
     clear hc1 hc2
     have Hq:=aj (HK.out.drewN nq)
     generalize wr.drewN nq=wq at *
     obtain ⟨hc1,hc2,hf1,hgl,hsw⟩:=HC.out wq Hq.out
     have HS:=aj hsw
     have HF:=aj hf1
     clear hsw hf1
     generalize dk[F+root]! = x at *
     generalize dk[F+(2*root+1)]! = y at *
     cases hl:ltN x y
     ·have Hlv:=aj (fun W=>dJ x y W)
      rw [hl] at Hlv
      have Hov:=aj (Hst.out hl)
      clear hl
      go_wp2_with fail
      go_quiet ((go_at_call 114;exact Calls.quiet_of_same (Hlv.out _)))
      go_wp2_with fail
      go_end0
      exact ⟨rfl,(Hq.out.drewN _).to (by rw [← HR.out,Hov.out])⟩
     ·have Hlv:=aj (fun W=>dJ x y W)
      rw [hl] at Hlv
      have Hgv:=aj (Hgo.out hl)
      clear hl
      go_wp2_with fail
      go_quiet ((go_at_call 114;exact Calls.quiet_of_same (Hlv.out _)))
      have Hx:=aj (Hq.out.drewN nq)
      clear hc1 hc2
      generalize wq.drewN nq=wz at *
      obtain ⟨hc1,hc2,hf1,hgl2,hsw⟩:=HC.out wz Hx.out
      have HS2:=aj hsw
      clear hsw
      go_wp2_with fail
      go_region
      go_wp2_with fail
      go_roundw
      case rel=>exact ⟨(2*root+1),swp dk (F+root) (F+(2*root+1)),by first | go_num | (congr 1;omega),by omega,aj (by rw [size_swp];exact HSk.out),HS2,aj (by rw [← Hgv.out];exact HR.out)⟩
      case measure=>simp [intOf];omega
    ·have Hlw:=aj (fun W=>dJ dk[F+(2*root+1)]! dk[F+(2*root+2)]! W)
     rw [h2] at Hlw
     have H2:=aj h2
     clear h2
     have hs1:F+root<dk.size:=by have:=HSk.out;omega
     have hs2:F+(2*root+2)<dk.size:=by have:=HSk.out;omega
     have HC:=aj (fun (W:World) (hW:NSt B w0 g off dk W)=>And.intro (hW.at_ (F+root) hs1) (And.intro (hW.at_ (F+(2*root+2)) hs2) (And.intro hW.free (And.intro hW.lt (hW.swap (i:=F+root) (j:=F+(2*root+2)) hs1 hs2)))))
     have Hgo:=aj (fun h3=>sd_right_go (lt:=ltN) (F:=F) dk h1 H2.out h3)
     have Hst:=aj (fun h3=>sd_right_stop (lt:=ltN) (F:=F) dk h1 H2.out h3)
     have n1:(0:Int)≤(F:Int)+(root:Int):=by omega
     have n2:(F:Int)+(root:Int)<(n:Int):=by omega
     have n3:((F:Int)+(root:Int)).toNat=F+root:=by omega
     have n4:(0:Int)≤(F:Int)+(2*(root:Int)+1+1):=by omega
     have n5:(F:Int)+(2*(root:Int)+1+1)<(n:Int):=by omega
     have n6:((F:Int)+(2*(root:Int)+1+1)).toNat=F+(2*root+2):=by omega
     have hne:¬ F+root=F+(2*root+2):=by omega
     have hne2:¬ F+(2*root+2)=F+root:=by omega
     clear hs1 hs2
     go_wp2_with fail
     go_quiet ((go_at_call 114;exact Calls.quiet_of_same (Hlw.out _)))
     clear hc1 hc2
     have Hq:=aj (HK.out.drewN nq)
     generalize wr.drewN nq=wq at *
     obtain ⟨hc1,hc2,hf1,hgl,hsw⟩:=HC.out wq Hq.out
     have HS:=aj hsw
     have HF:=aj hf1
     clear hsw hf1
     generalize dk[F+root]! = x at *
     generalize dk[F+(2*root+2)]! = y at *
     cases hl:ltN x y
     ·have Hlv:=aj (fun W=>dJ x y W)
      rw [hl] at Hlv
      have Hov:=aj (Hst.out hl)
      clear hl
      go_wp2_with fail
      go_quiet ((go_at_call 114;exact Calls.quiet_of_same (Hlv.out _)))
      go_wp2_with fail
      go_end0
      exact ⟨rfl,(Hq.out.drewN _).to (by rw [← HR.out,Hov.out])⟩
     ·have Hlv:=aj (fun W=>dJ x y W)
      rw [hl] at Hlv
      have Hgv:=aj (Hgo.out hl)
      clear hl
      go_wp2_with fail
      go_quiet ((go_at_call 114;exact Calls.quiet_of_same (Hlv.out _)))
      have Hx:=aj (Hq.out.drewN nq)
      clear hc1 hc2
      generalize wq.drewN nq=wz at *
      obtain ⟨hc1,hc2,hf1,hgl2,hsw⟩:=HC.out wz Hx.out
      have HS2:=aj hsw
      clear hsw
      go_wp2_with fail
      go_region
      go_wp2_with fail
      go_roundw
      case rel=>exact ⟨(2*root+2),swp dk (F+root) (F+(2*root+2)),by first | go_num | (congr 1;omega),by omega,aj (by rw [size_swp];exact HSk.out),HS2,aj (by rw [← Hgv.out];exact HR.out)⟩
      case measure=>simp [intOf];omega
   ·have e3:decide (2*(root:Int)+1+1<(hi:Int))=false:=decide_eq_false (by omega)
    have H12:=aj (show 2*root+2<hi→ltN dk[F+(2*root+1)]! dk[F+(2*root+2)]! = false from fun h=>absurd h h1)
    have hs1:F+root<dk.size:=by have:=HSk.out;omega
    have hs2:F+(2*root+1)<dk.size:=by have:=HSk.out;omega
    have HC:=aj (fun (W:World) (hW:NSt B w0 g off dk W)=>And.intro (hW.at_ (F+root) hs1) (And.intro (hW.at_ (F+(2*root+1)) hs2) (And.intro hW.free (And.intro hW.lt (hW.swap (i:=F+root) (j:=F+(2*root+1)) hs1 hs2)))))
    have Hgo:=aj (fun h3=>sd_left_go (lt:=ltN) (F:=F) dk h0 H12.out h3)
    have Hst:=aj (fun h3=>sd_left_stop (lt:=ltN) (F:=F) dk h0 H12.out h3)
    have n1:(0:Int)≤(F:Int)+(root:Int):=by omega
    have n2:(F:Int)+(root:Int)<(n:Int):=by omega
    have n3:((F:Int)+(root:Int)).toNat=F+root:=by omega
    have n4:(0:Int)≤(F:Int)+(2*(root:Int)+1):=by omega
    have n5:(F:Int)+(2*(root:Int)+1)<(n:Int):=by omega
    have n6:((F:Int)+(2*(root:Int)+1)).toNat=F+(2*root+1):=by omega
    have hne:¬ F+root=F+(2*root+1):=by omega
    have hne2:¬ F+(2*root+1)=F+root:=by omega
    clear hs1 hs2
    go_wp2_with fail
    go_quiet (fail)
    have Hq:=aj (HK.out.drewN nq)
    generalize wr.drewN nq=wq at *
    obtain ⟨hc1,hc2,hf1,hgl,hsw⟩:=HC.out wq Hq.out
    have HS:=aj hsw
    have HF:=aj hf1
    clear hsw hf1
    generalize dk[F+root]! = x at *
    generalize dk[F+(2*root+1)]! = y at *
    cases hl:ltN x y
    ·have Hlv:=aj (fun W=>dJ x y W)
     rw [hl] at Hlv
     have Hov:=aj (Hst.out hl)
     clear hl
     go_wp2_with fail
     go_quiet ((go_at_call 114;exact Calls.quiet_of_same (Hlv.out _)))
     go_wp2_with fail
     go_end0
     exact ⟨rfl,(Hq.out.drewN _).to (by rw [← HR.out,Hov.out])⟩
    ·have Hlv:=aj (fun W=>dJ x y W)
     rw [hl] at Hlv
     have Hgv:=aj (Hgo.out hl)
     clear hl
     go_wp2_with fail
     go_quiet ((go_at_call 114;exact Calls.quiet_of_same (Hlv.out _)))
     have Hx:=aj (Hq.out.drewN nq)
     clear hc1 hc2
     generalize wq.drewN nq=wz at *
     obtain ⟨hc1,hc2,hf1,hgl2,hsw⟩:=HC.out wz Hx.out
     have HS2:=aj hsw
     clear hsw
     go_wp2_with fail
     go_region
     go_wp2_with fail
     go_roundw
     case rel=>exact ⟨(2*root+1),swp dk (F+root) (F+(2*root+1)),by first | go_num | (congr 1;omega),by omega,aj (by rw [size_swp];exact HSk.out),HS2,aj (by rw [← Hgv.out];exact HR.out)⟩
     case measure=>simp [intOf];omega
  ·have Hend:=aj (show NSt B w0 g off (siftDown ltN hi F lo d) wr from HK.out.to (by rw [← HR.out,sd_end _ _ (by omega)]))
   have e1:decide (2*(root:Int)+1 ≥ (hi:Int))=true:=decide_eq_true (by omega)
   have e2:decide ((hi:Int)≤2*(root:Int)+1)=true:=decide_eq_true (by omega)
   go_wp2_with fail
   go_end0
   exact ⟨rfl,Hend.out⟩
end Ns
end Go.Proofs.YtpcmlopbkehffaaGreat
namespace Go.Proofs.YtpcmlopbkehffaaGreat
open Go.RowKit Go.Sort
namespace Ns
theorem zH (hi F root:Nat) (d:Array Nat):(siftDown ltN hi F root d).size=d.size:=size_siftDown ltN hi F (hi-root) root d (Nat.le_refl _)
set_option maxRecDepth 100000 in
set_option maxHeartbeats 4000000 in
theorem agf (B:Nat) (w0:World) (g off n c a b:Nat) (d:Array Nat) (w:World) (h:NSt B w0 g off d w) (hn:d.size=n) (hm:n≤1000000000) (hnc:n≤c) (hab:a<b) (hb:b≤n) :
  Calls Tryz.prog 109 #[.slice (some ⟨g,off,none⟩) n c,.int .i64 (a:Nat),.int .i64 (b:Nat)] w (o7 B w0 g off (heapSort ltN d a b)):=by
 have HN:=aj hn
 have H0:=aj h
 clear h hn
 obtain ⟨L,hL⟩:∃ L:Nat,b=a+L:=⟨b-a,by omega⟩
 have hLI:((b:Int)-(a:Int))=(L:Int):=by omega
 have HDef:=aj (show heapSort ltN d a b=heapPop ltN a L (heapBuild ltN L a ((L-1) / 2+1) d) by unfold heapSort;rw [show b-a=L by omega])
 have hL1:1≤L:=by omega
 have hLn:a+L≤n:=by omega
 have q1:(1:Int)≤(L:Int):=by omega
 have q2:(0:Int)≤(L:Int)-1:=by omega
 have HLe:=aj hL
 clear hL
 go_enter Tryz.func109,Tryz.ntmps109
 go_wp2_with fail
 go_loopw [9] (fun v9 wr=>∃ (k:Nat) (z:Int) (dk:Array Nat),v9 = .int .i64 z∧Hid (z+1=(k:Int))∧k≤L∧Hid (dk.size=n)∧Hid (NSt B w0 g off dk wr)∧Hid (heapBuild ltN L a k dk=heapBuild ltN L a ((L-1) / 2+1) d)) (fun v9 _=>(intOf v9+1).toNat)
 case atStart=>exact ⟨(L-1) / 2+1,((L:Int)-1) / 2,d,rfl,aj (by omega),by omega,HN,H0,aj rfl⟩
 case round =>
  obtain ⟨k,z,dk,rfl,HZ,hk,HSk,HK,HR⟩:=hrel
  rcases k with _ | k
  ·obtain rfl:z = -1:=by have:=HZ.out;omega
   obtain ⟨wz,hwz⟩:∃ wz:World,wz=wr:=⟨_,rfl⟩
   subst hwz
   go_wp2_with fail
   go_loopw [10] (fun v10 wi=>∃ (k:Nat) (z:Int) (dj:Array Nat),v10 = .int .i64 z∧Hid (z+1=(k:Int))∧k≤L∧Hid (dj.size=n)∧Hid (NSt B w0 g off dj wi)∧Hid (heapPop ltN a k dj=heapPop ltN a L dk)) (fun v10 _=>(intOf v10+1).toNat)
   case atStart=>exact ⟨L,(L:Int)-1,dk,rfl,aj (by omega),by omega,HSk,HK,aj rfl⟩
   case round =>
    obtain ⟨k,z,dj,rfl,HZ2,hk2,HSj,HJ,HR2⟩:=hrel
    rcases k with _ | k
    ·obtain rfl:z = -1:=by have:=HZ2.out;omega
     have Hend:=aj (show NSt B w0 g off (heapSort ltN d a b) wr from HJ.out.to (by rw [HDef.out,← HR.out];exact HR2.out))
     go_wp2_with fail
     go_end0
     exact ⟨rfl,Hend.out⟩
    ·obtain rfl:z=(k:Int):=by have:=HZ2.out;omega
     have hs1:a<dj.size:=by have:=HSj.out;omega
     have hs2:a+k<dj.size:=by have:=HSj.out;omega
     rcases Nat.eq_zero_or_pos k with h0 | h0
     ·subst h0
      have hc1:=HJ.out.at_ a hs1
      have hf1:=HJ.out.free
      have hgl:=HJ.out.lt
      have HS:=aj (HJ.out.swap (i:=a) (j:=a) hs1 hs1)
      clear hs1 hs2
      generalize dj[a]! = x at *
      have m1:(0:Int)≤(a:Int):=by omega
      have m2:(a:Int)<(n:Int):=by omega
      have m3:((0:Nat):Int)=0:=rfl
      have m4:(a:Int)+((0:Nat):Int)=(a:Int):=by omega
      have m5:(a:Int)+0=(a:Int):=by omega
      go_wp2_with fail
      go_region
      go_wp2_with fail
      have hs:=HS.out
      generalize (((wr.setCell ⟨g,off+a,none⟩ (.int .u64 (x:Nat))).setCell ⟨g,off+a,none⟩ (.int .u64 (x:Nat))).drew)=wq at *
      refine Calls.mono (zG B w0 g off n c 0 0 a (swp dj a a) wq hs (by rw [size_swp];exact HSj.out) hm hnc (by omega) (by omega)) ?_
      rintro e w1 ⟨rfl,hst⟩
      have HST:=aj hst
      clear hst hs
      go_wp2_with fail
      go_roundw
      case rel=>exact ⟨0,-1,siftDown ltN 0 a 0 (swp dj a a),by first | rfl | simp,aj (by omega),by omega,aj (by rw [zH,size_swp];exact HSj.out),HST,aj HR2.out⟩
      case measure=>simp [intOf]
     have hc1:=HJ.out.at_ a hs1
     have hc2:=HJ.out.at_ (a+k) hs2
     have hf1:=HJ.out.free
     have hgl:=HJ.out.lt
     have HS:=aj (HJ.out.swap (i:=a) (j:=a+k) hs1 hs2)
     clear hs1 hs2
     generalize dj[a]! = x at *
     generalize dj[a+k]! = y at *
     have m1:(0:Int)≤(a:Int):=by omega
     have m2:(a:Int)<(n:Int):=by omega
     have m3:(0:Int)≤(a:Int)+(k:Int):=by omega
     have m4:(a:Int)+(k:Int)<(n:Int):=by omega
     have m5:((a:Int)+(k:Int)).toNat=a+k:=by omega
     have m6:(0:Int)≤(k:Int):=by omega
     have hne:¬ a=a+k:=by omega
     have hne2:¬ a+k=a:=by omega
     have HH0:=aj h0
     clear h0
     go_wp2_with fail
     go_region
     go_wp2_with fail
     have hs:=HS.out
     generalize (((wr.setCell ⟨g,off+a,none⟩ (.int .u64 (y:Nat))).setCell ⟨g,off+(a+k),none⟩ (.int .u64 (x:Nat))).drew)=wq at *
     refine Calls.mono (zG B w0 g off n c 0 k a (swp dj a (a+k)) wq hs (by rw [size_swp];exact HSj.out) hm hnc (by omega) (by omega)) ?_
     rintro e w1 ⟨rfl,hst⟩
     have HST:=aj hst
     clear hst hs
     go_wp2_with fail
     go_roundw
     case rel=>exact ⟨k,(k:Int)-1,siftDown ltN k a 0 (swp dj a (a+k)),rfl,aj (by omega),by omega,aj (by rw [zH,size_swp];exact HSj.out),HST,aj HR2.out⟩
     case measure=>simp [intOf]
  ·obtain rfl:z=(k:Int):=by have:=HZ.out;omega
   have m6:(0:Int)≤(k:Int):=by omega
   go_wp2_with fail
   refine Calls.mono (zG B w0 g off n c k L a dk wr HK.out HSk.out hm hnc (by omega) hLn) ?_
   rintro e w1 ⟨rfl,hst⟩
   have HST:=aj hst
   clear hst
   go_wp2_with fail
   go_roundw
   case rel=>exact ⟨k,(k:Int)-1,siftDown ltN L a k dk,rfl,aj (by omega),by omega,aj (by rw [zH];exact HSk.out),HST,aj HR.out⟩
   case measure=>simp [intOf]
end Ns
end Go.Proofs.YtpcmlopbkehffaaGreat
namespace Go.Proofs.YtpcmlopbkehffaaGreat
open Go.RowKit Go.Sort
namespace Ns
theorem aj5 (i j:Nat) (d:Array Nat) (h:i<j):reverseLoop i j d=reverseLoop (i+1) (j-1) (swp d i j):=by rw [reverseLoop,if_pos h]
theorem aj6 (i j:Nat) (d:Array Nat) (h:¬ i<j):reverseLoop i j d=d:=by rw [reverseLoop,if_neg h]
set_option maxRecDepth 100000 in
set_option maxHeartbeats 4000000 in
theorem aj4 (B:Nat) (w0:World) (g off n c a b:Nat) (d:Array Nat) (w:World) (h:NSt B w0 g off d w) (hn:d.size=n) (hm:n≤1000000000) (hnc:n≤c) (hab:a<b) (hb:b≤n) :
  Calls Tryz.prog 112 #[.slice (some ⟨g,off,none⟩) n c,.int .i64 (a:Nat),.int .i64 (b:Nat)] w (o7 B w0 g off (reverseRange d a b)):=by
 have HN:=aj hn
 have H0:=aj h
 clear h hn
 go_enter Tryz.func112,Tryz.ntmps112
 go_wp2_with fail
 go_loopw [6,7] (fun v6 v7 wr=>∃ (i j:Nat) (dk:Array Nat),v6 = .int .i64 i∧v7 = .int .i64 j∧i≤n∧j<n∧Hid (dk.size=n)∧Hid (NSt B w0 g off dk wr)∧Hid (reverseLoop i j dk=reverseLoop a (b-1) d)) (fun v6 v7 _=>(intOf v7-intOf v6).toNat)
 case atStart=>exact ⟨a,b-1,d,rfl,by first | go_num | (congr 1;omega),by omega,by omega,HN,H0,aj rfl⟩
 case round =>
  obtain ⟨i,j,dk,rfl,rfl,hi,hj,HSk,HK,HR⟩:=hrel
  by_cases hlt:i<j
  ·have hc1:=HK.out.at_ i (by have:=HSk.out;omega)
   have hc2:=HK.out.at_ j (by have:=HSk.out;omega)
   have hf1:=HK.out.free
   have hgl:=HK.out.lt
   have HS:=aj (HK.out.swap (i:=i) (j:=j) (by have:=HSk.out;omega) (by have:=HSk.out;omega))
   have Hgo:=aj (aj5 i j dk hlt)
   generalize dk[i]! = x at *
   generalize dk[j]! = y at *
   have e1:decide ((i:Int)<(j:Int))=true:=decide_eq_true (by omega)
   have e2:decide (i<j)=true:=decide_eq_true hlt
   have m1:(0:Int)≤(i:Int):=by omega
   have m2:(i:Int)<(n:Int):=by omega
   have m3:(0:Int)≤(j:Int):=by omega
   have m4:(j:Int)<(n:Int):=by omega
   have hne:¬ i=j:=by omega
   have hne2:¬ j=i:=by omega
   have HLT:=aj hlt
   clear hlt
   go_wp2_with fail
   go_region
   go_wp2_with fail
   go_roundw
   case rel=>exact ⟨i+1,j-1,swp dk i j,by go_num,by first | go_num | (congr 1;have:=HLT.out;omega),by have:=HLT.out;omega,by omega,aj (by rw [size_swp];exact HSk.out),HS,aj (by rw [← Hgo.out];exact HR.out)⟩
   case measure=>have:=HLT.out;simp [intOf];omega
  ·have Hend:=aj (show NSt B w0 g off (reverseRange d a b) wr from HK.out.to (by rw [show reverseRange d a b=reverseLoop a (b-1) d from rfl,← HR.out,aj6 _ _ _ hlt]))
   go_wp2_with fail
   go_end0
   exact ⟨rfl,Hend.out⟩
end Ns
end Go.Proofs.YtpcmlopbkehffaaGreat
