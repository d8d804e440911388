/-
  The library's partitionEqual at uint64.
-/
import Derived.Test.YtpcmlopbkehffaaGreatOGCA
import Derived.Sort.WalkC
import Derived.Sort.WalkC4
import Derived.Deep.DeepCutAuto
import Derived.Deep.CutBlock
import Derived.Sort.LotD1
set_option linter.unusedSimpArgs false
set_option linter.unusedVariables false
namespace Go.Proofs.YtpcmlopbkehffaaGreat
open Go.RowKit Go.Sort
namespace Ns
def aag (B:Nat) (w0:World) (g off:Nat) (r:Nat) (d:Array Nat) (e:Ending) (W:World):Prop:=e = .returned (.int .i64 (r:Nat))∧NSt B w0 g off d W
theorem uy {B:Nat} {w0:World} {g off r r':Nat} {d:Array Nat} {W:World} (h:r=r') (hs:NSt B w0 g off d W):aag B w0 g off r d (.returned (.int .i64 (r':Nat))) W:=⟨by rw [h],hs⟩
set_option maxRecDepth 100000 in
set_option maxHeartbeats 8000000 in
theorem aiT (B:Nat) (w0:World) (g off n c a b p:Nat) (d:Array Nat) (w:World) (h:NSt B w0 g off d w) (hn:d.size=n) (hm:n≤1000000000) (hnc:n≤c) (hap:a<p) (hpb:p<b) (hb:b≤n) :
  Calls Tryz.prog 115 #[.slice (some ⟨g,off,none⟩) n c,.int .i64 (a:Nat),.int .i64 (b:Nat),.int .i64 (p:Nat)] w (aag B w0 g off (partitionEqual ltN d a b p).1 (partitionEqual ltN d a b p).2):=by
 have HDef:=aj (show partitionEqual ltN d a b p=partEqLoop ltN a (a+1) (b-1) (swp d a p) from rfl)
 generalize partitionEqual ltN d a b p=res at *
 have HN:=aj (show (swp d a p).size=n by rw [size_swp];exact hn)
 have hc1:=h.at_ a (by omega)
 have hc2:=h.at_ p (by omega)
 have hf1:=h.free
 have hgl:=h.lt
 have HS:=aj (h.swap (i:=a) (j:=p) (by omega) (by omega))
 generalize swp d a p=d1 at *
 generalize d[a]! = x at *
 generalize d[p]! = y at *
 have m1:(0:Int)≤(a:Int):=by omega
 have m2:(a:Int)<(n:Int):=by omega
 have m3:(0:Int)≤(p:Int):=by omega
 have m4:(p:Int)<(n:Int):=by omega
 have hne:¬ a=p:=by omega
 have hne2:¬ p=a:=by omega
 clear h hn
 go_enter Tryz.func115,Tryz.ntmps115
 go_wp2_with fail
 go_region
 have hs:=HS.out
 generalize (((w.setCell ⟨g,off+a,none⟩ (.int .u64 (y:Nat))).setCell ⟨g,off+p,none⟩ (.int .u64 (x:Nat))).drew)=wq at *
 have HQ:=aj hs
 clear hs HS hc1 hc2 hf1 hgl
 go_wp2_with fail
 go_loopw [9,10] (fun v9 v10 wr=>∃ (i j:Nat) (dk:Array Nat),v9 = .int .i64 i∧v10 = .int .i64 j∧a<i∧i≤j+1∧j<b∧Hid (dk.size=n)∧Hid (NSt B w0 g off dk wr)∧Hid (partEqLoop ltN a i j dk=res)) (fun v9 v10 _=>(intOf v10+1-intOf v9).toNat)
 case atStart=>exact ⟨a+1,b-1,d1,by go_num,by first | go_num | (congr 1;omega),by omega,by omega,by omega,HN,HQ,aj HDef.out.symm⟩
 case round =>
  obtain ⟨i,j,dk,rfl,rfl,hai,hij,hjb,HSk,HK,HR⟩:=hrel
  obtain ⟨w1,hw1⟩:∃ w1:World,w1=wr:=⟨_,rfl⟩
  subst hw1
  go_wp2_with fail
  go_loopw [9] (fun v9 wi=>∃ i1:Nat,v9 = .int .i64 i1∧a<i1∧i1≤j+1∧i≤i1∧Hid (NSt B w0 g off dk wi)∧Hid (scanUp (fun x => !ltN dk[a]! x) dk j i1=scanUp (fun x => !ltN dk[a]! x) dk j i)) (fun v9 _=>j+1-(intOf v9).toNat)
  case atStart=>exact ⟨i,rfl,hai,hij,Nat.le_refl _,HK,aj rfl⟩
  case round =>
   obtain ⟨i1,rfl,hai1,hij1,hii,HK1,HU⟩:=hrel
   by_cases hle:i1≤j
   ·have hc1:=HK1.out.at_ a (by have:=HSk.out;omega)
    have hc2:=HK1.out.at_ i1 (by have:=HSk.out;omega)
    have Hgo:=aj (fun hp=>scanUp_go (fun x => !ltN dk[a]! x) dk j i1 hle hp)
    have Hend:=aj (fun hp=>scanUp_end (fun x => !ltN dk[a]! x) dk j i1 (.inr hp))
    obtain ⟨x,hx⟩:∃ x:Nat,x=dk[a]! := ⟨_,rfl⟩
    obtain ⟨y,hy⟩:∃ y:Nat,y=dk[i1]! := ⟨_,rfl⟩
    rw [← hx] at hc1
    rw [← hy] at hc2
    have HX:=aj hx
    have HY:=aj hy
    clear hx hy
    have e1:decide ((i1:Int)≤(j:Int))=true:=decide_eq_true (by omega)
    have e2:decide (i1≤j)=true:=decide_eq_true hle
    have k1:(0:Int)≤(i1:Int):=by omega
    have k2:(i1:Int)<(n:Int):=by omega
    have HLE:=aj hle
    clear hle
    cases hl:ltN x y
    ·have Hlv:=aj (fun W=>dJ x y W)
     rw [hl] at Hlv
     have hp:(!ltN dk[a]! dk[i1]!)=true:=by rw [← HX.out,← HY.out,hl];rfl
     have Hov:=aj (Hgo.out hp)
     clear hl hp
     go_wp2_with fail
     go_quiet ((go_at_call 114;exact Calls.quiet_of_same (Hlv.out _)))
     go_wp2_with fail
     go_roundw
     case rel=>exact ⟨i1+1,by go_num,by omega,by have:=HLE.out;omega,by omega,aj (HK1.out.drewN _),aj (by rw [← Hov.out];exact HU.out)⟩
     case measure=>have:=HLE.out;simp [intOf];omega
    ·have Hlv:=aj (fun W=>dJ x y W)
     rw [hl] at Hlv
     have hp:(!ltN dk[a]! dk[i1]!)=false:=by rw [← HX.out,← HY.out,hl];rfl
     have HU2:=aj (show i1=scanUp (fun x => !ltN dk[a]! x) dk j i from (Hend.out hp).symm.trans HU.out)
     clear hl hp
     go_wp2_with fail
     go_quiet ((go_at_call 114;exact Calls.quiet_of_same (Hlv.out _)))
     clear hc1 hc2 HX HY Hgo Hend Hlv e1 e2 k1 k2
     have HA:=aj (HK1.out.drewN nq)
     generalize wr.drewN nq=wa at *
     go_wp2_with fail
     go_loopw [10] (fun v10 wi=>∃ j1:Nat,v10 = .int .i64 j1∧i1≤j1+1∧j1≤j∧Hid (NSt B w0 g off dk wi)∧Hid (scanDown (fun x=>ltN dk[a]! x) dk i1 j1=scanDown (fun x=>ltN dk[a]! x) dk i1 j)) (fun v10 _=>(intOf v10).toNat)
     case atStart=>exact ⟨j,rfl,by omega,Nat.le_refl _,HA,aj rfl⟩
     case round =>
      obtain ⟨j1,rfl,hij1',hjj,HK2,HD⟩:=hrel
      by_cases hle2:i1≤j1
      ·have c1:=HK2.out.at_ a (by have:=HSk.out;omega)
       have c2:=HK2.out.at_ j1 (by have:=HSk.out;omega)
       have Hgo:=aj (fun hp=>scanDown_go (fun x=>ltN dk[a]! x) dk i1 j1 hle2 (by omega) hp)
       have Hend:=aj (fun hp=>scanDown_end (fun x=>ltN dk[a]! x) dk i1 j1 (.inr hp))
       obtain ⟨x2,hx⟩:∃ x:Nat,x=dk[a]! := ⟨_,rfl⟩
       obtain ⟨y2,hy⟩:∃ y:Nat,y=dk[j1]! := ⟨_,rfl⟩
       rw [← hx] at c1
       rw [← hy] at c2
       have HX:=aj hx
       have HY:=aj hy
       clear hx hy
       have e3:decide ((i1:Int)≤(j1:Int))=true:=decide_eq_true (by omega)
       have e4:decide (i1≤j1)=true:=decide_eq_true hle2
       have p1:(0:Int)≤(j1:Int):=by omega
       have p2:(j1:Int)<(n:Int):=by omega
       have HLE2:=aj hle2
       clear hle2
       cases hl:ltN x2 y2
       ·have Hlv:=aj (fun W=>dJ x2 y2 W)
        rw [hl] at Hlv
        have hp:ltN dk[a]! dk[j1]! = false:=by rw [← HX.out,← HY.out];exact hl
        have HD2:=aj (show j1=scanDown (fun x=>ltN dk[a]! x) dk i1 j from (Hend.out hp).symm.trans HD.out)
        clear hl hp
        go_wp2_with fail
        go_quiet ((go_at_call 114;exact Calls.quiet_of_same (Hlv.out _)))
        clear c1 c2
        have HT:=aj (HK2.out.drewN nq)
        generalize wr.drewN nq=wt at *
        by_cases hbr:j1<i1
        ·have e5:decide ((i1:Int)>(j1:Int))=true:=decide_eq_true (by omega)
         have e6:decide ((j1:Int)<(i1:Int))=true:=decide_eq_true (by omega)
         have e7:decide (j1<i1)=true:=decide_eq_true hbr
         have HRes:=aj ((partEq_break ltN a i j dk HU2.out HD2.out hbr).symm.trans HR.out)
         go_wp2_with fail
         go_ret
         exact uy (by rw [← HRes.out]) (HT.out.to (by rw [← HRes.out]))
        ·have e5:decide ((i1:Int)>(j1:Int))=false:=decide_eq_false (by omega)
         have e6:decide ((j1:Int)<(i1:Int))=false:=decide_eq_false (by omega)
         have e7:decide (j1<i1)=false:=decide_eq_false hbr
         have hlt:=scans_lt ltN a i j dk (by omega) HU2.out HD2.out (by omega)
         have HRes:=aj (partEq_go ltN a i j dk HU2.out HD2.out (by omega))
         have g1:=HT.out.at_ i1 (by have:=HSk.out;omega)
         have g2:=HT.out.at_ j1 (by have:=HSk.out;omega)
         have hf1:=HT.out.free
         have hgl:=HT.out.lt
         have HSW:=aj (HT.out.swap (i:=i1) (j:=j1) (by have:=HSk.out;omega) (by have:=HSk.out;omega))
         generalize dk[i1]! = u at *
         generalize dk[j1]! = v at *
         have hne:¬ i1=j1:=by omega
         have hne2:¬ j1=i1:=by omega
         have k1:(0:Int)≤(i1:Int):=by omega
         have k2:(i1:Int)<(n:Int):=by omega
         have k3:(0:Int)≤(j1:Int):=by omega
         have k4:(j1:Int)<(n:Int):=by omega
         have HLT:=aj hlt
         clear hlt
         go_wp2_with fail
         go_region
         all_goals
          go_wp2_with fail
          go_roundw
          case rel=>exact ⟨i1+1,j1-1,swp dk i1 j1,by go_num,by first | go_num | (congr 1;have:=HLT.out;omega),by omega,by have:=HLT.out;omega,by omega,aj (by rw [size_swp];exact HSk.out),HSW,aj (by rw [← HRes.out];exact HR.out)⟩
          case measure=>have:=HLT.out;simp [intOf];omega
       ·have Hlv:=aj (fun W=>dJ x2 y2 W)
        rw [hl] at Hlv
        have hp:ltN dk[a]! dk[j1]! = true:=by rw [← HX.out,← HY.out];exact hl
        have Hov:=aj (Hgo.out hp)
        clear hl hp
        go_wp2_with fail
        go_quiet ((go_at_call 114;exact Calls.quiet_of_same (Hlv.out _)))
        go_wp2_with fail
        go_roundw
        case rel=>exact ⟨j1-1,by first | go_num | (congr 1;have:=HLE2.out;omega),by have:=HLE2.out;omega,by omega,aj (HK2.out.drewN _),aj (by rw [← Hov.out];exact HD.out)⟩
        case measure=>have:=HLE2.out;simp [intOf];omega
      ·have e3:decide ((i1:Int)≤(j1:Int))=false:=decide_eq_false (by omega)
       have e4:decide (i1≤j1)=false:=decide_eq_false hle2
       have HD2:=aj (show j1=scanDown (fun x=>ltN dk[a]! x) dk i1 j from (scanDown_end (fun x=>ltN dk[a]! x) dk i1 j1 (.inl hle2)).symm.trans HD.out)
       go_wp2_with fail
       go_quiet (fail)
       have HT:=aj (HK2.out.drewN nq)
       generalize wr.drewN nq=wt at *
       by_cases hbr:j1<i1
       ·have e5:decide ((i1:Int)>(j1:Int))=true:=decide_eq_true (by omega)
        have e6:decide ((j1:Int)<(i1:Int))=true:=decide_eq_true (by omega)
        have e7:decide (j1<i1)=true:=decide_eq_true hbr
        have HRes:=aj ((partEq_break ltN a i j dk HU2.out HD2.out hbr).symm.trans HR.out)
        go_wp2_with fail
        go_ret
        exact uy (by rw [← HRes.out]) (HT.out.to (by rw [← HRes.out]))
       ·have e5:decide ((i1:Int)>(j1:Int))=false:=decide_eq_false (by omega)
        have e6:decide ((j1:Int)<(i1:Int))=false:=decide_eq_false (by omega)
        have e7:decide (j1<i1)=false:=decide_eq_false hbr
        have hlt:=scans_lt ltN a i j dk (by omega) HU2.out HD2.out (by omega)
        have HRes:=aj (partEq_go ltN a i j dk HU2.out HD2.out (by omega))
        have g1:=HT.out.at_ i1 (by have:=HSk.out;omega)
        have g2:=HT.out.at_ j1 (by have:=HSk.out;omega)
        have hf1:=HT.out.free
        have hgl:=HT.out.lt
        have HSW:=aj (HT.out.swap (i:=i1) (j:=j1) (by have:=HSk.out;omega) (by have:=HSk.out;omega))
        generalize dk[i1]! = u at *
        generalize dk[j1]! = v at *
        have hne:¬ i1=j1:=by omega
        have hne2:¬ j1=i1:=by omega
        have k1:(0:Int)≤(i1:Int):=by omega
        have k2:(i1:Int)<(n:Int):=by omega
        have k3:(0:Int)≤(j1:Int):=by omega
        have k4:(j1:Int)<(n:Int):=by omega
        have HLT:=aj hlt
        clear hlt
        go_wp2_with fail
        go_region
        all_goals
         go_wp2_with fail
         go_roundw
         case rel=>exact ⟨i1+1,j1-1,swp dk i1 j1,by go_num,by first | go_num | (congr 1;have:=HLT.out;omega),by omega,by have:=HLT.out;omega,by omega,aj (by rw [size_swp];exact HSk.out),HSW,aj (by rw [← HRes.out];exact HR.out)⟩
         case measure=>have:=HLT.out;simp [intOf];omega
   ·have e1:decide ((i1:Int)≤(j:Int))=false:=decide_eq_false (by omega)
    have e2:decide (i1≤j)=false:=decide_eq_false hle
    have HU2:=aj (show i1=scanUp (fun x => !ltN dk[a]! x) dk j i from (scanUp_end (fun x => !ltN dk[a]! x) dk j i1 (.inl hle)).symm.trans HU.out)
    go_wp2_with fail
    go_quiet (fail)
    clear e1 e2
    have HA:=aj (HK1.out.drewN nq)
    generalize wr.drewN nq=wa at *
    go_wp2_with fail
    go_loopw [10] (fun v10 wi=>∃ j1:Nat,v10 = .int .i64 j1∧i1≤j1+1∧j1≤j∧Hid (NSt B w0 g off dk wi)∧Hid (scanDown (fun x=>ltN dk[a]! x) dk i1 j1=scanDown (fun x=>ltN dk[a]! x) dk i1 j)) (fun v10 _=>(intOf v10).toNat)
    case atStart=>exact ⟨j,rfl,by omega,Nat.le_refl _,HA,aj rfl⟩
    case round =>
     obtain ⟨j1,rfl,hij1',hjj,HK2,HD⟩:=hrel
     by_cases hle2:i1≤j1
     ·have c1:=HK2.out.at_ a (by have:=HSk.out;omega)
      have c2:=HK2.out.at_ j1 (by have:=HSk.out;omega)
      have Hgo:=aj (fun hp=>scanDown_go (fun x=>ltN dk[a]! x) dk i1 j1 hle2 (by omega) hp)
      have Hend:=aj (fun hp=>scanDown_end (fun x=>ltN dk[a]! x) dk i1 j1 (.inr hp))
      obtain ⟨x2,hx⟩:∃ x:Nat,x=dk[a]! := ⟨_,rfl⟩
      obtain ⟨y2,hy⟩:∃ y:Nat,y=dk[j1]! := ⟨_,rfl⟩
      rw [← hx] at c1
      rw [← hy] at c2
      have HX:=aj hx
      have HY:=aj hy
      clear hx hy
      have e3:decide ((i1:Int)≤(j1:Int))=true:=decide_eq_true (by omega)
      have e4:decide (i1≤j1)=true:=decide_eq_true hle2
      have p1:(0:Int)≤(j1:Int):=by omega
      have p2:(j1:Int)<(n:Int):=by omega
      have HLE2:=aj hle2
      clear hle2
      cases hl:ltN x2 y2
      ·have Hlv:=aj (fun W=>dJ x2 y2 W)
       rw [hl] at Hlv
       have hp:ltN dk[a]! dk[j1]! = false:=by rw [← HX.out,← HY.out];exact hl
       have HD2:=aj (show j1=scanDown (fun x=>ltN dk[a]! x) dk i1 j from (Hend.out hp).symm.trans HD.out)
       clear hl hp
       go_wp2_with fail
       go_quiet ((go_at_call 114;exact Calls.quiet_of_same (Hlv.out _)))
       clear c1 c2
       have HT:=aj (HK2.out.drewN nq)
       generalize wr.drewN nq=wt at *
       by_cases hbr:j1<i1
       ·have e5:decide ((i1:Int)>(j1:Int))=true:=decide_eq_true (by omega)
        have e6:decide ((j1:Int)<(i1:Int))=true:=decide_eq_true (by omega)
        have e7:decide (j1<i1)=true:=decide_eq_true hbr
        have HRes:=aj ((partEq_break ltN a i j dk HU2.out HD2.out hbr).symm.trans HR.out)
        go_wp2_with fail
        go_ret
        exact uy (by rw [← HRes.out]) (HT.out.to (by rw [← HRes.out]))
       ·have e5:decide ((i1:Int)>(j1:Int))=false:=decide_eq_false (by omega)
        have e6:decide ((j1:Int)<(i1:Int))=false:=decide_eq_false (by omega)
        have e7:decide (j1<i1)=false:=decide_eq_false hbr
        have hlt:=scans_lt ltN a i j dk (by omega) HU2.out HD2.out (by omega)
        have HRes:=aj (partEq_go ltN a i j dk HU2.out HD2.out (by omega))
        have g1:=HT.out.at_ i1 (by have:=HSk.out;omega)
        have g2:=HT.out.at_ j1 (by have:=HSk.out;omega)
        have hf1:=HT.out.free
        have hgl:=HT.out.lt
        have HSW:=aj (HT.out.swap (i:=i1) (j:=j1) (by have:=HSk.out;omega) (by have:=HSk.out;omega))
        generalize dk[i1]! = u at *
        generalize dk[j1]! = v at *
        have hne:¬ i1=j1:=by omega
        have hne2:¬ j1=i1:=by omega
        have k1:(0:Int)≤(i1:Int):=by omega
        have k2:(i1:Int)<(n:Int):=by omega
        have k3:(0:Int)≤(j1:Int):=by omega
        have k4:(j1:Int)<(n:Int):=by omega
        have HLT:=aj hlt
        clear hlt
        go_wp2_with fail
        go_region
        all_goals
         go_wp2_with fail
         go_roundw
         case rel=>exact ⟨i1+1,j1-1,swp dk i1 j1,by go_num,by first | go_num | (congr 1;have:=HLT.out;omega),by omega,by have:=HLT.out;omega,by omega,aj (by rw [size_swp];exact HSk.out),HSW,aj (by rw [← HRes.out];exact HR.out)⟩
         case measure=>have:=HLT.out;simp [intOf];omega
      ·have Hlv:=aj (fun W=>dJ x2 y2 W)
       rw [hl] at Hlv
       have hp:ltN dk[a]! dk[j1]! = true:=by rw [← HX.out,← HY.out];exact hl
       have Hov:=aj (Hgo.out hp)
       clear hl hp
       go_wp2_with fail
       go_quiet ((go_at_call 114;exact Calls.quiet_of_same (Hlv.out _)))
       go_wp2_with fail
       go_roundw
       case rel=>exact ⟨j1-1,by first | go_num | (congr 1;have:=HLE2.out;omega),by have:=HLE2.out;omega,by omega,aj (HK2.out.drewN _),aj (by rw [← Hov.out];exact HD.out)⟩
       case measure=>have:=HLE2.out;simp [intOf];omega
     ·have e3:decide ((i1:Int)≤(j1:Int))=false:=decide_eq_false (by omega)
      have e4:decide (i1≤j1)=false:=decide_eq_false hle2
      have HD2:=aj (show j1=scanDown (fun x=>ltN dk[a]! x) dk i1 j from (scanDown_end (fun x=>ltN dk[a]! x) dk i1 j1 (.inl hle2)).symm.trans HD.out)
      go_wp2_with fail
      go_quiet (fail)
      have HT:=aj (HK2.out.drewN nq)
      generalize wr.drewN nq=wt at *
      by_cases hbr:j1<i1
      ·have e5:decide ((i1:Int)>(j1:Int))=true:=decide_eq_true (by omega)
       have e6:decide ((j1:Int)<(i1:Int))=true:=decide_eq_true (by omega)
       have e7:decide (j1<i1)=true:=decide_eq_true hbr
       have HRes:=aj ((partEq_break ltN a i j dk HU2.out HD2.out hbr).symm.trans HR.out)
       go_wp2_with fail
       go_ret
       exact uy (by rw [← HRes.out]) (HT.out.to (by rw [← HRes.out]))
      ·have e5:decide ((i1:Int)>(j1:Int))=false:=decide_eq_false (by omega)
       have e6:decide ((j1:Int)<(i1:Int))=false:=decide_eq_false (by omega)
       have e7:decide (j1<i1)=false:=decide_eq_false hbr
       have hlt:=scans_lt ltN a i j dk (by omega) HU2.out HD2.out (by omega)
       have HRes:=aj (partEq_go ltN a i j dk HU2.out HD2.out (by omega))
       have g1:=HT.out.at_ i1 (by have:=HSk.out;omega)
       have g2:=HT.out.at_ j1 (by have:=HSk.out;omega)
       have hf1:=HT.out.free
       have hgl:=HT.out.lt
       have HSW:=aj (HT.out.swap (i:=i1) (j:=j1) (by have:=HSk.out;omega) (by have:=HSk.out;omega))
       generalize dk[i1]! = u at *
       generalize dk[j1]! = v at *
       have hne:¬ i1=j1:=by omega
       have hne2:¬ j1=i1:=by omega
       have k1:(0:Int)≤(i1:Int):=by omega
       have k2:(i1:Int)<(n:Int):=by omega
       have k3:(0:Int)≤(j1:Int):=by omega
       have k4:(j1:Int)<(n:Int):=by omega
       have HLT:=aj hlt
       clear hlt
       go_wp2_with fail
       go_region
       all_goals
        go_wp2_with fail
        go_roundw
        case rel=>exact ⟨i1+1,j1-1,swp dk i1 j1,by go_num,by first | go_num | (congr 1;have:=HLT.out;omega),by omega,by have:=HLT.out;omega,by omega,aj (by rw [size_swp];exact HSk.out),HSW,aj (by rw [← HRes.out];exact HR.out)⟩
        case measure=>have:=HLT.out;simp [intOf];omega
end Ns
end Go.Proofs.YtpcmlopbkehffaaGreat
namespace Go.Proofs.YtpcmlopbkehffaaGreat
open Go.RowKit Go.Sort
namespace Ns
theorem ab8 (p:Nat→Bool) (d:Array Nat) (j:Nat):∀ (m i:Nat),j+1-i≤m→i≤scanUp p d j i
 | 0,i,h=>by rw [scanUp_end p d j i (.inl (by omega))];exact Nat.le_refl _
 | m + 1,i,h=>by
   by_cases hc:i≤j∧p d[i]! = true
   ·rw [scanUp_go p d j i hc.1 hc.2]
    have:=ab8 p d j m (i+1) (by omega)
    omega
   ·rw [scanUp_end p d j i (by
     rcases Nat.lt_or_ge j i with h1 | h1
     ·exact .inl (by omega)
     ·right
      cases hx:p d[i]!
      ·rfl
      ·exact absurd ⟨h1,hx⟩ hc)]
    exact Nat.le_refl _
def aaq (B:Nat) (w0:World) (g off:Nat) (r:Nat×Bool×Array Nat) (e:Ending) (W:World):Prop:=e = .returned (.tuple #[.int .i64 (r.1:Nat),.bool r.2.1])∧NSt B w0 g off r.2.2 W
theorem uN {B:Nat} {w0:World} {g off m:Nat} {z:Bool} {d:Array Nat} {r:Nat×Bool×Array Nat} {W:World} (h:r=(m,z,d)) (hs:NSt B w0 g off d W):aaq B w0 g off r (.returned (.tuple #[.int .i64 (m:Nat),.bool z])) W:=by subst h;exact ⟨rfl,hs⟩
set_option maxRecDepth 100000 in
set_option maxHeartbeats 8000000 in
theorem aiF (B:Nat) (w0:World) (g off n c a b p:Nat) (d:Array Nat) (w:World) (h:NSt B w0 g off d w) (hn:d.size=n) (hm:n≤1000000000) (hnc:n≤c) (hap:a<p) (hpb:p<b) (hb:b≤n) :
  Calls Tryz.prog 116 #[.slice (some ⟨g,off,none⟩) n c,.int .i64 (a:Nat),.int .i64 (b:Nat),.int .i64 (p:Nat)] w (aaq B w0 g off (partition ltN d a b p)):=by
 have HD0:=aj (show swp d a p=swp d a p from rfl)
 have HN:=aj (show (swp d a p).size=n by rw [size_swp];exact hn)
 have hc1:=h.at_ a (by omega)
 have hc2:=h.at_ p (by omega)
 have hf1:=h.free
 have hgl:=h.lt
 have HS:=aj (h.swap (i:=a) (j:=p) (by omega) (by omega))
 obtain ⟨d1,hd1⟩:∃ d1:Array Nat,d1=swp d a p:=⟨_,rfl⟩
 rw [← hd1] at HN HS
 have HD1:=aj hd1
 clear hd1 HD0
 generalize d[a]! = x at hc1 HS
 generalize d[p]! = y at hc2 HS
 have m1:(0:Int)≤(a:Int):=by omega
 have m2:(a:Int)<(n:Int):=by omega
 have m3:(0:Int)≤(p:Int):=by omega
 have m4:(p:Int)<(n:Int):=by omega
 have hne:¬ a=p:=by omega
 have hne2:¬ p=a:=by omega
 clear h hn
 go_enter Tryz.func116,Tryz.ntmps116
 go_wp2_with fail
 go_region
 have hs:=HS.out
 generalize (((w.setCell ⟨g,off+a,none⟩ (.int .u64 (y:Nat))).setCell ⟨g,off+p,none⟩ (.int .u64 (x:Nat))).drew)=wq at *
 have HQ:=aj hs
 clear hs HS hc1 hc2 hf1 hgl
 obtain ⟨jb,hjb⟩:∃ jb:Nat,jb=b-1:=⟨_,rfl⟩
 have hjI:(b:Int)-1=(jb:Int):=by omega
 have hjn:jb+1=b:=by omega
 have HJB:=aj hjn
 have hjlt:jb<n:=by omega
 have hajb:a<jb:=by omega
 clear hjb hjn
 go_upto_block 0 with fail
 go_cut [10] (fun v10 wc=>∃ (i1:Nat) (wx:World),wx=wc∧v10 = .int .i64 i1∧a<i1∧i1≤jb+1∧Hid (NSt B w0 g off d1 wx)∧Hid (i1=scanUp (fun x=>ltN x d1[a]!) d1 jb (a+1)))
 case first =>
  go_wp2_with fail
  go_loopw [10] (fun v9 wi=>∃ i1:Nat,v9 = .int .i64 i1∧a<i1∧i1≤jb+1∧Hid (NSt B w0 g off d1 wi)∧Hid (scanUp (fun x=>ltN x d1[a]!) d1 jb i1=scanUp (fun x=>ltN x d1[a]!) d1 jb (a+1))) (fun v9 _=>jb+1-(intOf v9).toNat)
  case atStart=>exact ⟨(a+1),by first | rfl | go_num,by omega,by omega,by assumption,aj rfl⟩
  case round =>
   obtain ⟨i1,rfl,hai1,hij1,HK1,HU⟩:=hrel
   by_cases hle:i1≤jb
   ·have hc1:=HK1.out.at_ a (by have:=HN.out;omega)
    have hc2:=HK1.out.at_ i1 (by have:=HN.out;omega)
    have Hgo:=aj (fun hp=>scanUp_go (fun x=>ltN x d1[a]!) d1 jb i1 hle hp)
    have Hend:=aj (fun hp=>scanUp_end (fun x=>ltN x d1[a]!) d1 jb i1 (.inr hp))
    obtain ⟨x,hx⟩:∃ x:Nat,x=d1[a]! := ⟨_,rfl⟩
    obtain ⟨y,hy⟩:∃ y:Nat,y=d1[i1]! := ⟨_,rfl⟩
    rw [← hx] at hc1
    rw [← hy] at hc2
    have HX:=aj hx
    have HY:=aj hy
    clear hx hy
    have e1:decide ((i1:Int)≤(jb:Int))=true:=decide_eq_true (by omega)
    have e2:decide (i1≤jb)=true:=decide_eq_true hle
    have k1:(0:Int)≤(i1:Int):=by omega
    have k2:(i1:Int)<(n:Int):=by omega
    have HLE:=aj hle
    clear hle
    cases hl:ltN y x
    ·have Hlv:=aj (fun W=>dJ y x W)
     rw [hl] at Hlv
     have hp:ltN d1[i1]! d1[a]! = false:=by rw [← HX.out,← HY.out];exact hl
     have HU2:=aj (show i1=scanUp (fun x=>ltN x d1[a]!) d1 jb (a+1) from (Hend.out hp).symm.trans HU.out)
     clear hl hp
     go_wp2_with fail
     go_quiet ((go_at_call 114;exact Calls.quiet_of_same (Hlv.out _)))
     have HE:=aj (HK1.out.drewN nq)
     go_wp2_with fail
     go_meet
     exact ⟨i1,_,rfl,rfl,hai1,hij1,HE,HU2⟩
    ·have Hlv:=aj (fun W=>dJ y x W)
     rw [hl] at Hlv
     have hp:ltN d1[i1]! d1[a]! = true:=by rw [← HX.out,← HY.out];exact hl
     have Hov:=aj (Hgo.out hp)
     clear hl hp
     go_wp2_with fail
     go_quiet ((go_at_call 114;exact Calls.quiet_of_same (Hlv.out _)))
     go_wp2_with fail
     go_roundw
     case rel=>exact ⟨i1+1,by go_num,by omega,by have:=HLE.out;omega,aj (HK1.out.drewN _),aj (by rw [← Hov.out];exact HU.out)⟩
     case measure=>have:=HLE.out;simp [intOf];omega
   ·have e1:decide ((i1:Int)≤(jb:Int))=false:=decide_eq_false (by omega)
    have e2:decide (i1≤jb)=false:=decide_eq_false hle
    have HU2:=aj (show i1=scanUp (fun x=>ltN x d1[a]!) d1 jb (a+1) from (scanUp_end (fun x=>ltN x d1[a]!) d1 jb i1 (.inl hle)).symm.trans HU.out)
    go_wp2_with fail
    go_quiet (fail)
    have HE:=aj (HK1.out.drewN nq)
    go_wp2_with fail
    go_meet
    exact ⟨i1,_,rfl,rfl,hai1,hij1,HE,HU2⟩
 case rest =>
  obtain ⟨i1,wx,rfl,rfl,hai1,hij1,HW1,HU⟩:=hcut
  go_upto_block 2 with fail
  go_cut [11] (fun v11 wc=>∃ (j1:Nat) (wx:World),wx=wc∧v11 = .int .i64 j1∧i1≤j1+1∧j1≤jb∧Hid (NSt B w0 g off d1 wx)∧Hid (j1=scanDown (fun x => !ltN x d1[a]!) d1 i1 jb))
  case first =>
   go_wp2_with fail
   go_loopw [11] (fun v10 wi=>∃ j1:Nat,v10 = .int .i64 j1∧i1≤j1+1∧j1≤jb∧Hid (NSt B w0 g off d1 wi)∧Hid (scanDown (fun x => !ltN x d1[a]!) d1 i1 j1=scanDown (fun x => !ltN x d1[a]!) d1 i1 jb)) (fun v10 _=>(intOf v10).toNat)
   case atStart=>exact ⟨jb,rfl,by omega,Nat.le_refl _,by assumption,aj rfl⟩
   case round =>
    obtain ⟨j1,rfl,hij1',hjj,HK2,HD⟩:=hrel
    by_cases hle:i1≤j1
    ·have hc1:=HK2.out.at_ a (by have:=HN.out;omega)
     have hc2:=HK2.out.at_ j1 (by have:=HN.out;omega)
     have Hgo:=aj (fun hp=>scanDown_go (fun x => !ltN x d1[a]!) d1 i1 j1 hle (by omega) hp)
     have Hend:=aj (fun hp=>scanDown_end (fun x => !ltN x d1[a]!) d1 i1 j1 (.inr hp))
     obtain ⟨x,hx⟩:∃ x:Nat,x=d1[a]! := ⟨_,rfl⟩
     obtain ⟨y,hy⟩:∃ y:Nat,y=d1[j1]! := ⟨_,rfl⟩
     rw [← hx] at hc1
     rw [← hy] at hc2
     have HX:=aj hx
     have HY:=aj hy
     clear hx hy
     have e1:decide ((i1:Int)≤(j1:Int))=true:=decide_eq_true (by omega)
     have e2:decide (i1≤j1)=true:=decide_eq_true hle
     have k1:(0:Int)≤(j1:Int):=by omega
     have k2:(j1:Int)<(n:Int):=by omega
     have HLE:=aj hle
     clear hle
     cases hl:ltN y x
     ·have Hlv:=aj (fun W=>dJ y x W)
      rw [hl] at Hlv
      have hp:(!ltN d1[j1]! d1[a]!)=true:=by rw [← HX.out,← HY.out,hl];rfl
      have Hov:=aj (Hgo.out hp)
      clear hl hp
      go_wp2_with fail
      go_quiet ((go_at_call 114;exact Calls.quiet_of_same (Hlv.out _)))
      go_wp2_with fail
      go_roundw
      case rel=>exact ⟨j1-1,by first | go_num | (congr 1;have:=HLE.out;omega),by have:=HLE.out;omega,by omega,aj (HK2.out.drewN _),aj (by rw [← Hov.out];exact HD.out)⟩
      case measure=>have:=HLE.out;simp [intOf];omega
     ·have Hlv:=aj (fun W=>dJ y x W)
      rw [hl] at Hlv
      have hp:(!ltN d1[j1]! d1[a]!)=false:=by rw [← HX.out,← HY.out,hl];rfl
      have HD2:=aj (show j1=scanDown (fun x => !ltN x d1[a]!) d1 i1 jb from (Hend.out hp).symm.trans HD.out)
      clear hl hp
      go_wp2_with fail
      go_quiet ((go_at_call 114;exact Calls.quiet_of_same (Hlv.out _)))
      have HE:=aj (HK2.out.drewN nq)
      go_wp2_with fail
      go_meet
      exact ⟨j1,_,rfl,rfl,hij1',hjj,HE,HD2⟩
    ·have e1:decide ((i1:Int)≤(j1:Int))=false:=decide_eq_false (by omega)
     have e2:decide (i1≤j1)=false:=decide_eq_false hle
     have HD2:=aj (show j1=scanDown (fun x => !ltN x d1[a]!) d1 i1 jb from (scanDown_end (fun x => !ltN x d1[a]!) d1 i1 j1 (.inl hle)).symm.trans HD.out)
     go_wp2_with fail
     go_quiet (fail)
     have HE:=aj (HK2.out.drewN nq)
     go_wp2_with fail
     go_meet
     exact ⟨j1,_,rfl,rfl,hij1',hjj,HE,HD2⟩
  case rest =>
   obtain ⟨j1,wx,rfl,rfl,hij1',hjj,HT,HD⟩:=hcut
   by_cases hbr:j1<i1
   ·have e5:decide ((i1:Int)>(j1:Int))=true:=decide_eq_true (by omega)
    have e6:decide ((j1:Int)<(i1:Int))=true:=decide_eq_true (by omega)
    have e7:decide (j1<i1)=true:=decide_eq_true hbr
    have HRes:=aj (part_first_break (lt:=ltN) d a b p rfl (show jb=b-1 by have:=HJB.out;omega) HD1.out HU.out HD.out hbr)
    have HF:=HRes
    by_cases hja:j1=a
    ·subst hja
     have g1:=HT.out.at_ j1 (by have:=HN.out;omega)
     have hf1:=HT.out.free
     have hgl:=HT.out.lt
     have HSW:=aj (HT.out.swap (i:=j1) (j:=j1) (by have:=HN.out;omega) (by have:=HN.out;omega))
     obtain ⟨u,hu⟩:∃ u:Nat,u=d1[j1]! := ⟨_,rfl⟩
     rw [← hu] at g1 HSW
     clear hu
     have k1:(0:Int)≤(j1:Int):=by omega
     have k2:(j1:Int)<(n:Int):=by omega
     go_wp2_with fail
     go_region
     all_goals
      go_wp2_with fail
      go_ret2
      exact uN HF.out HSW.out
    ·have g1:=HT.out.at_ j1 (by have:=HN.out;omega)
     have g2:=HT.out.at_ a (by have:=HN.out;omega)
     have hf1:=HT.out.free
     have hgl:=HT.out.lt
     have HSW:=aj (HT.out.swap (i:=j1) (j:=a) (by have:=HN.out;omega) (by have:=HN.out;omega))
     obtain ⟨u,hu⟩:∃ u:Nat,u=d1[j1]! := ⟨_,rfl⟩
     obtain ⟨v,hv⟩:∃ v:Nat,v=d1[a]! := ⟨_,rfl⟩
     rw [← hu] at g1 HSW
     rw [← hv] at g2 HSW
     clear hu hv
     have hja2:¬ a=j1:=by omega
     have k1:(0:Int)≤(j1:Int):=by omega
     have k2:(j1:Int)<(n:Int):=by omega
     go_wp2_with fail
     go_region
     all_goals
      go_wp2_with fail
      go_ret2
      exact uN HF.out HSW.out
   ·have e5 : decide ((i1:Int)>(j1:Int))=false:=decide_eq_false (by omega)
    have e6:decide ((j1:Int)<(i1:Int))=false:=decide_eq_false (by omega)
    have e7:decide (j1<i1)=false:=decide_eq_false hbr
    have HRes:=aj (part_first_go (lt:=ltN) d a b p rfl (show jb=b-1 by have:=HJB.out;omega) HD1.out HU.out HD.out (by omega))
    have hlt:=part_scans_lt ltN a (a+1) jb d1 (by omega) HU.out HD.out (by omega)
    have g1:=HT.out.at_ i1 (by have:=HN.out;omega)
    have g2:=HT.out.at_ j1 (by have:=HN.out;omega)
    have hf1:=HT.out.free
    have hgl:=HT.out.lt
    have HSW:=aj (HT.out.swap (i:=i1) (j:=j1) (by have:=HN.out;omega) (by have:=HN.out;omega))
    obtain ⟨u,hu⟩:∃ u:Nat,u=d1[i1]! := ⟨_,rfl⟩
    obtain ⟨v,hv⟩:∃ v:Nat,v=d1[j1]! := ⟨_,rfl⟩
    rw [← hu] at g1 HSW
    rw [← hv] at g2 HSW
    clear hu hv
    have hne:¬ i1=j1:=by omega
    have hne2:¬ j1=i1:=by omega
    have k1:(0:Int)≤(i1:Int):=by omega
    have k2:(i1:Int)<(n:Int):=by omega
    have k3:(0:Int)≤(j1:Int):=by omega
    have k4:(j1:Int)<(n:Int):=by omega
    have HLT:=aj hlt
    clear hlt
    go_wp2_with fail
    go_region
    obtain ⟨d2,hd2⟩:∃ d2:Array Nat,d2=swp d1 i1 j1:=⟨_,rfl⟩
    have HN2:=aj (show d2.size=n by rw [hd2,size_swp];exact HN.out)
    rw [← hd2] at HSW HRes
    have hs:=HSW.out
    generalize (((wx.setCell ⟨g,off+i1,none⟩ (.int .u64 (v:Nat))).setCell ⟨g,off+j1,none⟩ (.int .u64 (u:Nat))).drew)=w3 at *
    have HS3:=aj hs
    clear hs HSW hd2 g1 g2 hf1 hgl
    go_wp2_with fail
    go_loopw [10,11] (fun v10 v11 wr=>∃ (i j:Nat) (dk:Array Nat),v10 = .int .i64 i∧v11 = .int .i64 j∧a<i∧i≤j+1∧j≤jb∧Hid (dk.size=n)∧Hid (NSt B w0 g off dk wr)∧Hid (partLoop ltN a i j dk=partLoop ltN a (i1+1) (j1-1) d2)) (fun v10 v11 _=>(intOf v11+1-intOf v10).toNat)
    case atStart=>exact ⟨i1+1,j1-1,d2,by go_num,by first | go_num | (congr 1;have:=HLT.out;omega),by omega,by have:=HLT.out;omega,by omega,HN2,HS3,aj rfl⟩
    case round =>
     obtain ⟨i,j,dk,rfl,rfl,hai,hij,hjb2,HSk,HK,HR⟩:=hrel
     obtain ⟨w5,hw5⟩:∃ w5:World,w5=wr:=⟨_,rfl⟩
     subst hw5
     have hjn2:j<n:=by omega
     go_upto_block 6 with fail
     go_cut [10] (fun v10 wc=>∃ (i2:Nat) (wx:World),wx=wc∧v10 = .int .i64 i2∧a<i2∧i2≤j+1∧Hid (NSt B w0 g off dk wx)∧Hid (i2=scanUp (fun x=>ltN x dk[a]!) dk j i))
     case first =>
      go_wp2_with fail
      go_loopw [10] (fun v9 wi=>∃ i2:Nat,v9 = .int .i64 i2∧a<i2∧i2≤j+1∧Hid (NSt B w0 g off dk wi)∧Hid (scanUp (fun x=>ltN x dk[a]!) dk j i2=scanUp (fun x=>ltN x dk[a]!) dk j i)) (fun v9 _=>j+1-(intOf v9).toNat)
      case atStart=>exact ⟨i,by first | rfl | go_num,by omega,by omega,by assumption,aj rfl⟩
      case round =>
       obtain ⟨i2,rfl,hai1,hij1,HK1,HU⟩:=hrel
       by_cases hle:i2≤j
       ·have hc1:=HK1.out.at_ a (by have:=HSk.out;omega)
        have hc2:=HK1.out.at_ i2 (by have:=HSk.out;omega)
        have Hgo:=aj (fun hp=>scanUp_go (fun x=>ltN x dk[a]!) dk j i2 hle hp)
        have Hend:=aj (fun hp=>scanUp_end (fun x=>ltN x dk[a]!) dk j i2 (.inr hp))
        obtain ⟨x,hx⟩:∃ x:Nat,x=dk[a]! := ⟨_,rfl⟩
        obtain ⟨y,hy⟩:∃ y:Nat,y=dk[i2]! := ⟨_,rfl⟩
        rw [← hx] at hc1
        rw [← hy] at hc2
        have HX:=aj hx
        have HY:=aj hy
        clear hx hy
        have e1:decide ((i2:Int)≤(j:Int))=true:=decide_eq_true (by omega)
        have e2:decide (i2≤j)=true:=decide_eq_true hle
        have k1:(0:Int)≤(i2:Int):=by omega
        have k2:(i2:Int)<(n:Int):=by omega
        have HLE:=aj hle
        clear hle
        cases hl:ltN y x
        ·have Hlv:=aj (fun W=>dJ y x W)
         rw [hl] at Hlv
         have hp:ltN dk[i2]! dk[a]! = false:=by rw [← HX.out,← HY.out];exact hl
         have HU2:=aj (show i2=scanUp (fun x=>ltN x dk[a]!) dk j i from (Hend.out hp).symm.trans HU.out)
         clear hl hp
         go_wp2_with fail
         go_quiet ((go_at_call 114;exact Calls.quiet_of_same (Hlv.out _)))
         have HE:=aj (HK1.out.drewN nq)
         go_wp2_with fail
         go_meet
         exact ⟨i2,_,rfl,rfl,hai1,hij1,HE,HU2⟩
        ·have Hlv:=aj (fun W=>dJ y x W)
         rw [hl] at Hlv
         have hp:ltN dk[i2]! dk[a]! = true:=by rw [← HX.out,← HY.out];exact hl
         have Hov:=aj (Hgo.out hp)
         clear hl hp
         go_wp2_with fail
         go_quiet ((go_at_call 114;exact Calls.quiet_of_same (Hlv.out _)))
         go_wp2_with fail
         go_roundw
         case rel=>exact ⟨i2+1,by go_num,by omega,by have:=HLE.out;omega,aj (HK1.out.drewN _),aj (by rw [← Hov.out];exact HU.out)⟩
         case measure=>have:=HLE.out;simp [intOf];omega
       ·have e1:decide ((i2:Int)≤(j:Int))=false:=decide_eq_false (by omega)
        have e2:decide (i2≤j)=false:=decide_eq_false hle
        have HU2:=aj (show i2=scanUp (fun x=>ltN x dk[a]!) dk j i from (scanUp_end (fun x=>ltN x dk[a]!) dk j i2 (.inl hle)).symm.trans HU.out)
        go_wp2_with fail
        go_quiet (fail)
        have HE:=aj (HK1.out.drewN nq)
        go_wp2_with fail
        go_meet
        exact ⟨i2,_,rfl,rfl,hai1,hij1,HE,HU2⟩
     case rest =>
      obtain ⟨i2,wx2,rfl,rfl,hai2,hij2,HW2,HU2⟩:=hcut
      go_upto_block 8 with fail
      go_cut [11] (fun v11 wc=>∃ (j2:Nat) (wx:World),wx=wc∧v11 = .int .i64 j2∧i2≤j2+1∧j2≤j∧Hid (NSt B w0 g off dk wx)∧Hid (j2=scanDown (fun x => !ltN x dk[a]!) dk i2 j))
      case first =>
       go_wp2_with fail
       go_loopw [11] (fun v10 wi=>∃ j2:Nat,v10 = .int .i64 j2∧i2≤j2+1∧j2≤j∧Hid (NSt B w0 g off dk wi)∧Hid (scanDown (fun x => !ltN x dk[a]!) dk i2 j2=scanDown (fun x => !ltN x dk[a]!) dk i2 j)) (fun v10 _=>(intOf v10).toNat)
       case atStart=>exact ⟨j,rfl,by omega,Nat.le_refl _,by assumption,aj rfl⟩
       case round =>
        obtain ⟨j2,rfl,hij2',hjj,HK2,HD⟩:=hrel
        by_cases hle:i2≤j2
        ·have hc1:=HK2.out.at_ a (by have:=HSk.out;omega)
         have hc2:=HK2.out.at_ j2 (by have:=HSk.out;omega)
         have Hgo:=aj (fun hp=>scanDown_go (fun x => !ltN x dk[a]!) dk i2 j2 hle (by omega) hp)
         have Hend:=aj (fun hp=>scanDown_end (fun x => !ltN x dk[a]!) dk i2 j2 (.inr hp))
         obtain ⟨x,hx⟩:∃ x:Nat,x=dk[a]! := ⟨_,rfl⟩
         obtain ⟨y,hy⟩:∃ y:Nat,y=dk[j2]! := ⟨_,rfl⟩
         rw [← hx] at hc1
         rw [← hy] at hc2
         have HX:=aj hx
         have HY:=aj hy
         clear hx hy
         have e1:decide ((i2:Int)≤(j2:Int))=true:=decide_eq_true (by omega)
         have e2:decide (i2≤j2)=true:=decide_eq_true hle
         have k1:(0:Int)≤(j2:Int):=by omega
         have k2:(j2:Int)<(n:Int):=by omega
         have HLE:=aj hle
         clear hle
         cases hl:ltN y x
         ·have Hlv:=aj (fun W=>dJ y x W)
          rw [hl] at Hlv
          have hp:(!ltN dk[j2]! dk[a]!)=true:=by rw [← HX.out,← HY.out,hl];rfl
          have Hov:=aj (Hgo.out hp)
          clear hl hp
          go_wp2_with fail
          go_quiet ((go_at_call 114;exact Calls.quiet_of_same (Hlv.out _)))
          go_wp2_with fail
          go_roundw
          case rel=>exact ⟨j2-1,by first | go_num | (congr 1;have:=HLE.out;omega),by have:=HLE.out;omega,by omega,aj (HK2.out.drewN _),aj (by rw [← Hov.out];exact HD.out)⟩
          case measure=>have:=HLE.out;simp [intOf];omega
         ·have Hlv:=aj (fun W=>dJ y x W)
          rw [hl] at Hlv
          have hp:(!ltN dk[j2]! dk[a]!)=false:=by rw [← HX.out,← HY.out,hl];rfl
          have HD2:=aj (show j2=scanDown (fun x => !ltN x dk[a]!) dk i2 j from (Hend.out hp).symm.trans HD.out)
          clear hl hp
          go_wp2_with fail
          go_quiet ((go_at_call 114;exact Calls.quiet_of_same (Hlv.out _)))
          have HE:=aj (HK2.out.drewN nq)
          go_wp2_with fail
          go_meet
          exact ⟨j2,_,rfl,rfl,hij2',hjj,HE,HD2⟩
        ·have e1:decide ((i2:Int)≤(j2:Int))=false:=decide_eq_false (by omega)
         have e2:decide (i2≤j2)=false:=decide_eq_false hle
         have HD2:=aj (show j2=scanDown (fun x => !ltN x dk[a]!) dk i2 j from (scanDown_end (fun x => !ltN x dk[a]!) dk i2 j2 (.inl hle)).symm.trans HD.out)
         go_wp2_with fail
         go_quiet (fail)
         have HE:=aj (HK2.out.drewN nq)
         go_wp2_with fail
         go_meet
         exact ⟨j2,_,rfl,rfl,hij2',hjj,HE,HD2⟩
      case rest =>
       obtain ⟨j2,wx3,rfl,rfl,hij3,hjj2,HT2,HD2⟩:=hcut
       have HT:=HT2
       by_cases hbr2:j2<i2
       ·have e8:decide ((i2:Int)>(j2:Int))=true:=decide_eq_true (by omega)
        have e9:decide ((j2:Int)<(i2:Int))=true:=decide_eq_true (by omega)
        have e10:decide (j2<i2)=true:=decide_eq_true hbr2
        have HF:=aj (show partition ltN d a b p=(j2,false,swp dk j2 a) by rw [HRes.out,← HR.out,part_break ltN a i j dk HU2.out HD2.out hbr2])
        by_cases hja:j2=a
        ·subst hja
         have g1:=HT.out.at_ j2 (by have:=HSk.out;omega)
         have hf1:=HT.out.free
         have hgl:=HT.out.lt
         have HSW:=aj (HT.out.swap (i:=j2) (j:=j2) (by have:=HSk.out;omega) (by have:=HSk.out;omega))
         obtain ⟨u,hu⟩:∃ u:Nat,u=dk[j2]! := ⟨_,rfl⟩
         rw [← hu] at g1 HSW
         clear hu
         have k1:(0:Int)≤(j2:Int):=by omega
         have k2:(j2:Int)<(n:Int):=by omega
         go_wp2_with fail
         go_region
         all_goals
          go_wp2_with fail
          go_ret2
          exact uN HF.out HSW.out
        ·have g1:=HT.out.at_ j2 (by have:=HSk.out;omega)
         have g2:=HT.out.at_ a (by have:=HSk.out;omega)
         have hf1:=HT.out.free
         have hgl:=HT.out.lt
         have HSW:=aj (HT.out.swap (i:=j2) (j:=a) (by have:=HSk.out;omega) (by have:=HSk.out;omega))
         obtain ⟨u,hu⟩:∃ u:Nat,u=dk[j2]! := ⟨_,rfl⟩
         obtain ⟨v,hv⟩:∃ v:Nat,v=dk[a]! := ⟨_,rfl⟩
         rw [← hu] at g1 HSW
         rw [← hv] at g2 HSW
         clear hu hv
         have hja2:¬ a=j2:=by omega
         have k1:(0:Int)≤(j2:Int):=by omega
         have k2:(j2:Int)<(n:Int):=by omega
         go_wp2_with fail
         go_region
         all_goals
          go_wp2_with fail
          go_ret2
          exact uN HF.out HSW.out
       ·have e8:decide ((i2:Int)>(j2:Int))=false:=decide_eq_false (by omega)
        have e9:decide ((j2:Int)<(i2:Int))=false:=decide_eq_false (by omega)
        have e10:decide (j2<i2)=false:=decide_eq_false hbr2
        have hii2:i≤i2:=by rw [HU2.out];exact ab8 _ _ _ (j+1-i) i (Nat.le_refl _)
        have HGO:=aj (part_go ltN a i j dk HU2.out HD2.out (by omega))
        have hlt:=part_scans_lt ltN a i j dk (by omega) HU2.out HD2.out (by omega)
        have g1:=HT.out.at_ i2 (by have:=HSk.out;omega)
        have g2:=HT.out.at_ j2 (by have:=HSk.out;omega)
        have hf1:=HT.out.free
        have hgl:=HT.out.lt
        have HSW:=aj (HT.out.swap (i:=i2) (j:=j2) (by have:=HSk.out;omega) (by have:=HSk.out;omega))
        obtain ⟨u,hu⟩:∃ u:Nat,u=dk[i2]! := ⟨_,rfl⟩
        obtain ⟨v,hv⟩:∃ v:Nat,v=dk[j2]! := ⟨_,rfl⟩
        rw [← hu] at g1 HSW
        rw [← hv] at g2 HSW
        clear hu hv
        have hne:¬ i2=j2:=by omega
        have hne2:¬ j2=i2:=by omega
        have k1:(0:Int)≤(i2:Int):=by omega
        have k2:(i2:Int)<(n:Int):=by omega
        have k3:(0:Int)≤(j2:Int):=by omega
        have k4:(j2:Int)<(n:Int):=by omega
        have HLT:=aj hlt
        clear hlt
        go_wp2_with fail
        go_region
        all_goals
         go_wp2_with fail
         go_roundw
         case rel=>exact ⟨i2+1,j2-1,swp dk i2 j2,by go_num,by first | go_num | (congr 1;have:=HLT.out;omega),by omega,by have:=HLT.out;omega,by omega,aj (by rw [size_swp];exact HSk.out),HSW,aj (by rw [← HGO.out];exact HR.out)⟩
         case measure=>have:=HLT.out;simp [intOf];omega
end Ns
end Go.Proofs.YtpcmlopbkehffaaGreat
namespace Go.Proofs.YtpcmlopbkehffaaGreat
open Go.RowKit Go.Sort
namespace Ns
structure NCt (B:Nat) (w0:World) (g off:Nat) (d:Array Nat) (sb s:Nat) (W:World):Prop where
 st:NSt B w0 g off d W
 cnt:W.cell? ⟨sb,0,none⟩=some (.int .i64 (s:Nat))
 fr:W.frozen? ⟨sb,0,none⟩=false
 ne:sb≠g
 old:B≤sb
theorem NCt.keep {B:Nat} {w0:World} {g off:Nat} {d:Array Nat} {sb s:Nat} {W W':World} (h:NCt B w0 g off d sb s W) (hb:Below W.heap.size W W'):NCt B w0 g off d sb s W':=by
 have hl:=lt_of_cell h.cnt
 exact ⟨h.st.keep hb h.st.base,by rw [hb.cell (p:=⟨sb,0,none⟩) hl];exact h.cnt,by rw [hb.frozen (p:=⟨sb,0,none⟩) hl];exact h.fr,h.ne,h.old⟩
theorem NCt.drewN {B:Nat} {w0:World} {g off:Nat} {d:Array Nat} {sb s:Nat} {W:World} (h:NCt B w0 g off d sb s W) (q:Nat):NCt B w0 g off d sb s (W.drewN q):=h.keep (below_drewN (Below.refl _ _) q)
theorem NCt.count {B:Nat} {w0:World} {g off:Nat} {d:Array Nat} {sb s:Nat} {W:World} (h:NCt B w0 g off d sb s W) (t:Nat):NCt B w0 g off d sb t (W.setCell ⟨sb,0,none⟩ (.int .i64 (t:Nat))):=by
 have hg:∀ o,(W.setCell ⟨sb,0,none⟩ (.int .i64 (t:Nat))).cell? ⟨g,o,none⟩=W.cell? ⟨g,o,none⟩:=fun o=>World.cell?_setCell_other W ⟨sb,0,none⟩ ⟨g,o,none⟩ _ (fun e=>h.ne (by injection e))
 exact ⟨⟨h.st.bel.setCell (p:=⟨sb,0,none⟩) h.old _,fun k hk=>by rw [hg];exact h.st.at_ k hk,fun o=>by rw [World.frozen?_setCell];exact h.st.free o,h.st.old,by rw [World.size_setCell];exact h.st.lt⟩,
  World.cell?_setCell_same W ⟨sb,0,none⟩ _ h.cnt,by rw [World.frozen?_setCell];exact h.fr,h.ne,h.old⟩
def aal (B:Nat) (w0:World) (g off:Nat) (d:Array Nat) (sb:Nat) (r:Nat×Nat×Nat) (e:Ending) (W:World):Prop:=e = .returned (.tuple #[.int .i64 (r.1:Nat),.int .i64 (r.2.1:Nat)])∧NCt B w0 g off d sb r.2.2 W
theorem acT {B:Nat} {w0:World} {g off:Nat} {d:Array Nat} {sb x y s:Nat} {r:Nat×Nat×Nat} {W:World} (h:r=(x,y,s)) (hs:NCt B w0 g off d sb s W):aal B w0 g off d sb r (.returned (.tuple #[.int .i64 (x:Nat),.int .i64 (y:Nat)])) W:=by subst h;exact ⟨rfl,hs⟩
set_option maxHeartbeats 4000000 in
theorem yP (B:Nat) (w0:World) (g off n c a b:Nat) (d:Array Nat) (sb s:Nat) (w:World) (h:NCt B w0 g off d sb s w) (hn:d.size=n) (hm:n≤1000000000) (hnc:n≤c) (ha:a<n) (hb:b<n) (hs:s≤1000) :
  Calls Tryz.prog 167 #[.slice (some ⟨g,off,none⟩) n c,.int .i64 (a:Nat),.int .i64 (b:Nat),.pointer (some ⟨sb,0,none⟩)] w (aal B w0 g off d sb (order2 ltN d a b s)):=by
 have HDef:=aj (show order2 ltN d a b s=if ltN d[b]! d[a]! then (b,a,s+1) else (a,b,s) from rfl)
 generalize order2 ltN d a b s=r at *
 have hc1:=h.st.at_ a (by omega)
 have hc2:=h.st.at_ b (by omega)
 have hc3:=h.cnt
 have hf3:=h.fr
 have H0:=aj h
 have HNE:=aj h.ne
 generalize d[a]! = x at *
 generalize d[b]! = y at *
 have m1:(0:Int)≤(a:Int):=by omega
 have m2:(a:Int)<(n:Int):=by omega
 have m3:(0:Int)≤(b:Int):=by omega
 have m4:(b:Int)<(n:Int):=by omega
 clear h
 have HN:=aj hn
 clear hn
 cases hl:ltN y x
 ·have Hlv:=aj (fun W=>dJ y x W)
  rw [hl] at Hlv
  have HF:=aj (show r=(a,b,s) by rw [HDef.out,hl];rfl)
  clear hl HDef
  go_enter Tryz.func167,Tryz.ntmps167
  go_wp2_with fail
  go_quiet ((go_at_call 114;exact Calls.quiet_of_same (Hlv.out _)))
  go_wp2_with fail
  go_ret2
  exact acT HF.out (H0.out.drewN _)
 ·have Hlv:=aj (fun W=>dJ y x W)
  rw [hl] at Hlv
  have HF:=aj (show r=(b,a,s+1) by rw [HDef.out,hl];rfl)
  clear hl HDef
  go_enter Tryz.func167,Tryz.ntmps167
  go_wp2_with fail
  go_quiet ((go_at_call 114;exact Calls.quiet_of_same (Hlv.out _)))
  have Hq:=aj (H0.out.drewN nq)
  clear hc1 hc2 hc3 hf3
  generalize w.drewN nq=wq at *
  have hc3:=Hq.out.cnt
  have hf3:=Hq.out.fr
  have Hcnt:=aj (Hq.out.count (s+1))
  go_wp2_with fail
  go_ret2
  exact acT HF.out Hcnt.out
theorem rW (d:Array Nat) {a b n:Nat} (s:Nat) (ha:a<n) (hb:b<n):(order2 ltN d a b s).1<n∧(order2 ltN d a b s).2.1<n∧(order2 ltN d a b s).2.2≤s+1:=by
 unfold order2
 split
 ·exact ⟨hb,ha,Nat.le_refl _⟩
 ·exact ⟨ha,hb,Nat.le_succ _⟩
def vN (B:Nat) (w0:World) (g off:Nat) (d:Array Nat) (sb:Nat) (r:Nat×Nat) (e:Ending) (W:World):Prop:=e = .returned (.int .i64 (r.1:Nat))∧NCt B w0 g off d sb r.2 W
theorem acp {B:Nat} {w0:World} {g off:Nat} {d:Array Nat} {sb x s:Nat} {r:Nat×Nat} {W:World} (h:r=(x,s)) (hs:NCt B w0 g off d sb s W):vN B w0 g off d sb r (.returned (.int .i64 (x:Nat))) W:=by subst h;exact ⟨rfl,hs⟩
set_option maxHeartbeats 4000000 in
theorem xW (B:Nat) (w0:World) (g off n c a b m:Nat) (d:Array Nat) (sb s:Nat) (w:World) (h:NCt B w0 g off d sb s w) (hn:d.size=n) (hm:n≤1000000000) (hnc:n≤c) (ha:a<n) (hb:b<n) (hc:m<n) (hs:s≤900) :
  Calls Tryz.prog 141 #[.slice (some ⟨g,off,none⟩) n c,.int .i64 (a:Nat),.int .i64 (b:Nat),.int .i64 (m:Nat),.pointer (some ⟨sb,0,none⟩)] w (vN B w0 g off d sb (median ltN d a b m s)):=by
 have k1:=rW d s ha hb
 have C1:=yP B w0 g off n c a b d sb s w h hn hm hnc ha hb (by omega)
 have HDef:=aj (show median ltN d a b m s=((order2 ltN d (order2 ltN d a b s).1 (order2 ltN d (order2 ltN d a b s).2.1 m (order2 ltN d a b s).2.2).1 (order2 ltN d (order2 ltN d a b s).2.1 m (order2 ltN d a b s).2.2).2.2).2.1,(order2 ltN d (order2 ltN d a b s).1 (order2 ltN d (order2 ltN d a b s).2.1 m (order2 ltN d a b s).2.2).1 (order2 ltN d (order2 ltN d a b s).2.1 m (order2 ltN d a b s).2.2).2.2).2.2) from rfl)
 generalize order2 ltN d a b s=r1 at *
 obtain ⟨x1,y1,s1⟩:=r1
 simp only at k1 HDef
 have k2:=rW d s1 k1.2.1 hc
 have C2:=aj (fun (W:World) (hW:NCt B w0 g off d sb s1 W)=>yP B w0 g off n c y1 m d sb s1 W hW hn hm hnc k1.2.1 hc (by omega))
 generalize order2 ltN d y1 m s1=r2 at *
 obtain ⟨x2,y2,s2⟩:=r2
 simp only at k2 HDef
 have C3:=aj (fun (W:World) (hW:NCt B w0 g off d sb s2 W)=>yP B w0 g off n c x1 x2 d sb s2 W hW hn hm hnc k1.1 k2.1 (by omega))
 generalize order2 ltN d x1 x2 s2=r3 at *
 obtain ⟨x3,y3,s3⟩:=r3
 simp only at HDef
 have D1:=aj C1
 have HF:=HDef
 clear C1 h hn k1 k2 HDef
 go_enter Tryz.func141,Tryz.ntmps141
 go_wp2_with fail
 refine Calls.mono D1.out ?_
 rintro e w1 ⟨rfl,h1⟩
 have H1:=aj h1
 clear h1
 go_wp2_with fail
 refine Calls.mono (C2.out _ H1.out) ?_
 rintro e w2 ⟨rfl,h2⟩
 have H2:=aj h2
 clear h2
 go_wp2_with fail
 refine Calls.mono (C3.out _ H2.out) ?_
 rintro e w3 ⟨rfl,h3⟩
 have H3:=aj h3
 clear h3
 go_wp2_with fail
 go_ret
 exact acp HF.out H3.out
theorem uI (d:Array Nat) {a b m n:Nat} (s:Nat) (ha:a<n) (hb:b<n) (hc:m<n):(median ltN d a b m s).1<n∧(median ltN d a b m s).2≤s+3:=by
 have k1:=rW d s ha hb
 have k2:=rW d (order2 ltN d a b s).2.2 k1.2.1 hc
 have k3:=rW d (order2 ltN d (order2 ltN d a b s).2.1 m (order2 ltN d a b s).2.2).2.2 k1.1 k2.1
 unfold median
 simp only
 omega
set_option maxHeartbeats 2000000 in
theorem xV (B:Nat) (w0:World) (g off n c a:Nat) (d:Array Nat) (sb s:Nat) (w:World) (h:NCt B w0 g off d sb s w) (hn:d.size=n) (hm:n≤1000000000) (hnc:n≤c) (h1:1≤a) (ha:a+1<n) (hs:s≤900) :
  Calls Tryz.prog 140 #[.slice (some ⟨g,off,none⟩) n c,.int .i64 (a:Nat),.pointer (some ⟨sb,0,none⟩)] w (vN B w0 g off d sb (medianAdjacent ltN d a s)):=by
 have C:=aj (xW B w0 g off n c (a-1) a (a+1) d sb s w h hn hm hnc (by omega) (by omega) ha hs)
 rw [show median ltN d (a-1) a (a+1) s=medianAdjacent ltN d a s from rfl] at C
 generalize medianAdjacent ltN d a s=r at *
 have e1:((a:Int)-1)=((a-1:Nat):Int):=by omega
 have e2:((a:Int)+1)=((a+1:Nat):Int):=by omega
 obtain ⟨x,s'⟩:=r
 have HN:=aj hn
 clear h hn
 have E1:=aj e1
 have E2:=aj e2
 clear e1 e2
 go_enter Tryz.func140,Tryz.ntmps140
 go_wp2_with fail
 rw [E1.out]
 refine Calls.mono C.out ?_
 rintro e w1 ⟨rfl,h1⟩
 have H1:=aj h1
 clear h1
 go_wp2_with fail
 go_ret
 exact acp rfl H1.out
end Ns
end Go.Proofs.YtpcmlopbkehffaaGreat
namespace Go.Proofs.YtpcmlopbkehffaaGreat
open Go.RowKit Go.Sort
namespace Ns
def jS:Hint→Int
 | .unknown=>0
 | .increasing=>1
 | .decreasing=>2
def pO (s:Nat):Hint:=if s=0 then .increasing else if s=12 then .decreasing else .unknown
theorem aht {B:Nat} {w0:World} {g off:Nat} {d:Array Nat} {W:World} (h:NSt B w0 g off d W) (T:TypeId):NCt B w0 g off d W.heap.size 0 (W.alloc (.cells #[.int .i64 0] T)):=by
 refine ⟨h.keep ((Below.refl _ _).alloc (Nat.le_refl _) _) h.base,?_,?_,Nat.ne_of_gt h.lt,h.base⟩
 ·rw [World.cell?_alloc_mark];rfl
 ·go_simp
def zZ (B:Nat) (w0:World) (g off:Nat) (d:Array Nat) (r:Nat×Hint) (e:Ending) (W:World):Prop:=e = .returned (.tuple #[.int .i64 (r.1:Nat),.int .i64 (jS r.2)])∧NSt B w0 g off d W
theorem aa4 {B:Nat} {w0:World} {g off:Nat} {d:Array Nat} {x:Nat} {z:Int} {r:Nat×Hint} {W:World} (h1:r.1=x) (h2:jS r.2=z) (hs:NSt B w0 g off d W):zZ B w0 g off d r (.returned (.tuple #[.int .i64 (x:Nat),.int .i64 z])) W:=by subst h1 h2;exact ⟨rfl,hs⟩
set_option maxHeartbeats 8000000 in
theorem aiW (B:Nat) (w0:World) (g off n c a b:Nat) (d:Array Nat) (w:World) (h:NSt B w0 g off d w) (hn:d.size=n) (hm:n≤1000000000) (hnc:n≤c) (hab:a+8≤b) (hb:b≤n) :
  Calls Tryz.prog 111 #[.slice (some ⟨g,off,none⟩) n c,.int .i64 (a:Nat),.int .i64 (b:Nat)] w (zZ B w0 g off d (choosePivot ltN d a b)):=by
 obtain ⟨L,hL⟩:∃ L:Nat,b=a+L:=⟨b-a,by omega⟩
 have hLI:((b:Int)-(a:Int))=(L:Int):=by omega
 have q1:(8:Int)≤(L:Int):=by omega
 have q2:decide ((L:Int) ≥ 8)=true:=decide_eq_true (by omega)
 have q3:decide ((8:Int)≤(L:Int))=true:=decide_eq_true (by omega)
 have hsz:=h.base
 have hbn:a+L≤n:=by omega
 have hL8:8≤L:=by omega
 obtain ⟨i,hi⟩:∃ i:Nat,i=a+L / 4*1:=⟨_,rfl⟩
 obtain ⟨j,hj⟩:∃ j:Nat,j=a+L / 4*2:=⟨_,rfl⟩
 obtain ⟨k,hk⟩:∃ k:Nat,k=a+L / 4*3:=⟨_,rfl⟩
 have eI:(a:Int)+(L:Int) / 4=(i:Int):=by omega
 have eJ:(a:Int)+(L:Int) / 4*2=(j:Int):=by omega
 have eK:(a:Int)+(L:Int) / 4*3=(k:Int):=by omega
 have bi:1≤i∧i+1<n:=by omega
 have bj:1≤j∧j+1<n:=by omega
 have bk:1≤k∧k+1<n:=by omega
 have HI:=aj (And.intro hi (And.intro hj hk))
 have Hc0:=aj (aht h 3)
 have hdef:choosePivot ltN d a b=(if L ≥ 50 then ((median ltN d (medianAdjacent ltN d i 0).1 (medianAdjacent ltN d j (medianAdjacent ltN d i 0).2).1 (medianAdjacent ltN d k (medianAdjacent ltN d j (medianAdjacent ltN d i 0).2).2).1 (medianAdjacent ltN d k (medianAdjacent ltN d j (medianAdjacent ltN d i 0).2).2).2).1,pO (median ltN d (medianAdjacent ltN d i 0).1 (medianAdjacent ltN d j (medianAdjacent ltN d i 0).2).1 (medianAdjacent ltN d k (medianAdjacent ltN d j (medianAdjacent ltN d i 0).2).2).1 (medianAdjacent ltN d k (medianAdjacent ltN d j (medianAdjacent ltN d i 0).2).2).2).2) else ((median ltN d i j k 0).1,pO (median ltN d i j k 0).2)):=by
  unfold choosePivot
  simp only
  rw [show b-a=L by omega,if_pos (show L ≥ 8 from hL8),← hi,← hj,← hk]
  by_cases h50:L ≥ 50
  ·rw [if_pos h50,if_pos h50];rfl
  ·rw [if_neg h50,if_neg h50];rfl
 have HD:=aj hdef
 have HHn:=aj hn
 have HBL:=aj hL
 clear h hn hL hi hj hk hdef
 by_cases h50:50≤L
 ·have q4:decide ((L:Int) ≥ 50)=true:=decide_eq_true (by omega)
  have q5:decide ((50:Int)≤(L:Int))=true:=decide_eq_true (by omega)
  have HF0:=aj (HD.out.trans (if_pos h50))
  have C1:=aj (fun (W:World) (hW:NCt B w0 g off d w.heap.size 0 W)=>xV B w0 g off n c i d w.heap.size 0 W hW HHn.out hm hnc bi.1 bi.2 (by omega))
  have o1:=uI d (a:=i-1) (b:=i) (m:=i+1) (n:=n) 0 (by omega) (by omega) bi.2
  rw [show median ltN d (i-1) i (i+1) 0=medianAdjacent ltN d i 0 from rfl] at o1
  generalize medianAdjacent ltN d i 0=r1 at *
  obtain ⟨x1,s1⟩:=r1
  simp only at o1 HF0
  have C2:=aj (fun (W:World) (hW:NCt B w0 g off d w.heap.size s1 W)=>xV B w0 g off n c j d w.heap.size s1 W hW HHn.out hm hnc bj.1 bj.2 (by omega))
  have o2:=uI d (a:=j-1) (b:=j) (m:=j+1) (n:=n) s1 (by omega) (by omega) bj.2
  rw [show median ltN d (j-1) j (j+1) s1=medianAdjacent ltN d j s1 from rfl] at o2
  generalize medianAdjacent ltN d j s1=r2 at *
  obtain ⟨x2,s2⟩:=r2
  simp only at o2 HF0
  have C3:=aj (fun (W:World) (hW:NCt B w0 g off d w.heap.size s2 W)=>xV B w0 g off n c k d w.heap.size s2 W hW HHn.out hm hnc bk.1 bk.2 (by omega))
  have o3:=uI d (a:=k-1) (b:=k) (m:=k+1) (n:=n) s2 (by omega) (by omega) bk.2
  rw [show median ltN d (k-1) k (k+1) s2=medianAdjacent ltN d k s2 from rfl] at o3
  generalize medianAdjacent ltN d k s2=r3 at *
  obtain ⟨x3,s3⟩:=r3
  simp only at o3 HF0
  have C4:=aj (fun (W:World) (hW:NCt B w0 g off d w.heap.size s3 W)=>xW B w0 g off n c x1 x2 x3 d w.heap.size s3 W hW HHn.out hm hnc o1.1 o2.1 o3.1 (by omega))
  have o4:=uI d (a:=x1) (b:=x2) (m:=x3) (n:=n) s3 o1.1 o2.1 o3.1
  generalize median ltN d x1 x2 x3 s3=r4 at *
  obtain ⟨x4,s4⟩:=r4
  simp only at o4 HF0
  have HF:=HF0
  clear HD
  go_enter Tryz.func111,Tryz.ntmps111
  go_wp2_with fail
  refine Calls.mono (C1.out _ Hc0.out) ?_
  rintro e w1 ⟨rfl,h1⟩
  have HM1:=aj h1
  clear h1
  go_wp2_with fail
  refine Calls.mono (C2.out _ HM1.out) ?_
  rintro e w2 ⟨rfl,h2⟩
  have HM2:=aj h2
  clear h2
  go_wp2_with fail
  refine Calls.mono (C3.out _ HM2.out) ?_
  rintro e w3 ⟨rfl,h3⟩
  have HM3:=aj h3
  clear h3
  go_wp2_with fail
  refine Calls.mono (C4.out _ HM3.out) ?_
  rintro e w4 ⟨rfl,h4⟩
  have HM:=aj h4
  clear h4
  obtain ⟨z,z1,z2,z3⟩:∃ z:Bool×Bool,((s4:Int)==0)=z.1∧((s4:Int)==12)=z.2∧Hid (jS (pO s4)=if z.1 then 1 else if z.2 then 2 else 0):=by
   refine ⟨((s4:Int)==0,(s4:Int)==12),rfl,rfl,aj ?_⟩
   unfold pO
   by_cases h0:s4=0
   ·subst h0;rfl
   ·by_cases h12:s4=12
    ·subst h12;rfl
    ·have e0:((s4:Int)==0)=false:=by simp;omega
     have e12:((s4:Int)==12)=false:=by simp;omega
     rw [if_neg h0,if_neg h12,e0,e12]
     rfl
  obtain ⟨za,zb⟩:=z
  simp only at z1 z2 z3
  have hcn:=HM.out.cnt
  have HSt:=aj HM.out.st
  cases za <;> cases zb
  all_goals
   go_wp2_with fail
   go_ret2
   exact aa4 (by rw [HF.out]) (by rw [HF.out];exact z3.out) HSt.out
 ·have q4:decide ((L:Int) ≥ 50)=false:=decide_eq_false (by omega)
  have q5:decide ((50:Int)≤(L:Int))=false:=decide_eq_false (by omega)
  have HF0:=aj (HD.out.trans (if_neg h50))
  have C1:=aj (fun (W:World) (hW:NCt B w0 g off d w.heap.size 0 W)=>xW B w0 g off n c i j k d w.heap.size 0 W hW HHn.out hm hnc (by omega) (by omega) (by omega) (by omega))
  generalize median ltN d i j k 0=r1 at *
  obtain ⟨x1,s1⟩:=r1
  simp only at HF0
  have HF:=HF0
  clear HD
  go_enter Tryz.func111,Tryz.ntmps111
  go_wp2_with fail
  refine Calls.mono (C1.out _ Hc0.out) ?_
  rintro e w1 ⟨rfl,h1⟩
  have HM:=aj h1
  clear h1
  obtain ⟨z,z1,z2,z3⟩:∃ z:Bool×Bool,((s1:Int)==0)=z.1∧((s1:Int)==12)=z.2∧Hid (jS (pO s1)=if z.1 then 1 else if z.2 then 2 else 0):=by
   refine ⟨((s1:Int)==0,(s1:Int)==12),rfl,rfl,aj ?_⟩
   unfold pO
   by_cases h0:s1=0
   ·subst h0;rfl
   ·by_cases h12:s1=12
    ·subst h12;rfl
    ·have e0:((s1:Int)==0)=false:=by simp;omega
     have e12:((s1:Int)==12)=false:=by simp;omega
     rw [if_neg h0,if_neg h12,e0,e12]
     rfl
  obtain ⟨za,zb⟩:=z
  simp only at z1 z2 z3
  have hcn:=HM.out.cnt
  have HSt:=aj HM.out.st
  cases za <;> cases zb
  all_goals
   go_wp2_with fail
   go_ret2
   exact aa4 (by rw [HF.out]) (by rw [HF.out];exact z3.out) HSt.out
end Ns
end Go.Proofs.YtpcmlopbkehffaaGreat
