/-
  The library's partialInsertionSort at uint64.
-/
import Derived.Test.YtpcmlopbkehffaaGreatOGCA
import Derived.Test.YtpcmlopbkehffaaGreatOGCB
import Derived.Test.YtpcmlopbkehffaaGreatOShelf
import Derived.Sort.WalkA6
import Derived.Deep.DeepCutAuto
import Derived.Deep.CutBlock
import Derived.Sort.Walk7
import Derived.Shelf.SlSortCmp.Xorshift
import Derived.Laws.BitsLemmas
import Derived.Sort.Walk13a
import Derived.Sort.AssemblyPlain
import Derived.Deep.Cut
set_option linter.unusedSimpArgs false
set_option linter.unusedVariables false
namespace Go.Proofs.YtpcmlopbkehffaaGreat
open Go.RowKit Go.Sort
namespace Ns
def aav (B:Nat) (w0:World) (g off:Nat) (r:Array Nat×Bool) (e:Ending) (W:World):Prop:=e = .returned (.bool r.2)∧NSt B w0 g off r.1 W
theorem zO {B:Nat} {w0:World} {g off:Nat} {z:Bool} {d:Array Nat} {r:Array Nat×Bool} {W:World} (h:r=(d,z)) (hs:NSt B w0 g off d W):aav B w0 g off r (.returned (.bool z)) W:=by subst h;exact ⟨rfl,hs⟩
set_option maxRecDepth 100000 in
set_option maxHeartbeats 8000000 in
theorem aiV (B:Nat) (w0:World) (g off n c a b:Nat) (d:Array Nat) (w:World) (h:NSt B w0 g off d w) (hn:d.size=n) (hm:n≤1000000000) (hnc:n≤c) (hab:a<b) (hb:b≤n) :
  Calls Tryz.prog 113 #[.slice (some ⟨g,off,none⟩) n c,.int .i64 (a:Nat),.int .i64 (b:Nat)] w (aav B w0 g off (partialInsertionSort ltN d a b)):=by
 have HDef:=aj (show partialInsertionSort ltN d a b=partialIns ltN a b (5-0) (a+1) d from rfl)
 generalize partialInsertionSort ltN d a b=res at *
 have HN:=aj hn
 have H0:=aj h
 obtain ⟨L,hL⟩:∃ L:Nat,b=a+L:=⟨b-a,by omega⟩
 have hLI:((b:Int)-(a:Int))=(L:Int):=by omega
 have HBL:=aj hL
 clear h hn hL
 go_enter Tryz.func113,Tryz.ntmps113
 go_wp2_with fail
 go_loopw [7,8] (fun v7 v8 wr=>∃ (i s:Nat) (dk:Array Nat),v7 = .int .i64 i∧v8 = .int .i64 s∧a<i∧i≤b∧s≤5∧Hid (dk.size=n)∧Hid (NSt B w0 g off dk wr)∧Hid (partialIns ltN a b (5-s) i dk=res)) (fun _ v8 _=>5-(intOf v8).toNat)
 case atStart=>exact ⟨a+1,0,d,by go_num,rfl,by omega,by omega,by omega,HN,H0,aj HDef.out.symm⟩
 case round =>
  obtain ⟨i,s,dk,rfl,rfl,hai,hib,hs5,HSk,HK,HR⟩:=hrel
  by_cases hs:s<5
  ·have e0 : decide ((s:Int)<5)=true:=decide_eq_true (by omega)
   obtain ⟨w5,hw5⟩:∃ w5:World,w5=wr:=⟨_,rfl⟩
   subst hw5
   have HS:=aj hs
   clear hs
   go_upto_block 2 with fail
   go_cut [7] (fun v7 wc=>∃ (i1:Nat) (wx:World),wx=wc∧v7 = .int .i64 i1∧a<i1∧i1≤b∧Hid (NSt B w0 g off dk wx)∧Hid (scanSorted ltN dk b i=i1))
   case first =>
    go_wp2_with fail
    go_loopw [7] (fun v7 wi=>∃ i1:Nat,v7 = .int .i64 i1∧a<i1∧i1≤b∧Hid (NSt B w0 g off dk wi)∧Hid (scanSorted ltN dk b i1=scanSorted ltN dk b i)) (fun v7 _=>b-(intOf v7).toNat)
    case atStart=>exact ⟨i,rfl,hai,hib,by assumption,aj rfl⟩
    case round =>
     obtain ⟨i1,rfl,hai1,hib1,HK1,HU⟩:=hrel
     by_cases hle:i1<b
     ·have Hgo:=aj (fun hp=>scanSorted_go ltN dk b i1 hle hp)
      have Hend:=aj (fun hp=>scanSorted_stop ltN dk b i1 (.inr hp))
      have hc1:=HK1.out.at_ i1 (by have:=HSk.out;omega)
      have hc2:=HK1.out.at_ (i1-1) (by have:=HSk.out;omega)
      obtain ⟨x,hx⟩:∃ x:Nat,x=dk[i1]! := ⟨_,rfl⟩
      obtain ⟨y,hy⟩:∃ y:Nat,y=dk[i1-1]! := ⟨_,rfl⟩
      rw [← hx] at hc1
      rw [← hy] at hc2
      have HX:=aj hx
      have HY:=aj hy
      clear hx hy
      have m1:(0:Int)≤(i1:Int):=by omega
      have m2:(i1:Int)<(n:Int):=by omega
      have m3:(0:Int)≤(i1:Int)-1:=by omega
      have m4:(i1:Int)-1<(n:Int):=by omega
      have m5:(1:Int)≤(i1:Int):=by omega
      have m6:((i1:Int)-1).toNat=i1-1:=by omega
      have e1:decide ((i1:Int)<(b:Int))=true:=decide_eq_true (by omega)
      have e2:decide (i1<b)=true:=decide_eq_true hle
      have HLE:=aj hle
      clear hle
      cases hl:ltN x y
      ·have Hlv:=aj (fun W=>dJ x y W)
       rw [hl] at Hlv
       have hp:ltN dk[i1]! dk[i1-1]! = false:=by rw [← HX.out,← HY.out];exact hl
       have Hov:=aj (Hgo.out hp)
       clear hl hp
       go_wp2_with fail
       go_quiet ((go_at_call 114;exact Calls.quiet_of_same (Hlv.out _)))
       go_wp2_with fail
       go_roundw
       case rel=>exact ⟨i1+1,by go_num,by omega,by have:=HLE.out;omega,aj (HK1.out.drewN _),aj (by rw [← Hov.out];exact HU.out)⟩
       case measure=>have:=HLE.out;simp [intOf];omega
      ·have Hlv:=aj (fun W=>dJ x y W)
       rw [hl] at Hlv
       have hp:ltN dk[i1]! dk[i1-1]! = true:=by rw [← HX.out,← HY.out];exact hl
       have HU2:=aj (show scanSorted ltN dk b i=i1 from HU.out.symm.trans (Hend.out hp))
       clear hl hp
       go_wp2_with fail
       go_quiet ((go_at_call 114;exact Calls.quiet_of_same (Hlv.out _)))
       have HE:=aj (HK1.out.drewN nq)
       go_wp2_with fail
       go_meet
       exact ⟨i1,_,rfl,rfl,hai1,hib1,HE,HU2⟩
     ·have e1:decide ((i1:Int)<(b:Int))=false:=decide_eq_false (by omega)
      have e2:decide (i1<b)=false:=decide_eq_false hle
      have HU2:=aj (show scanSorted ltN dk b i=i1 from HU.out.symm.trans (scanSorted_stop ltN dk b i1 (.inl hle)))
      go_wp2_with fail
      go_quiet (fail)
      have HE:=aj (HK1.out.drewN nq)
      go_wp2_with fail
      go_meet
      exact ⟨i1,_,rfl,rfl,hai1,hib1,HE,HU2⟩
   case rest =>
    obtain ⟨i1,wx,rfl,rfl,hai1,hib1,HT,HU⟩:=hcut
    by_cases hbb:i1=b
    ·subst hbb
     have e3:((i1:Int)==(i1:Int))=true:=by simp
     have HF:=aj (show res=(dk,true) from HR.out.symm.trans (pi_true ltN a i1 s i dk HS.out HU.out))
     go_wp2_with fail
     go_ret
     exact zO HF.out HT.out
    have e3:((i1:Int)==(b:Int))=false:=by simp;omega
    have e4:(i1==b)=false:=by simp;omega
    by_cases h50:b-a<50
    ·have e5:decide ((L:Int)<50)=true:=decide_eq_true (by have:=HBL.out;omega)
     have HF:=aj (show res=(dk,false) from HR.out.symm.trans (pi_short ltN a b s i dk HS.out (by rw [HU.out];exact hbb) h50))
     go_wp2_with fail
     go_ret
     exact zO HF.out HT.out
    have e5:decide ((L:Int)<50)=false:=decide_eq_false (by have:=HBL.out;omega)
    have HGO:=aj ((pi_go ltN a b s i i1 dk HS.out HU.out hbb h50).symm.trans HR.out)
    have hi1b:i1<b:=by omega
    have hf1:=HT.out.free
    have hgl:=HT.out.lt
    have HSW:=aj (HT.out.swap (i:=i1) (j:=i1-1) (by have:=HSk.out;omega) (by have:=HSk.out;omega))
    have hc1:=HT.out.at_ i1 (by have:=HSk.out;omega)
    have hc2:=HT.out.at_ (i1-1) (by have:=HSk.out;omega)
    obtain ⟨x,hx⟩:∃ x:Nat,x=dk[i1]! := ⟨_,rfl⟩
    obtain ⟨y,hy⟩:∃ y:Nat,y=dk[i1-1]! := ⟨_,rfl⟩
    rw [← hx] at hc1
    rw [← hy] at hc2
    have HX:=aj hx
    have HY:=aj hy
    clear hx hy
    have m1:(0:Int)≤(i1:Int):=by omega
    have m2:(i1:Int)<(n:Int):=by omega
    have m3:(0:Int)≤(i1:Int)-1:=by omega
    have m4:(i1:Int)-1<(n:Int):=by omega
    have m5:(1:Int)≤(i1:Int):=by omega
    have m6:((i1:Int)-1).toNat=i1-1:=by omega
    have hsw:=HSW.out
    rw [← HX.out,← HY.out] at hsw
    have HSW2:=aj hsw
    clear hsw HSW
    have hne:¬ i1=i1-1:=by omega
    have hne2:¬ i1-1=i1:=by omega
    go_wp2_with fail
    go_region
    have hs3:=HSW2.out
    generalize (((wx.setCell ⟨g,off+i1,none⟩ (.int .u64 (y:Nat))).setCell ⟨g,off+(i1-1),none⟩ (.int .u64 (x:Nat))).drew)=w3 at *
    have HS3:=aj hs3
    clear hs3 HSW2 hc1 hc2 hf1 hgl
    obtain ⟨d1,hd1⟩:∃ d1:Array Nat,d1=swp dk i1 (i1-1):=⟨_,rfl⟩
    have HSZ:=aj (show d1.size=n by rw [hd1,size_swp];exact HSk.out)
    rw [← hd1] at HS3 HGO
    have HSA:=HS3
    clear hd1 HX HY HT HU HR HK HSk
    go_upto_if 61 with fail
    go_cut [] (fun wc=>∃ (wx:World) (dz:Array Nat),wx=wc∧Hid (dz.size=n)∧Hid (NSt B w0 g off dz wx)∧Hid (dz=fixDown ltN a i1 d1))
    case first =>
     by_cases h2:2≤i1-a
     ·have e10:decide ((i1:Int)-(a:Int) ≥ 2)=true:=decide_eq_true (by omega)
      have e11:decide ((2:Int)≤(i1:Int)-(a:Int))=true:=decide_eq_true (by omega)
      have HFX:=aj (show fixDown ltN a i1 d1=shiftDown ltN (i1-1) d1 from if_pos h2)
      go_wp2_with fail
      go_loopw [9] (fun v wi=>∃ (j:Nat) (dj:Array Nat),v = .int .i64 j∧(j≤i1)∧Hid (dj.size=n)∧Hid (NSt B w0 g off dj wi)∧Hid (shiftDown ltN j dj=shiftDown ltN (i1-1) d1)) (fun v _=>(intOf v).toNat)
      case atStart=>exact ⟨(i1-1),d1,by first | go_num | (congr 1;omega),by omega,HSZ,HSA,aj rfl⟩
      case round =>
       obtain ⟨j,dj,rfl,hbj,HSk,HJ,HI⟩:=hrel
       by_cases hcj:1≤j
       ·have Hgo:=aj (fun hl=>shiftDown_go ltN j dj hcj hl)
        have Hst:=aj (fun hl=>shiftDown_stop ltN j dj (.inr hl))
        have e6:decide ((j:Int) ≥ 1)=true:=decide_eq_true (by omega)
        have e7:decide ((1:Int)≤(j:Int))=true:=decide_eq_true (by omega)
        have e8:decide (1≤j)=true:=decide_eq_true (by omega)
        have hc1:=HJ.out.at_ j (by have:=HSk.out;omega)
        have hc2:=HJ.out.at_ (j-1) (by have:=HSk.out;omega)
        obtain ⟨x,hx⟩:∃ x:Nat,x=dj[j]! := ⟨_,rfl⟩
        obtain ⟨y,hy⟩:∃ y:Nat,y=dj[j-1]! := ⟨_,rfl⟩
        rw [← hx] at hc1
        rw [← hy] at hc2
        have HX:=aj hx
        have HY:=aj hy
        clear hx hy
        have m1:(0:Int)≤(j:Int):=by omega
        have m2:(j:Int)<(n:Int):=by omega
        have m3:(0:Int)≤(j:Int)-1:=by omega
        have m4:(j:Int)-1<(n:Int):=by omega
        have m5:(1:Int)≤(j:Int):=by omega
        have m6:((j:Int)-1).toNat=j-1:=by omega
        have hne:¬ j=j-1:=by omega
        have hne2:¬ j-1=j:=by omega
        have HSWj:=aj (fun (W:World) (hW:NSt B w0 g off dj W)=>And.intro (hW.at_ j (by have:=HSk.out;omega)) (And.intro (hW.at_ (j-1) (by have:=HSk.out;omega)) (hW.swap (i:=j) (j:=j-1) (by have:=HSk.out;omega) (by have:=HSk.out;omega))))
        rw [← HX.out,← HY.out] at HSWj
        have HC:=aj hcj
        clear hcj
        cases hl:ltN x y
        ·have Hlv:=aj (fun W=>dJ x y W)
         rw [hl] at Hlv
         have hp:ltN dj[j]! dj[j-1]! = false:=by rw [← HX.out,← HY.out];exact hl
         have HFin:=aj ((Hst.out hp).symm.trans HI.out)
         clear hl hp
         go_wp2_with fail
         go_quiet ((go_at_call 114;exact Calls.quiet_of_same (Hlv.out _)))
         have HE:=aj (HJ.out.drewN nq)
         go_wp2_with fail
         go_meet
         exact ⟨_,dj,rfl,HSk,HE,aj (HFin.out.trans HFX.out.symm)⟩
        ·have Hlv:=aj (fun W=>dJ x y W)
         rw [hl] at Hlv
         have hp:ltN dj[j]! dj[j-1]! = true:=by rw [← HX.out,← HY.out];exact hl
         have Hov:=aj (Hgo.out hp)
         clear hl hp
         go_wp2_with fail
         go_quiet ((go_at_call 114;exact Calls.quiet_of_same (Hlv.out _)))
         have HQ:=aj (HJ.out.drewN nq)
         clear hc1 hc2
         generalize wr.drewN nq=wq at *
         obtain ⟨hc1,hc2,hsw⟩:=HSWj.out wq HQ.out
         have HSX:=aj hsw
         have hf1:=HQ.out.free
         have hgl:=HQ.out.lt
         clear hsw
         go_wp2_with fail
         go_region
         go_wp2_with fail
         go_roundw
         case rel=>exact ⟨j-1,swp dj j (j-1),by first | go_num | (congr 1;have:=HC.out;omega),by omega,aj (by rw [size_swp];exact HSk.out),HSX,aj (by rw [← Hov.out];exact HI.out)⟩
         case measure=>have:=HC.out;simp [intOf];omega
       ·have HFin:=aj ((shiftDown_stop ltN j dj (.inl (by omega))).symm.trans HI.out)
        have e6:decide ((j:Int) ≥ 1)=false:=decide_eq_false (by omega)
        have e7:decide ((1:Int)≤(j:Int))=false:=decide_eq_false (by omega)
        have e8:decide (1≤j)=false:=decide_eq_false (by omega)
        have HE:=HJ
        go_wp2_with fail
        go_meet
        exact ⟨_,dj,rfl,HSk,HE,aj (HFin.out.trans HFX.out.symm)⟩
     ·have e10:decide ((i1:Int)-(a:Int) ≥ 2)=false:=decide_eq_false (by omega)
      have e11:decide ((2:Int)≤(i1:Int)-(a:Int))=false:=decide_eq_false (by omega)
      have HFX:=aj (show fixDown ltN a i1 d1=d1 from if_neg h2)
      have HE:=HSA
      go_wp2_with fail
      go_meet
      exact ⟨_,d1,rfl,HSZ,HE,aj HFX.out.symm⟩
    case rest =>
     obtain ⟨w7,d2,rfl,HSZ2,HSA2,HD2⟩:=hcut
     have HSZ:=HSZ2
     have HSA:=HSA2
     by_cases h2:2≤b-i1
     ·have e10:decide ((b:Int)-(i1:Int) ≥ 2)=true:=decide_eq_true (by omega)
      have e11:decide ((2:Int)≤(b:Int)-(i1:Int))=true:=decide_eq_true (by omega)
      have HFX:=aj (show fixUp ltN b i1 d2=shiftUp ltN b (i1+1) d2 from if_pos h2)
      go_wp2_with fail
      go_loopw [10] (fun v wi=>∃ (j:Nat) (dj:Array Nat),v = .int .i64 j∧(a<j∧j≤b)∧Hid (dj.size=n)∧Hid (NSt B w0 g off dj wi)∧Hid (shiftUp ltN b j dj=shiftUp ltN b (i1+1) d2)) (fun v _=>b-(intOf v).toNat)
      case atStart=>exact ⟨(i1+1),d2,by first | go_num | (congr 1;omega),⟨by omega,by omega⟩,HSZ,HSA,aj rfl⟩
      case round =>
       obtain ⟨j,dj,rfl,hbj,HSk,HJ,HI⟩:=hrel
       by_cases hcj:j<b
       ·have Hgo:=aj (fun hl=>shiftUp_go ltN b j dj hcj hl)
        have Hst:=aj (fun hl=>shiftUp_stop ltN b j dj (.inr hl))
        have e6:decide ((j:Int)<(b:Int))=true:=decide_eq_true (by omega)
        have e8:decide (j<b)=true:=decide_eq_true (by omega)
        have hc1:=HJ.out.at_ j (by have:=HSk.out;omega)
        have hc2:=HJ.out.at_ (j-1) (by have:=HSk.out;omega)
        obtain ⟨x,hx⟩:∃ x:Nat,x=dj[j]! := ⟨_,rfl⟩
        obtain ⟨y,hy⟩:∃ y:Nat,y=dj[j-1]! := ⟨_,rfl⟩
        rw [← hx] at hc1
        rw [← hy] at hc2
        have HX:=aj hx
        have HY:=aj hy
        clear hx hy
        have m1:(0:Int)≤(j:Int):=by omega
        have m2:(j:Int)<(n:Int):=by omega
        have m3:(0:Int)≤(j:Int)-1:=by omega
        have m4:(j:Int)-1<(n:Int):=by omega
        have m5:(1:Int)≤(j:Int):=by omega
        have m6:((j:Int)-1).toNat=j-1:=by omega
        have hne:¬ j=j-1:=by omega
        have hne2:¬ j-1=j:=by omega
        have HSWj:=aj (fun (W:World) (hW:NSt B w0 g off dj W)=>And.intro (hW.at_ j (by have:=HSk.out;omega)) (And.intro (hW.at_ (j-1) (by have:=HSk.out;omega)) (hW.swap (i:=j) (j:=j-1) (by have:=HSk.out;omega) (by have:=HSk.out;omega))))
        rw [← HX.out,← HY.out] at HSWj
        have HC:=aj hcj
        clear hcj
        cases hl:ltN x y
        ·have Hlv:=aj (fun W=>dJ x y W)
         rw [hl] at Hlv
         have hp:ltN dj[j]! dj[j-1]! = false:=by rw [← HX.out,← HY.out];exact hl
         have HFin:=aj ((Hst.out hp).symm.trans HI.out)
         clear hl hp
         go_wp2_with fail
         go_quiet ((go_at_call 114;exact Calls.quiet_of_same (Hlv.out _)))
         have HE:=aj (HJ.out.drewN nq)
         go_wp2_with fail
         go_roundw
         case rel=>exact ⟨i1,s+1,dj,rfl,by go_num,by omega,by omega,by have:=HS.out;omega,HSk,HE,aj (by rw [(HFin.out.trans HFX.out.symm),HD2.out];exact HGO.out)⟩
         case measure=>have:=HS.out;simp [intOf];omega
        ·have Hlv:=aj (fun W=>dJ x y W)
         rw [hl] at Hlv
         have hp:ltN dj[j]! dj[j-1]! = true:=by rw [← HX.out,← HY.out];exact hl
         have Hov:=aj (Hgo.out hp)
         clear hl hp
         go_wp2_with fail
         go_quiet ((go_at_call 114;exact Calls.quiet_of_same (Hlv.out _)))
         have HQ:=aj (HJ.out.drewN nq)
         clear hc1 hc2
         generalize wr.drewN nq=wq at *
         obtain ⟨hc1,hc2,hsw⟩:=HSWj.out wq HQ.out
         have HSX:=aj hsw
         have hf1:=HQ.out.free
         have hgl:=HQ.out.lt
         clear hsw
         go_wp2_with fail
         go_region
         go_wp2_with fail
         go_roundw
         case rel=>exact ⟨j+1,swp dj j (j-1),by first | go_num | (congr 1;have:=HC.out;omega),⟨by omega,by have:=HC.out;omega⟩,aj (by rw [size_swp];exact HSk.out),HSX,aj (by rw [← Hov.out];exact HI.out)⟩
         case measure=>have:=HC.out;simp [intOf];omega
       ·have HFin:=aj ((shiftUp_stop ltN b j dj (.inl (by omega))).symm.trans HI.out)
        have e6:decide ((j:Int)<(b:Int))=false:=decide_eq_false (by omega)
        have e8:decide (j<b)=false:=decide_eq_false (by omega)
        have HE:=HJ
        go_wp2_with fail
        go_roundw
        case rel=>exact ⟨i1,s+1,dj,rfl,by go_num,by omega,by omega,by have:=HS.out;omega,HSk,HE,aj (by rw [(HFin.out.trans HFX.out.symm),HD2.out];exact HGO.out)⟩
        case measure=>have:=HS.out;simp [intOf];omega
     ·have e10:decide ((b:Int)-(i1:Int) ≥ 2)=false:=decide_eq_false (by omega)
      have e11:decide ((2:Int)≤(b:Int)-(i1:Int))=false:=decide_eq_false (by omega)
      have HFX:=aj (show fixUp ltN b i1 d2=d2 from if_neg h2)
      have HE:=HSA
      go_wp2_with fail
      go_roundw
      case rel=>exact ⟨i1,s+1,d2,rfl,by go_num,by omega,by omega,by have:=HS.out;omega,HSZ,HE,aj (by rw [HFX.out.symm,HD2.out];exact HGO.out)⟩
      case measure=>have:=HS.out;simp [intOf];omega
  ·obtain rfl:s=5:=by omega
   have HF:=aj (show res=(dk,false) by rw [← HR.out,pi_end])
   go_wp2_with fail
   go_ret
   exact zO HF.out HK.out
end Ns
end Go.Proofs.YtpcmlopbkehffaaGreat
namespace Go.Proofs.YtpcmlopbkehffaaGreat
open Go.RowKit Go.Sort
namespace Ns
structure NBx (B:Nat) (w0:World) (g off:Nat) (d:Array Nat) (sb r:Nat) (W:World):Prop where
 st:NSt B w0 g off d W
 cnt:W.cell? ⟨sb,0,none⟩=some (.int .u64 (r:Nat))
 fr:W.frozen? ⟨sb,0,none⟩=false
 ne:sb≠g
 old:B≤sb
theorem NBx.drewN {B:Nat} {w0:World} {g off:Nat} {d:Array Nat} {sb s:Nat} {W:World} (h:NBx B w0 g off d sb s W) (q:Nat):NBx B w0 g off d sb s (W.drewN q):=⟨h.st.drewN q,h.cnt,h.fr,h.ne,h.old⟩
theorem NBx.count {B:Nat} {w0:World} {g off:Nat} {d:Array Nat} {sb s:Nat} {W:World} (h:NBx B w0 g off d sb s W) (t:Nat):NBx B w0 g off d sb t (W.setCell ⟨sb,0,none⟩ (.int .u64 (t:Nat))):=by
 have hg:∀ o,(W.setCell ⟨sb,0,none⟩ (.int .u64 (t:Nat))).cell? ⟨g,o,none⟩=W.cell? ⟨g,o,none⟩:=fun o=>World.cell?_setCell_other W ⟨sb,0,none⟩ ⟨g,o,none⟩ _ (fun e=>h.ne (by injection e))
 exact ⟨⟨h.st.bel.setCell (p:=⟨sb,0,none⟩) h.old _,fun k hk=>by rw [hg];exact h.st.at_ k hk,fun o=>by rw [World.frozen?_setCell];exact h.st.free o,h.st.old,by rw [World.size_setCell];exact h.st.lt⟩,
  World.cell?_setCell_same W ⟨sb,0,none⟩ _ h.cnt,by rw [World.frozen?_setCell];exact h.fr,h.ne,h.old⟩
theorem NBx.swap {B:Nat} {w0:World} {g off:Nat} {d:Array Nat} {sb s:Nat} {W:World} (h:NBx B w0 g off d sb s W) {i j:Nat} (hi:i<d.size) (hj:j<d.size) :
  NBx B w0 g off (swp d i j) sb s ((W.setCell ⟨g,off+i,none⟩ (.int .u64 (d[j]! : Nat))).setCell ⟨g,off+j,none⟩ (.int .u64 (d[i]! : Nat))).drew:=by
 refine ⟨h.st.swap hi hj,?_,?_,h.ne,h.old⟩
 ·show ((W.setCell ⟨g,off+i,none⟩ _).setCell ⟨g,off+j,none⟩ _).cell? ⟨sb,0,none⟩=_
  rw [World.cell?_setCell_other _ ⟨g,off+j,none⟩ ⟨sb,0,none⟩ _ (fun e=>h.ne (by injection e with e;exact e.symm)),World.cell?_setCell_other _ ⟨g,off+i,none⟩ ⟨sb,0,none⟩ _ (fun e=>h.ne (by injection e with e;exact e.symm))]
  exact h.cnt
 ·show ((W.setCell ⟨g,off+i,none⟩ _).setCell ⟨g,off+j,none⟩ _).frozen? ⟨sb,0,none⟩=_
  rw [World.frozen?_setCell,World.frozen?_setCell]
  exact h.fr
theorem ahs {B:Nat} {w0:World} {g off:Nat} {d:Array Nat} {W:World} (h:NSt B w0 g off d W) (r:Nat) (T:TypeId):NBx B w0 g off d W.heap.size r (W.alloc (.cells #[.int .u64 (r:Nat)] T)):=by
 refine ⟨h.keep ((Below.refl _ _).alloc (Nat.le_refl _) _) h.base,?_,?_,Nat.ne_of_gt h.lt,h.base⟩
 ·rw [World.cell?_alloc_mark];rfl
 ·go_simp
set_option maxRecDepth 100000 in
set_option maxHeartbeats 8000000 in
theorem aeX (B:Nat) (w0:World) (g off n c a b:Nat) (d:Array Nat) (w:World) (h:NSt B w0 g off d w) (hn:d.size=n) (hm:n≤1000000000) (hnc:n≤c) (hab:a+8≤b) (hb:b≤n) :
  Calls Tryz.prog 110 #[.slice (some ⟨g,off,none⟩) n c,.int .i64 (a:Nat),.int .i64 (b:Nat)] w (o7 B w0 g off (breakPatterns d a b)):=by
 obtain ⟨L,hL⟩:∃ L:Nat,b=a+L:=⟨b-a,by omega⟩
 subst hL
 have hLI:(((a+L:Nat):Int)-(a:Int))=(L:Int):=by omega
 have hLI2:((a:Int)+(L:Int)-(a:Int))=(L:Int):=by omega
 have h8:8≤L:=by omega
 have q1:(8:Int)≤(L:Int):=by omega
 have HDef:=aj (breakPatterns_eq d a L h8)
 generalize breakPatterns d a (a+L)=res at *
 have HNP:=aj (fun (W:World)=>AnyF.nextPowerOfTwo {Sh.sortSpans with} L (by omega) W)
 obtain ⟨M,hM⟩:∃ M:Nat,M=1 <<< bitsLen L:=⟨_,rfl⟩
 have hM1:1≤M:=by rw [hM,Nat.one_shiftLeft];exact Nat.two_pow_pos _
 have hM2:M≤2*L:=by
  rw [hM,Nat.one_shiftLeft]
  exact two_pow_bitsLen_le (by omega)
 rw [← hM] at HNP HDef
 have HM:=aj hM
 obtain ⟨i0,hi0⟩:∃ i0:Nat,i0=a+L / 4*2-1:=⟨_,rfl⟩
 rw [← hi0] at HDef
 have eI:(a:Int)+(L:Int) / 4*2-1=(i0:Int):=by omega
 have eE:(a:Int)+(L:Int) / 4*2+1=(i0:Int)+2:=by omega
 have bI:i0+2<a+L:=by omega
 have hI:a≤i0:=by omega
 have HI0:=aj hi0
 have Hbox:=aj (ahs h L 214)
 have HSz:=aj hn
 clear h hn hM hi0
 go_enter Tryz.func110,Tryz.ntmps110
 go_wp2_with fail
 refine Calls.mono (HNP.out _) ?_
 rintro e w1 ⟨rfl,rfl⟩
 generalize hw1:w.alloc (.cells #[.int .u64 (L:Nat)] 214)=w1 at *
 clear hw1
 generalize w.heap.size=sb at *
 go_wp2_with fail
 go_loopw [9] (fun v9 wr=>∃ (t:Nat) (r:UInt64) (dk:Array Nat),v9 = .int .i64 ((i0+t:Nat):Int)∧t≤3∧Hid (dk.size=n)∧Hid (NBx B w0 g off dk sb r.toNat wr)∧Hid (bpRest a L M i0 (3-t) t (r,dk)=res)) (fun v9 _=>(i0+3:Nat)-(intOf v9).toNat)
 case atStart=>exact ⟨0,UInt64.ofNat L,d,rfl,by omega,HSz,aj (by rw [show (UInt64.ofNat L).toNat=L by simp;omega];exact Hbox.out),aj HDef.out.symm⟩
 case round =>
  obtain ⟨t,r,dk,rfl,ht,HSk,HK,HR⟩:=hrel
  by_cases ht3:t<3
  ·have e1:decide (((i0+t:Nat):Int)≤(i0:Int)+2)=true:=decide_eq_true (by omega)
   have e1':decide ((i0:Int)+(t:Int)≤(i0:Int)+2)=true:=decide_eq_true (by omega)
   obtain ⟨R,hR⟩:∃ R:Nat,R=r.toNat:=⟨_,rfl⟩
   have lR:R<18446744073709551616:=by rw [hR];exact r.toNat_lt
   obtain ⟨X,hX⟩:∃ X:Nat,X=xorNextN R:=⟨_,rfl⟩
   have lX:X<18446744073709551616:=by rw [hX];exact xorNextN_lt R lR
   obtain ⟨O,hO⟩:∃ O:Nat,O=X &&& (M-1):=⟨_,rfl⟩
   have lO:O≤M-1:=by rw [hO];exact Nat.and_le_right
   have eAnd:bits .and .u64 (X:Int) ((M:Int)-1)=(O:Int):=by
    rw [show ((M:Int)-1)=((M-1:Nat):Int) by omega,bits_and_u64_nat _ _ lX (by omega),hO]
   rw [← hR] at HK
   have HNX:=aj (AnyF.xorshift_Next {Sh.sortSpans with} sb 0 R lR wr HK.out.cnt HK.out.fr)
   rw [← hX] at HNX
   have HXr:=aj (show X=(xorNext r).toNat by rw [hX,hR,xorNext_toNat])
   have HOr:=aj hO
   have Hn:=aj ((HK.out.count X).drewN 3)
   have HlX:=aj lX
   clear hR lR hX hO lX
   go_wp2_with fail
   refine Calls.mono HNX.out ?_
   rintro e w2 ⟨rfl,hw2⟩
   have Hn2:=aj (show NBx B w0 g off dk sb X w2 by rw [hw2];exact Hn.out)
   clear hw2
   by_cases hLO:O ≥ L
   ·have e2:decide ((O:Int) ≥ (L:Int))=true:=decide_eq_true (by omega)
    have e3:decide (L≤O)=true:=decide_eq_true hLO
    by_cases hsame:i0+t=a+(O-L)
    ·skip
     have HST:=aj ((bp_step a L M i0 t r dk (O-L) ht3 (by rw [← HXr.out,← HOr.out];exact if_pos hLO)).symm.trans HR.out)
     have hs1:i0+t<dk.size:=by have:=HSk.out;omega
     have hs2:a+(O-L)<dk.size:=by have:=HSk.out;omega
     have g1:=Hn2.out.st.at_ (i0+t) hs1
     have g2:=Hn2.out.st.at_ (a+(O-L)) hs2
     have hf1:=Hn2.out.st.free
     have hgl:=Hn2.out.st.lt
     have HSW:=aj (Hn2.out.swap (i:=i0+t) (j:=a+(O-L)) hs1 hs2)
     obtain ⟨u,hu⟩:∃ u:Nat,u=dk[i0+t]! := ⟨_,rfl⟩
     obtain ⟨v,hv⟩:∃ v:Nat,v=dk[a+(O-L)]! := ⟨_,rfl⟩
     rw [← hu] at g1 HSW
     rw [← hv] at g2 HSW
     clear hs1 hs2
     have k1:(0:Int)≤(i0:Int)+(t:Int):=by omega
     have k2:(i0:Int)+(t:Int)<(n:Int):=by omega
     have k3:((i0:Int)+(t:Int)).toNat=i0+t:=by omega
     have k4:(0:Int)≤(a:Int)+((O:Int)-(L:Int)):=by omega
     have k5:(a:Int)+((O:Int)-(L:Int))<(n:Int):=by omega
     have k6:((a:Int)+((O:Int)-(L:Int))).toNat=a+(O-L):=by omega
     obtain ⟨p,hp⟩:∃ p:Nat,p=i0+t:=⟨_,rfl⟩
     obtain ⟨q,hq⟩:∃ q:Nat,q=a+(O-L):=⟨_,rfl⟩
     rw [← hp] at k3 g1 HSW HST hu
     rw [← hq] at k6 g2 HSW HST hv
     have HP:=aj hp
     have HQ:=aj hq
     have hpq:p=q:=by rw [hp,hq];exact hsame
     clear hp hq hsame
     subst hpq
     obtain rfl:v=u:=by rw [hu,hv]
     clear hu hv
     go_wp2_with fail
     go_region
     all_goals
      go_wp2_with fail
      go_roundw
      case rel=>exact ⟨t+1,xorNext r,swp dk p p,by first | rfl | (congr 1;omega),by omega,aj (by rw [size_swp];exact HSk.out),aj (by rw [← HXr.out];exact HSW.out),HST⟩
      case measure=>simp [intOf];omega
    ·skip
     have HST:=aj ((bp_step a L M i0 t r dk (O-L) ht3 (by rw [← HXr.out,← HOr.out];exact if_pos hLO)).symm.trans HR.out)
     have hs1:i0+t<dk.size:=by have:=HSk.out;omega
     have hs2:a+(O-L)<dk.size:=by have:=HSk.out;omega
     have g1:=Hn2.out.st.at_ (i0+t) hs1
     have g2:=Hn2.out.st.at_ (a+(O-L)) hs2
     have hf1:=Hn2.out.st.free
     have hgl:=Hn2.out.st.lt
     have HSW:=aj (Hn2.out.swap (i:=i0+t) (j:=a+(O-L)) hs1 hs2)
     obtain ⟨u,hu⟩:∃ u:Nat,u=dk[i0+t]! := ⟨_,rfl⟩
     obtain ⟨v,hv⟩:∃ v:Nat,v=dk[a+(O-L)]! := ⟨_,rfl⟩
     rw [← hu] at g1 HSW
     rw [← hv] at g2 HSW
     clear hs1 hs2
     have k1:(0:Int)≤(i0:Int)+(t:Int):=by omega
     have k2:(i0:Int)+(t:Int)<(n:Int):=by omega
     have k3:((i0:Int)+(t:Int)).toNat=i0+t:=by omega
     have k4:(0:Int)≤(a:Int)+((O:Int)-(L:Int)):=by omega
     have k5:(a:Int)+((O:Int)-(L:Int))<(n:Int):=by omega
     have k6:((a:Int)+((O:Int)-(L:Int))).toNat=a+(O-L):=by omega
     obtain ⟨p,hp⟩:∃ p:Nat,p=i0+t:=⟨_,rfl⟩
     obtain ⟨q,hq⟩:∃ q:Nat,q=a+(O-L):=⟨_,rfl⟩
     rw [← hp] at k3 g1 HSW HST hu
     rw [← hq] at k6 g2 HSW HST hv
     have HP:=aj hp
     have HQ:=aj hq
     have hne:¬ p=q:=by rw [hp,hq];exact hsame
     have hne2:¬ q=p:=fun e=>hne e.symm
     clear hp hq hu hv
     go_wp2_with fail
     go_region
     all_goals
      go_wp2_with fail
      go_roundw
      case rel=>exact ⟨t+1,xorNext r,swp dk p q,by first | rfl | (congr 1;omega),by omega,aj (by rw [size_swp];exact HSk.out),aj (by rw [← HXr.out];exact HSW.out),HST⟩
      case measure=>simp [intOf];omega
   ·have e2:decide ((O:Int) ≥ (L:Int))=false:=decide_eq_false (by omega)
    have e3:decide (L≤O)=false:=decide_eq_false hLO
    by_cases hsame:i0+t=a+O
    ·skip
     have HST:=aj ((bp_step a L M i0 t r dk O ht3 (by rw [← HXr.out,← HOr.out];exact if_neg hLO)).symm.trans HR.out)
     have hs1:i0+t<dk.size:=by have:=HSk.out;omega
     have hs2:a+O<dk.size:=by have:=HSk.out;omega
     have g1:=Hn2.out.st.at_ (i0+t) hs1
     have g2:=Hn2.out.st.at_ (a+O) hs2
     have hf1:=Hn2.out.st.free
     have hgl:=Hn2.out.st.lt
     have HSW:=aj (Hn2.out.swap (i:=i0+t) (j:=a+O) hs1 hs2)
     obtain ⟨u,hu⟩:∃ u:Nat,u=dk[i0+t]! := ⟨_,rfl⟩
     obtain ⟨v,hv⟩:∃ v:Nat,v=dk[a+O]! := ⟨_,rfl⟩
     rw [← hu] at g1 HSW
     rw [← hv] at g2 HSW
     clear hs1 hs2
     have k1:(0:Int)≤(i0:Int)+(t:Int):=by omega
     have k2:(i0:Int)+(t:Int)<(n:Int):=by omega
     have k3:((i0:Int)+(t:Int)).toNat=i0+t:=by omega
     have k4:(0:Int)≤(a:Int)+(O:Int):=by omega
     have k5:(a:Int)+(O:Int)<(n:Int):=by omega
     have k6:((a:Int)+(O:Int)).toNat=a+O:=by omega
     obtain ⟨p,hp⟩:∃ p:Nat,p=i0+t:=⟨_,rfl⟩
     obtain ⟨q,hq⟩:∃ q:Nat,q=a+O:=⟨_,rfl⟩
     rw [← hp] at k3 g1 HSW HST hu
     rw [← hq] at k6 g2 HSW HST hv
     have HP:=aj hp
     have HQ:=aj hq
     have hpq:p=q:=by rw [hp,hq];exact hsame
     clear hp hq hsame
     subst hpq
     obtain rfl:v=u:=by rw [hu,hv]
     clear hu hv
     go_wp2_with fail
     go_region
     all_goals
      go_wp2_with fail
      go_roundw
      case rel=>exact ⟨t+1,xorNext r,swp dk p p,by first | rfl | (congr 1;omega),by omega,aj (by rw [size_swp];exact HSk.out),aj (by rw [← HXr.out];exact HSW.out),HST⟩
      case measure=>simp [intOf];omega
    ·skip
     have HST:=aj ((bp_step a L M i0 t r dk O ht3 (by rw [← HXr.out,← HOr.out];exact if_neg hLO)).symm.trans HR.out)
     have hs1:i0+t<dk.size:=by have:=HSk.out;omega
     have hs2:a+O<dk.size:=by have:=HSk.out;omega
     have g1:=Hn2.out.st.at_ (i0+t) hs1
     have g2:=Hn2.out.st.at_ (a+O) hs2
     have hf1:=Hn2.out.st.free
     have hgl:=Hn2.out.st.lt
     have HSW:=aj (Hn2.out.swap (i:=i0+t) (j:=a+O) hs1 hs2)
     obtain ⟨u,hu⟩:∃ u:Nat,u=dk[i0+t]! := ⟨_,rfl⟩
     obtain ⟨v,hv⟩:∃ v:Nat,v=dk[a+O]! := ⟨_,rfl⟩
     rw [← hu] at g1 HSW
     rw [← hv] at g2 HSW
     clear hs1 hs2
     have k1:(0:Int)≤(i0:Int)+(t:Int):=by omega
     have k2:(i0:Int)+(t:Int)<(n:Int):=by omega
     have k3:((i0:Int)+(t:Int)).toNat=i0+t:=by omega
     have k4:(0:Int)≤(a:Int)+(O:Int):=by omega
     have k5:(a:Int)+(O:Int)<(n:Int):=by omega
     have k6:((a:Int)+(O:Int)).toNat=a+O:=by omega
     obtain ⟨p,hp⟩:∃ p:Nat,p=i0+t:=⟨_,rfl⟩
     obtain ⟨q,hq⟩:∃ q:Nat,q=a+O:=⟨_,rfl⟩
     rw [← hp] at k3 g1 HSW HST hu
     rw [← hq] at k6 g2 HSW HST hv
     have HP:=aj hp
     have HQ:=aj hq
     have hne:¬ p=q:=by rw [hp,hq];exact hsame
     have hne2:¬ q=p:=fun e=>hne e.symm
     clear hp hq hu hv
     go_wp2_with fail
     go_region
     all_goals
      go_wp2_with fail
      go_roundw
      case rel=>exact ⟨t+1,xorNext r,swp dk p q,by first | rfl | (congr 1;omega),by omega,aj (by rw [size_swp];exact HSk.out),aj (by rw [← HXr.out];exact HSW.out),HST⟩
      case measure=>simp [intOf];omega
  ·obtain rfl:t=3:=by omega
   have e1:decide (((i0+3:Nat):Int)≤(i0:Int)+2)=false:=decide_eq_false (by omega)
   have e1':decide ((i0:Int)+3≤(i0:Int)+2)=false:=decide_eq_false (by omega)
   have Hend:=aj (show NSt B w0 g off res wr by have h:=HK.out.st;rw [show res=dk from HR.out.symm];exact h)
   go_wp2_with fail
   go_end0
   exact ⟨rfl,Hend.out⟩
end Ns
end Go.Proofs.YtpcmlopbkehffaaGreat
namespace Go.Proofs.YtpcmlopbkehffaaGreat
open Go.RowKit Go.Sort
namespace Ns
theorem aiX (lt:Nat→Nat→Bool) (d:Array Nat) (a b:Nat) (h:12<b-a):a<(choosePivot lt d a b).1∧(choosePivot lt d a b).1+1<b:=by
 obtain ⟨L,hL⟩:∃ L:Nat,b=a+L:=⟨b-a,by omega⟩
 subst hL
 obtain ⟨q,hq⟩:∃ q:Nat,q=L / 4:=⟨_,rfl⟩
 have h0:a+L-a=L:=by omega
 have h8:L ≥ 8:=by omega
 unfold choosePivot
 simp only []
 rw [h0,if_pos h8,← hq]
 have q1:4*q≤L:=by omega
 have q2:3≤q:=by omega
 have key:∀ i j k s:Nat,(a<i∧i+1<a+L)→(a<j∧j+1<a+L)→(a<k∧k+1<a+L)→a<(median lt d i j k s).1∧(median lt d i j k s).1+1<a+L:=by
  intro i j k s hi hj hk
  rcases median_mem lt d i j k s with e | e | e <;> rw [e] <;> assumption
 have adj:∀ i s:Nat,(a+1<i∧i+2<a+L)→a<(medianAdjacent lt d i s).1∧(medianAdjacent lt d i s).1+1<a+L:=by
  intro i s hi
  rcases medianAdjacent_mem lt d i s with e | e | e <;> rw [e] <;> omega
 by_cases h50:L ≥ 50
 ·simp only [if_pos h50]
  exact key _ _ _ _ (adj _ _ (by omega)) (adj _ _ (by omega)) (adj _ _ (by omega))
 ·simp only [if_neg h50]
  exact key _ _ _ _ (by omega) (by omega) (by omega)
structure RdOk (n:Nat) (dk:Array Nat) (a b lim:Nat) (wb wp:Bool) (res:Array Nat) (d1:Array Nat) (lim' c1:Nat) (c2:Hint) (d2:Array Nat) (pv:Nat) (hint:Hint) (p1:Array Nat) (p2:Bool):Prop where
 no:wb=false→d1=breakPatterns dk a b∧lim'=lim-1
 yes:wb=true→d1=dk∧lim'=lim
 piv:choosePivot ltN d1 a b=(c1,c2)
 dec:c2 = .decreasing→d2=reverseRange d1 a b∧pv=(b-1)-(c1-a)∧hint = .increasing
 nod:c2 ≠ .decreasing→d2=d1∧pv=c1∧hint=c2
 piy:(wb&&wp&&decide (hint = .increasing))=true→partialInsertionSort ltN d2 a b=(p1,p2)
 pin:(wb&&wp&&decide (hint = .increasing))=false→p1=d2∧p2=false
 s1:d1.size=n
 s2:d2.size=n
 s3:p1.size=n
 below:Go.Sort.Below ltN a b p1
 c1a:a<c1
 c1b:c1+1<b
 pva:a<pv
 pvb:pv<b
 lim:lim'≤lim
 done:p2=true→res=p1
 eq:p2=false→(decide (a>0) && !ltN p1[a-1]! p1[pv]!)=true→a<(partitionEqual ltN p1 a b pv).1→(partitionEqual ltN p1 a b pv).1≤b→res=pdq ltN (partitionEqual ltN p1 a b pv).2 (partitionEqual ltN p1 a b pv).1 b lim' wb wp
 left:p2=false→(decide (a>0) && !ltN p1[a-1]! p1[pv]!)=false→a≤(partition ltN p1 a b pv).1→(partition ltN p1 a b pv).1<b→(partition ltN p1 a b pv).1-a<b-(partition ltN p1 a b pv).1 →
  res=pdq ltN (pdq ltN (partition ltN p1 a b pv).2.2 a (partition ltN p1 a b pv).1 lim' true true) ((partition ltN p1 a b pv).1+1) b lim' (decide ((partition ltN p1 a b pv).1-a ≥ (b-a) / 8)) (partition ltN p1 a b pv).2.1
 right:p2=false→(decide (a>0) && !ltN p1[a-1]! p1[pv]!)=false→a≤(partition ltN p1 a b pv).1→(partition ltN p1 a b pv).1<b→¬ (partition ltN p1 a b pv).1-a<b-(partition ltN p1 a b pv).1 →
  res=pdq ltN (pdq ltN (partition ltN p1 a b pv).2.2 ((partition ltN p1 a b pv).1+1) b lim' true true) a (partition ltN p1 a b pv).1 lim' (decide (b-(partition ltN p1 a b pv).1 ≥ (b-a) / 8)) (partition ltN p1 a b pv).2.1
theorem ajn {n:Nat} {dk:Array Nat} {a b lim:Nat} {wb wp:Bool} {res:Array Nat} (hn:dk.size=n) (h12:¬ b-a≤12) (hb:b≤n) (hl0:¬ lim=0) (hB:Go.Sort.Below ltN a b dk) (hres:pdq ltN dk a b lim wb wp=res) :
  ∃ d1 lim' c1 c2 d2 pv hint p1 p2,RdOk n dk a b lim wb wp res d1 lim' c1 c2 d2 pv hint p1 p2:=by
 obtain ⟨s1,B1,hc1,s2,B2,hpv,s3,B3⟩:=rd_facts (limit:=lim) (wb:=wb) (wp:=wp) qp partialInsertionSort_holds reverseRange_holds (show a<b by omega) (show b≤dk.size by omega) hB
 have hm:=aiX ltN (rd ltN dk a b lim wb wp).d1 a b (by omega)
 rw [← rd_c] at hm
 refine ⟨(rd ltN dk a b lim wb wp).d1,(rd ltN dk a b lim wb wp).lim,(rd ltN dk a b lim wb wp).c.1,(rd ltN dk a b lim wb wp).c.2,(rd ltN dk a b lim wb wp).d2,(rd ltN dk a b lim wb wp).pivot,(rd ltN dk a b lim wb wp).hint,(rd ltN dk a b lim wb wp).pi.1,(rd ltN dk a b lim wb wp).pi.2,?_⟩
 constructor
 ·rintro rfl;exact rd_false
 ·rintro rfl;exact rd_true
 ·exact rd_c.symm
 ·exact rd_dec
 ·exact rd_not
 ·intro h;exact (rd_pi_yes h).symm
 ·intro h;rw [rd_pi_no h];exact ⟨rfl,rfl⟩
 ·omega
 ·omega
 ·omega
 ·exact B3
 ·exact hm.1
 ·exact hm.2
 ·by_cases hd:(rd ltN dk a b lim wb wp).c.2 = .decreasing
  ·rw [(rd_dec hd).2.1];omega
  ·rw [(rd_not hd).2.1];omega
 ·exact hpv.2
 ·exact rd_lim_le
 ·intro h;rw [← hres,pdq_done h12 hl0 h]
 ·intro h h2 h3 h4;rw [← hres];exact pdq_eq h12 hl0 h h2 ⟨h3,h4⟩
 ·intro h h2 h3 h4 h5;rw [← hres];exact pdq_left h12 hl0 h h2 ⟨h3,h4⟩ h5
 ·intro h h2 h3 h4 h5;rw [← hres];exact pdq_right h12 hl0 h h2 ⟨h3,h4⟩ h5
end Ns
end Go.Proofs.YtpcmlopbkehffaaGreat
namespace Go.Proofs.YtpcmlopbkehffaaGreat
open Go.RowKit Go.Sort
namespace Ns
theorem agh {h:Hint} (e:jS h=2):h = .decreasing:=by cases h <;> simp [jS] at e ⊢
theorem abx {x y p q:Nat} (h1:q≤p) (h2:y≤x):decide (((x:Int)-(y:Int)) / 8≤(p:Int)-(q:Int))=decide (p-q ≥ (x-y) / 8) :=
 decide_eq_decide.2 ⟨fun h=>by omega,fun h=>by omega⟩
set_option maxHeartbeats 16000000 in
set_option maxRecDepth 1000000 in
theorem aiR (B:Nat) (w0:World) (g off n c:Nat) (hm:n≤1000000000) (hnc:n≤c):∀ (N a b limit:Nat) (d:Array Nat) (w:World),b-a<N→NSt B w0 g off d w→d.size=n→a≤b→b≤n→limit≤1000→Go.Sort.Below ltN a b d →
  Calls Tryz.prog 79 #[.slice (some ⟨g,off,none⟩) n c,.int .i64 (a:Nat),.int .i64 (b:Nat),.int .i64 (limit:Nat)] w (o7 B w0 g off (pdq ltN d a b limit true true)):=by
 intro N
 induction N with
 | zero=>intro a b limit d w h;omega
 | succ N ih =>
   intro a b limit d w hN hH hds hab hb hlimit hBel0
   have HIH:=aj ih
   have HB0:=aj hBel0
   have H0:=aj hH
   have HDS:=aj hds
   clear ih hBel0 hH hds
   go_enter Tryz.func79,Tryz.ntmps79
   go_wp2_with fail
   go_loopg [1,2,3,8,9] (b-a) (fun k s1 s2 s3 s8 s9 wr=>∃ (a' b' lim:Nat) (wb wp:Bool) (dk:Array Nat),s1 = .int .i64 (a':Nat)∧s2 = .int .i64 (b':Nat)∧s3 = .int .i64 (lim:Nat)∧s8 = .bool wb∧s9 = .bool wp ∧
    a'≤b'∧b'≤n∧b'-a'≤k∧k≤b-a∧lim≤limit∧Hid (dk.size=n)∧Hid (Go.Sort.Below ltN a' b' dk)∧Hid (NSt B w0 g off dk wr)∧Hid (pdq ltN dk a' b' lim wb wp=pdq ltN d a b limit true true))
   case atStart=>exact ⟨a,b,limit,true,true,d,rfl,rfl,rfl,rfl,rfl,hab,hb,Nat.le_refl _,Nat.le_refl _,Nat.le_refl _,HDS,HB0,H0,aj rfl⟩
   case round =>
    obtain ⟨a',b',lim,wb,wp,dk,rfl,rfl,rfl,rfl,rfl,hab',hb',hk,hkN,hlim,HDK,HBel,HAt,HEq⟩:=hrel
    generalize pdq ltN d a b limit true true=res at *
    by_cases h12:b'-a'≤12
    ·have h12z:decide ((b':Int)-(a':Int)≤12)=true:=decide_eq_true (by omega)
     have hc:=aj (agp B w0 g off n c a' b' dk wr HAt.out HDK.out hm hnc hab' hb')
     have HR:=aj (show insertionSort ltN dk a' b'=res by rw [← HEq.out,pdq_small h12])
     clear HEq
     go_wp2_with fail
     refine Calls.mono hc.out ?_
     rintro e w1 ⟨rfl,h1⟩
     have H1:=aj h1
     clear h1
     go_wp2_with fail
     (try simp only [Exit.inBlock,Exit.then]);refine bodyPost_ret (results_none rfl _ _ _) rfl ?_
     exact ⟨rfl,by rw [← HR.out];exact H1.out⟩
    ·have h12z : decide ((b':Int)-(a':Int)≤12)=false:=decide_eq_false (by omega)
     by_cases hl0:lim=0
     ·subst hl0
      have hc:=aj (agf B w0 g off n c a' b' dk wr HAt.out HDK.out hm hnc (by omega) hb')
      have HR:=aj (show heapSort ltN dk a' b'=res by rw [← HEq.out,pdq_heap h12 rfl])
      clear HEq
      go_wp2_with fail
      refine Calls.mono hc.out ?_
      rintro e w1 ⟨rfl,h1⟩
      have H1:=aj h1
      clear h1
      go_wp2_with fail
      (try simp only [Exit.inBlock,Exit.then]);refine bodyPost_ret (results_none rfl _ _ _) rfl ?_
      exact ⟨rfl,by rw [← HR.out];exact H1.out⟩
     ·have hl0z : ((lim:Int)==0)=false:=by simp;omega
      have hl0y:(lim==0)=false:=by simp;omega
      obtain ⟨d1,lim',c1,c2,d2,pv,hint,p1,p2,hok⟩:=ajn HDK.out h12 hb' hl0 HBel.out HEq.out
      have HOK:=aj hok
      have hlim':=hok.lim
      have hc1a:=hok.c1a
      have hc1b:=hok.c1b
      have hpva:=hok.pva
      have hpvb:=hok.pvb
      clear hok HEq
      go_upto_if 35 with fail
      go_cut [3] from 19 (fun s3 wc=>s3 = .int .i64 (lim':Nat)∧Hid (NSt B w0 g off d1 wc))
      case first =>
       cases wb
       ·have hc:=aj (aeX B w0 g off n c a' b' dk wr HAt.out HDK.out hm hnc (by omega) hb')
        have HE:=aj (HOK.out.no rfl)
        go_wp2_with fail
        refine Calls.mono hc.out ?_
        rintro e w1 ⟨rfl,h1⟩
        have H1:=aj h1
        clear h1
        go_wp2_with fail
        go_meet
        exact ⟨by rw [HE.out.2];congr 1;omega,aj (by rw [HE.out.1];exact H1.out)⟩
       ·have HE:=aj (HOK.out.yes rfl)
        go_wp2_with fail
        go_meet
        exact ⟨by rw [HE.out.2],aj (by rw [HE.out.1];exact HAt.out)⟩
      case rest =>
       obtain ⟨rfl,HAt1⟩:=hcut
       have hc17:=aiW B w0 g off n c a' b' d1 wc HAt1.out HOK.out.s1 hm hnc (by omega) hb'
       rw [HOK.out.piv] at hc17
       have HC17:=aj hc17
       clear hc17
       go_upto_if 50 with (go_at_call 111;(with_reducible refine Calls.mono HC17.out ?_);rintro e w2 ⟨rfl,hw2⟩)
       have HAt2:=aj hw2
       clear hw2
       go_cut [11,12] from 19 (fun s11 s12 wc=>s11 = .int .i64 (pv:Nat)∧s12 = .int .i64 (jS hint)∧Hid (NSt B w0 g off d2 wc))
       case first =>
        by_cases hh:c2 = .decreasing
        ·have hcode:(jS c2==2)=true:=by rw [hh];rfl
         have HE:=aj (HOK.out.dec hh)
         have hc18:=aj (aj4 B w0 g off n c a' b' d1 w2 HAt2.out HOK.out.s1 hm hnc (by omega) hb')
         clear hh
         go_wp2_with fail
         refine Calls.mono hc18.out ?_
         rintro e w3 ⟨rfl,h3⟩
         have H3:=aj h3
         clear h3
         go_wp2_with fail
         go_meet
         exact ⟨by rw [HE.out.2.1];congr 1;omega,by rw [HE.out.2.2];rfl,aj (by rw [HE.out.1];exact H3.out)⟩
        ·have hcode:(jS c2==2)=false:=by
          have:¬ jS c2=2:=fun h=>hh (agh h)
          simpa using this
         have HE:=aj (HOK.out.nod hh)
         clear hh
         go_wp2_with fail
         go_meet
         exact ⟨by rw [HE.out.2.1],by rw [HE.out.2.2],aj (by rw [HE.out.1];exact HAt2.out)⟩
       case rest =>
        obtain ⟨rfl,rfl,HAt3⟩:=hcut
        go_upto_region 15 with fail
        go_cut [12,68] from 19 (fun s12 s68 wx=>s12 = .int .i64 (jS hint)∧s68 = .bool (wb&&wp&&decide (hint = .increasing))∧wx=wc)
        case first =>
         cases wb <;> cases wp <;> cases hint <;>
          (simp only [jS]
           go_wp2_with fail
           go_meet
           exact ⟨by rfl,by rfl,rfl⟩)
        case rest =>
         obtain ⟨rfl,rfl,rfl⟩:=hcut
         go_upto_if 68 with fail
         go_cut [] from 19 (fun wx=>p2=false∧Hid (NSt B w0 g off p1 wx))
         case first =>
          cases h68:(wb&&wp&&decide (hint = .increasing))
          ·have HE:=aj (HOK.out.pin h68)
           go_wp2_with fail
           go_meet
           exact ⟨HE.out.2,aj (by rw [HE.out.1];exact HAt3.out)⟩
          ·have hc19:=aiV B w0 g off n c a' b' d2 wc HAt3.out HOK.out.s2 hm hnc (by omega) hb'
           rw [HOK.out.piy h68] at hc19
           have HC19:=aj hc19
           have HDone:=aj HOK.out.done
           clear hc19
           cases hp2:p2
           ·rw [hp2] at HC19
            have HP2:=aj hp2
            clear hp2
            go_wp2_with fail
            refine Calls.mono HC19.out ?_
            rintro e w4 ⟨rfl,h4⟩
            have H4:=aj h4
            clear h4
            go_wp2_with fail
            go_meet
            exact ⟨HP2.out,H4⟩
           ·rw [hp2] at HC19
            have HP2:=aj hp2
            clear hp2
            go_wp2_with fail
            refine Calls.mono HC19.out ?_
            rintro e w4 ⟨rfl,h4⟩
            have H4:=aj h4
            clear h4
            go_wp2_with fail
            (try simp only [Exit.inBlock,Exit.then]);refine bodyPost_ret (results_none rfl _ _ _) rfl ?_
            exact ⟨rfl,by rw [HDone.out HP2.out];exact H4.out⟩
         case rest =>
          obtain ⟨hp2,HAt5⟩:=hcut
          have HP2:=aj hp2
          clear hp2
          go_upto_region 17 with fail
          go_cut [87] from 19 (fun s87 wx=>s87 = .bool (decide (a'>0) && !ltN p1[a'-1]! p1[pv]!)∧Hid (NSt B w0 g off p1 wx))
          case first =>
           rcases Nat.eq_zero_or_pos a' with ha0 | ha0
           ·have e1:decide ((a':Int)>0)=false:=decide_eq_false (by omega)
            have e2:decide ((0:Int)<(a':Int))=false:=decide_eq_false (by omega)
            have e3:decide (0<a')=false:=decide_eq_false (by omega)
            have HE:=aj (show Value.bool false = .bool (decide (a'>0) && !ltN p1[a'-1]! p1[pv]!) by rw [decide_eq_false (show ¬ a'>0 by omega)];rfl)
            have HA:=aj ha0
            clear ha0
            go_wp2_with fail
            go_quiet (fail)
            go_wp2_with fail
            go_meet
            exact ⟨HE.out,aj (HAt5.out.drewN _)⟩
           ·have e1:decide ((a':Int)>0)=true:=decide_eq_true (by omega)
            have e2:decide ((0:Int)<(a':Int))=true:=decide_eq_true (by omega)
            have e3:decide (0<a')=true:=decide_eq_true (by omega)
            have hs3:=HOK.out.s3
            have g1:=HAt5.out.at_ (a'-1) (by omega)
            have g2:=HAt5.out.at_ pv (by omega)
            clear hs3
            have HE:=aj (show Value.bool (!ltN p1[a'-1]! p1[pv]!) = .bool (decide (a'>0) && !ltN p1[a'-1]! p1[pv]!) by rw [decide_eq_true (show a'>0 by omega)];rfl)
            generalize p1[a'-1]! = x at *
            generalize p1[pv]! = y at *
            have k1:(0:Int)≤(a':Int)-1:=by omega
            have k2:(a':Int)-1<(n:Int):=by omega
            have k3:(0:Int)≤(pv:Int):=by omega
            have k4:(pv:Int)<(n:Int):=by omega
            have k5:((a':Int)-1).toNat=a'-1:=by omega
            have k6:(1:Int)≤(a':Int):=by omega
            cases hl:ltN x y
            all_goals
             have Hlv:=aj (fun W=>dJ x y W)
             rw [hl] at Hlv
             have HE2:=aj ((congrArg (fun z=>Value.bool (!z)) hl).symm.trans HE.out)
             clear hl
             go_wp2_with fail
             go_quiet ((go_at_call 114;exact Calls.quiet_of_same (Hlv.out _)))
             go_wp2_with fail
             go_meet
             exact ⟨HE2.out,aj (HAt5.out.drewN _)⟩
          case rest =>
           obtain ⟨rfl,HAt6⟩:=hcut
           cases h87:(decide (a'>0) && !ltN p1[a'-1]! p1[pv]!)
           ·have hc22:=aiF B w0 g off n c a' b' pv p1 wc HAt6.out HOK.out.s3 hm hnc hpva hpvb hb'
            have hL:=HOK.out.left HP2.out h87
            have hR:=HOK.out.right HP2.out h87
            obtain ⟨mid,ap,d4,hx⟩:∃ mid ap d4,partition ltN p1 a' b' pv=(mid,ap,d4):=⟨(partition ltN p1 a' b' pv).1,(partition ltN p1 a' b' pv).2.1,(partition ltN p1 a' b' pv).2.2,rfl⟩
            obtain ⟨r1,r2,r3,r4,r5,r6,r7⟩:=round_part qp (partition_holds _) (Nat.le_of_lt hpva) hpvb (show b'≤p1.size by rw [HOK.out.s3];omega) HOK.out.below hx
            rw [hx] at hc22 hL hR
            simp only at hL hR
            have HC22:=aj hc22
            have HL:=aj hL
            have HR:=aj hR
            have HX:=aj (And.intro hx h87)
            have R3:=aj (r3.trans HOK.out.s3)
            have R4:=aj r4
            have R5:=aj r5
            have R6:=aj r6
            have R7:=aj r7
            clear hc22 hL hR hx h87 r3 r4 r5 r6 r7
            go_upto_if 113 with (go_at_call 116;(with_reducible refine Calls.mono HC22.out ?_);rintro e w7 ⟨rfl,hw7⟩)
            have HAt7:=aj hw7
            clear hw7
            by_cases h4:mid-a'<b'-mid
            ·have h4z:decide ((mid:Int)-(a':Int)<(b':Int)-(mid:Int))=true:=decide_eq_true (by omega)
             have hih:=aj (HIH.out a' mid lim' d4 w7 (by omega) HAt7.out R3.out (by omega) (by omega) (by omega) R4.out)
             obtain ⟨pL,sL⟩:=pdq_sorts ltN qp d4 a' mid lim' true true (by omega) (by rw [R3.out];omega) R4.out
             have PL:=aj (pL.1.trans R3.out)
             have HB8:=aj (R6.out _ pL sL).1
             have HE8:=aj (HL.out r1 r2 h4)
             clear pL sL
             go_wp2_with fail
             refine Calls.mono hih.out ?_
             rintro e w8 ⟨rfl,h8⟩
             have H8:=aj h8
             clear h8
             go_wp2_with fail
             go_roundg (b'-(mid+1))
             case measure=>omega
             case rel =>
              exact ⟨mid+1,b',lim',decide (mid-a' ≥ (b'-a') / 8),ap,pdq ltN d4 a' mid lim' true true,by simp,rfl,rfl,congrArg Value.bool (abx (by omega) (by omega)),rfl,by omega,by omega,Nat.le_refl _,by omega,by omega,PL,HB8,H8,aj HE8.out.symm⟩
            ·have h4z:decide ((mid:Int)-(a':Int)<(b':Int)-(mid:Int))=false:=decide_eq_false (by omega)
             have hih:=aj (HIH.out (mid+1) b' lim' d4 w7 (by omega) HAt7.out R3.out (by omega) (by omega) (by omega) R5.out)
             obtain ⟨pL,sL⟩:=pdq_sorts ltN qp d4 (mid+1) b' lim' true true (by omega) (by rw [R3.out];omega) R5.out
             have PL:=aj (pL.1.trans R3.out)
             have HB8:=aj (R7.out _ pL sL).1
             have HE8:=aj (HR.out r1 r2 h4)
             clear pL sL
             go_wp2_with fail
             refine Calls.mono hih.out ?_
             rintro e w8 ⟨rfl,h8⟩
             have H8:=aj h8
             clear h8
             go_wp2_with fail
             go_roundg (mid-a')
             case measure=>omega
             case rel =>
              exact ⟨a',mid,lim',decide (b'-mid ≥ (b'-a') / 8),ap,pdq ltN d4 (mid+1) b' lim' true true,rfl,rfl,rfl,congrArg Value.bool (abx (by omega) (by omega)),rfl,by omega,by omega,Nat.le_refl _,by omega,by omega,PL,HB8,H8,aj HE8.out.symm⟩
           ·have h87':=h87
            simp only [Bool.and_eq_true,decide_eq_true_eq,Bool.not_eq_true'] at h87'
            have hc21:=aiT B w0 g off n c a' b' pv p1 wc HAt6.out HOK.out.s3 hm hnc hpva hpvb hb'
            have hQ:=HOK.out.eq HP2.out h87
            obtain ⟨mid,d4,hx⟩:∃ mid d4,partitionEqual ltN p1 a' b' pv=(mid,d4):=⟨(partitionEqual ltN p1 a' b' pv).1,(partitionEqual ltN p1 a' b' pv).2,rfl⟩
            obtain ⟨r1,r2,r3,r4,_⟩:=round_eq qp (partitionEqual_holds _) h87'.1 (Nat.le_of_lt hpva) hpvb (show b'≤p1.size by rw [HOK.out.s3];omega) HOK.out.below h87'.2 hx
            rw [hx] at hc21 hQ
            simp only at hQ
            have HC21:=aj hc21
            have HQ:=aj (hQ r1 r2)
            have HX:=aj (And.intro hx (And.intro h87 h87'))
            have R3:=aj (r3.trans HOK.out.s3)
            have R4:=aj r4
            clear hc21 hQ hx h87 h87' r3 r4
            go_wp2_with fail
            refine Calls.mono HC21.out ?_
            rintro e w7 ⟨rfl,hw7⟩
            have HAt7:=aj hw7
            clear hw7
            go_wp2_with fail
            go_roundg (b'-mid)
            case measure=>omega
            case rel =>
             exact ⟨mid,b',lim',wb,wp,d4,rfl,rfl,rfl,rfl,rfl,r2,hb',Nat.le_refl _,by omega,by omega,R3,R4,HAt7,aj HQ.out.symm⟩
end Ns
end Go.Proofs.YtpcmlopbkehffaaGreat
namespace Go.Proofs.YtpcmlopbkehffaaGreat
open Go.RowKit Go.Sort
namespace Ns
def lZ:Nat:=1000000
theorem xR:lZ≤1000000:=Nat.le_refl _
theorem aiU {d d':Array Nat} (h:PermIn 0 d.size d d'):d'.toList.Perm d.toList:=by
 have:=h.2.2
 rw [← h.1] at this
 rwa [Array.extract_size,h.1,Array.extract_size] at this
theorem aiE {d:Array Nat} (h:SortedIn ltN 0 d.size d):d.toList.Pairwise (· ≤ ·):=by
 rw [List.pairwise_iff_getElem]
 intro i j hi hj hij
 have hi':i<d.size:=by simpa using hi
 have hj':j<d.size:=by simpa using hj
 have:=h i j (Nat.zero_le _) hij hj'
 rw [getElem!_pos d i hi',getElem!_pos d j hj'] at this
 have h2:=of_decide_eq_false this
 rw [Array.getElem_toList,Array.getElem_toList]
 omega
theorem ahH (ids:List Nat) {k:Nat} {u:Value} (h:(Rg.iI.all ids)[k]? = some u):∃ hk:k<ids.length,u = .int .u64 (ids[k]:Nat):=by
 have hk:k<ids.length:=by
  have:=(List.getElem?_eq_some_iff.1 h).1
  rw [Rg.iI.pq] at this
  simpa [Rg.iI] using this
 refine ⟨hk,?_⟩
 have h1:=Rg.iI.vZ ids hk 0 (by decide)
 have h2:(Rg.iI.cf ids[k])[0]? = some (.int .u64 (ids[k]:Nat)):=rfl
 rw [h2] at h1
 have e:k*Rg.iI.K+0=k:=by show k*1+0=k;omega
 rw [e,h] at h1
 exact Option.some.inj h1
theorem ahC {B:Nat} {w:World} {g off n c:Nat} {ids:List Nat} (h:Rg.iI.Row w (some ⟨g,off,none⟩) n c ids) (hB:B≤g) (hg:g<w.heap.size) (hf:∀ o,w.frozen? ⟨g,o,none⟩=false):NSt B w g off ids.toArray w:=by
 refine ⟨Below.refl _ _,fun k hk=>?_,hf,hB,hg⟩
 have hk':k<ids.length:=by simpa using hk
 obtain ⟨b,o,e,_,hc⟩:=h.at_ hk'
 injection e with e
 injection e with e1 e2
 subst e1 e2
 have:=hc 0 (.int .u64 (ids[k]:Nat)) rfl
 rw [show off+k*Rg.iI.K+0=off+k by show off+k*1+0=off+k;omega] at this
 rw [this,getElem!_pos ids.toArray k hk]
 simp
theorem row_of {B:Nat} {w0 w:World} {g off n c:Nat} {ids:List Nat} (h:NSt B w0 g off ids.toArray w) (h1:ids.length=n) (h2:n≤c) (h3:c≤9223372036854775807):Rg.iI.Row w (some ⟨g,off,none⟩) n c ids:=by
 refine ⟨fun _=>⟨g,off,rfl,fun k u hu=>?_⟩,h1,h2,h3,fun e=>by cases e⟩
 obtain ⟨hk,rfl⟩:=ahH _ hu
 rw [h.at_ k (by simpa using hk),getElem!_pos ids.toArray k (by simpa using hk)]
 simp
def aat (B:Nat) (w0:World) (g off:Nat) (ids:List Nat) (e:Ending) (W:World):Prop:=e = .returned (.tuple #[])∧∃ ids':List Nat,ids'.Perm ids∧ids'.Pairwise (· ≤ ·)∧NSt B w0 g off ids'.toArray W
theorem ak3 {B:Nat} {w0:World} {g off n:Nat} {ids:List Nat} {d:Array Nat} {W:World} (hl:ids.length=n) (hd:pdq ltN ids.toArray 0 n d.size true true=d∨∃ lim,pdq ltN ids.toArray 0 n lim true true=d) (h:NSt B w0 g off d W):aat B w0 g off ids (.returned (.tuple #[])) W:=by
 have hd:∃ lim,pdq ltN ids.toArray 0 n lim true true=d:=by
  rcases hd with h | h
  ·exact ⟨_,h⟩
  ·exact h
 obtain ⟨lim,rfl⟩:=hd
 have hs:ids.toArray.size=n:=by simpa using hl
 have hp:=pdq_sorts ltN qp ids.toArray 0 ids.toArray.size lim true true (Nat.zero_le _) (Nat.le_refl _) (Or.inl rfl)
 rw [hs] at hp
 have h1:=hp.1
 have h2:=hp.2
 generalize pdq ltN ids.toArray 0 n lim true true=d at *
 have hds:d.size=n:=by have:=h1.1;omega
 refine ⟨rfl,d.toList,?_,?_,by simpa using h⟩
 ·have:=aiU (d:=ids.toArray) (d':=d) (by rw [hs];exact h1)
  simpa using this
 ·exact aiE (by rw [hds];exact h2)
theorem ace (n:Nat) (w:World) (hn:n≤1000000000):Calls Tryz.prog 80 #[.int .u64 (n:Int)] w fun e w'=>e = .returned (.int .i64 (Lib.bitLen n:Nat))∧w'=w:=by
 have h:=Any.bits_Len (SlLaysF0.n15.bits {Sh.sortSpans with}) (n:Int) w (by omega) (by omega)
 rwa [Int.toNat_natCast] at h
set_option maxHeartbeats 4000000 in
theorem ak4 (B:Nat) (w0:World) (g off n c:Nat) (ids:List Nat) (w:World) (h:NSt B w0 g off ids.toArray w) (hl:ids.length=n) (hm0:n≤lZ) (hnc:n≤c) :
  Calls Tryz.prog 52 #[.slice (some ⟨g,off,none⟩) n c] w (aat B w0 g off ids):=by
 have hm:n≤1000000000:=by have:=Nat.le_trans hm0 xR;omega
 have hlim:Lib.bitLen n≤62:=Lib.bitLen_le n 62 (by omega) (by omega)
 have Hlen:=aj (fun W=>ace n W hm)
 have Hp:=aj (aiR B w0 g off n c hm hnc (n+1) 0 n (Lib.bitLen n) ids.toArray w (by omega) h (by simpa using hl) (Nat.zero_le _) (Nat.le_refl _) (by omega) (Or.inl rfl))
 have wr:IntKind.u64.wrap (n:Int)=n:=by simp [IntKind.wrap,IntKind.bits,IntKind.signed];omega
 have HL:=aj hl
 generalize Lib.bitLen n=lim at *
 clear h hl
 go_enter Tryz.func52,Tryz.ntmps52
 go_wp2_with (go_at_call 80;(with_reducible refine Calls.mono (Hlen.out _) ?_);rintro e w' ⟨rfl,rfl⟩)
 go_wp2_with (go_at_call 79;(with_reducible refine Calls.mono Hp.out ?_);rintro e w1 ⟨rfl,h1⟩)
 go_end0
 exact ak3 HL.out (.inr ⟨lim,rfl⟩) h1
set_option maxHeartbeats 2000000 in
theorem agq (A:Option Addr) (c:Nat) (w:World):Calls Tryz.prog 108 #[.slice A 0 c,.int .i64 0,.int .i64 0] w (fun e w'=>e = .returned (.tuple #[])∧w=w'):=by
 go_enter Tryz.func108,Tryz.ntmps108
 go_wp2_with fail
 go_loop [6] (fun i=>i = .int .i64 1) (fun _=>0)
 case atStart=>exact rfl
 case round =>
  obtain rfl:=hrel
  go_wp2_with fail
  go_end0
  exact ⟨rfl,rfl⟩
set_option maxHeartbeats 2000000 in
theorem aiS (A:Option Addr) (c:Nat) (w:World):Calls Tryz.prog 79 #[.slice A 0 c,.int .i64 0,.int .i64 0,.int .i64 0] w (fun e w'=>e = .returned (.tuple #[])∧w=w'):=by
 have Hi:=aj (fun W=>agq A c W)
 go_enter Tryz.func79,Tryz.ntmps79
 go_wp2_with fail
 go_loop [1,2,3] (fun i j k=>i = .int .i64 0∧j = .int .i64 0∧k = .int .i64 0) (fun _ _ _=>0)
 case atStart=>exact ⟨rfl,rfl,rfl⟩
 case round =>
  obtain ⟨rfl,rfl,rfl⟩:=hrel
  go_wp2_with fail
  refine Calls.mono (Hi.out _) ?_
  rintro e w' ⟨rfl,rfl⟩
  go_wp2_with fail
  (try simp only [Exit.inBlock,Exit.then]);refine bodyPost_ret (results_none rfl _ _ _) rfl ?_
  exact ⟨rfl,rfl⟩
set_option maxHeartbeats 2000000 in
theorem ak5 (A:Option Addr) (c:Nat) (w:World):Calls Tryz.prog 52 #[.slice A 0 c] w (fun e w'=>e = .returned (.tuple #[])∧w=w'):=by
 have Hlen:=aj (fun W=>ace 0 W (by omega))
 have Hp:=aj (fun W=>aiS A c W)
 have e0:Lib.bitLen 0=0:=by decide
 rw [e0] at Hlen
 clear e0
 go_enter Tryz.func52,Tryz.ntmps52
 go_wp2_with fail
 refine Calls.mono (Hlen.out _) ?_
 rintro e w' ⟨rfl,rfl⟩
 go_wp2_with fail
 refine Calls.mono (Hp.out _) ?_
 rintro e w1 ⟨rfl,rfl⟩
 go_wp2_with fail
 go_end0
 exact ⟨rfl,rfl⟩
end Ns
end Go.Proofs.YtpcmlopbkehffaaGreat
