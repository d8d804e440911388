/-
  ReplicaPlays: of any operations (at most 60, each with a light packet, where the size of files is right) what a replica answers to each packet, and its registers behind it, are the document's, also where the log is laid anew and opened again; no condition on the input.
  The frame round the walk is written by the guide's own program for this statement.
-/
import Derived.Test.YtpcmlopbkehffaaGreatOGBE
import Derived.Test.YtpcmlopbkehffaaGreatOGDH
import Derived.Test.YtpcmlopbkehffaaGreatRows
import Derived.WalkKit
import Derived.ProofKit
import Derived.OpenShut
import Derived.ShutString
import Derived.ChangeOld
import Derived.Below
set_option linter.unusedSimpArgs false
set_option linter.unusedVariables false
namespace Go.Proofs.YtpcmlopbkehffaaGreat.replicaPlays
open Go.ChangeShapes Go.WideShapes Go.ChangeAt Go.RowKit
open Go.ChangeMaps (open_string shut_string)
set_option linter.unusedVariables false
theorem own:ownKnob Tryz.prog.godebug=none:=by kernel_rfl
theorem laidOut:laidOutB Tryz.prog=true:=by kernel_rfl
def IsRow (k:IntKind) (w:World) (a:Option Addr) (len cap:Nat) (zs:List Int):Prop :=
 (a=none∧len=0∧cap=0∧zs=[]) ∨
 ∃ x,a=some x∧len≤cap∧cap≤maxLen∧zs.length=cap∧(∀ i,i<zs.length→w.cell? (x.add i)=some (.int k (zs.getD i 0)))∧∀ n∈zs,(Lit.int k n).wf=true
open Fm Dsk Wl Re Rg Bl Vw Rp
set_option maxRecDepth 100000 in
set_option maxHeartbeats 16000000 in
theorem walk (a0:Int) (v1:Value) (w:World) (w0:(Lit.int .i64 a0).wf=true) (w1:Rp.vR w v1) :
  Calls Tryz.prog 3 #[.int .i64 a0,v1] w fun e w'=>e = .returned (.bool true)∧Below w.heap.size w w':=by
 obtain ⟨A1,n1,c1,l,rfl,hrow,hwf⟩:=w1
 have HRow:=aj hrow
 have HWf:=aj hwf
 have HAl:=aj (fun (W:World)=>ajh W)
 have HLi:=aj (air A1 n1 c1 l w hrow hwf)
 have hcap:=hrow.cap
 have hmax:=hrow.max
 have hlen0:=hrow.len
 clear hwf hrow
 by_cases h0:jU l=false
 ·rw [h0] at HLi
  go_enter Tryz.func3,Tryz.ntmps3
  go_wp2_with fail
  (with_reducible refine Calls.mono HLi.out ?_)
  rintro e w1 ⟨rfl,hb1⟩
  go_wp2_with fail
  (with_reducible refine Calls.mono (HAl.out _) ?_)
  rintro e w' ⟨rfl,hbel⟩
  go_wp2_with fail
  go_ret
  exact ⟨rfl,hb1.trans (hbel.mono hb1.size)⟩
 rw [Bool.not_eq_false] at h0
 have HL60:=aj (agP h0)
 have HLt:=aj (fun (o:OpD) (ho:o∈l)=>agV (agM h0 ho))
 rw [h0] at HLi
 clear h0
 by_cases h2:a0<64
 ·have e2:decide (a0<64)=true:=decide_eq_true h2
  go_enter Tryz.func3,Tryz.ntmps3
  go_wp2_with fail
  (with_reducible refine Calls.mono HLi.out ?_)
  rintro e w1 ⟨rfl,hb1⟩
  go_wp2_with fail
  (with_reducible refine Calls.mono (HAl.out _) ?_)
  rintro e w' ⟨rfl,hbel⟩
  go_wp2_with fail
  go_ret
  exact ⟨rfl,hb1.trans (hbel.mono hb1.size)⟩
 by_cases h3:1048576<a0
 ·have e2:decide (a0<64)=false:=decide_eq_false h2
  have e3:decide ((1048576:Int)<a0)=true:=decide_eq_true h3
  go_enter Tryz.func3,Tryz.ntmps3
  go_wp2_with fail
  (with_reducible refine Calls.mono HLi.out ?_)
  rintro e w1 ⟨rfl,hb1⟩
  go_wp2_with fail
  (with_reducible refine Calls.mono (HAl.out _) ?_)
  rintro e w' ⟨rfl,hbel⟩
  go_wp2_with fail
  go_ret
  exact ⟨rfl,hb1.trans (hbel.mono hb1.size)⟩
 have e2:decide (a0<64)=false:=decide_eq_false h2
 have e3:decide ((1048576:Int)<a0)=false:=decide_eq_false h3
 have HM:=aj (show 64≤a0∧a0≤1048576 by omega)
 have HLen:=aj hlen0
 have hn60:n1≤60:=by rw [← hlen0];exact HL60.out
 clear hlen0 h2 h3
 go_enter Tryz.func3,Tryz.ntmps3
 go_wp2_with fail
 (with_reducible refine Calls.mono HLi.out ?_)
 rintro e w1 ⟨rfl,hb1⟩
 have HB1:=aj hb1
 have HNw:=aj (yj 1048576 (by decide) (by decide) w1)
 rw [show ((1048576:Nat):Int)=1048576 from rfl] at HNw
 clear hb1
 go_wp2_with fail
 (with_reducible refine Calls.mono HNw.out ?_)
 rintro e w2 ⟨rfl,hd,hb2⟩
 have HDk:=aj (show DkB w.heap.size w w2 w1.heap.size (fun q=>q=w1.heap.size) (mV 1048576) from ⟨hd,HB1.out.trans (hb2.mono HB1.out.size),fun q hq=>by have:=HB1.out.size;omega,Nat.le_refl _⟩)
 have HOp:=aj (abS HDk.out (most:=a0) HM.out.1 HM.out.2 (fun _=>False) (fun q h=>h.elim))
 clear hd hb2 e2 e3 HNw
 generalize w1.heap.size=gd at *
 go_wp2_with fail
 (with_reducible refine Calls.mono HOp.out ?_)
 rintro e w3 ⟨gr,X,E,d,rfl,hu,ha,-,-,-,-⟩
 have HU:=aj hu
 have HA:=aj ha
 clear hu ha HOp HDk
 go_wp2_with fail
 (with_reducible refine Calls.mono (HAl.out _) ?_)
 rintro e w4 ⟨rfl,hb4⟩
 have HU4:=aj (HU.out.later hb4)
 clear hb4 HU
 go_wp2_with fail
 go_loopw [7,9,10] (fun vr vm vi wr=>∃ (i gr:Nat) (X:Nat→Prop) (E:Nat→Prop) (d:ak) (L:List FS) (R:List au) (N:Nat) (A:Option Addr) (c:Nat),i≤n1∧vi = .int .i64 (i:Nat)∧vr = .pointer (some ⟨gr,0,none⟩)∧vm = .slice A R.length c∧Hid (RpU w wr gr gd X E d a0 L R N)∧Hid (bA.Row wr A R.length c R∧(∀ a,A=some a→a.spot=none)∧∀ a,A=some a→R≠[]→¬ E a.block)∧Hid (d.armed=false∧R.length≤i∧N≤62*i)) (fun _ _ vi _=>n1-(intOf vi).toNat)
 case atStart=>exact ⟨0,gr,X,E,d,[],[],0,none,0,Nat.zero_le _,rfl,rfl,rfl,HU4,aj ⟨Enc.Row.none _,fun a e=>(by cases e),fun a e=>(by cases e)⟩,aj ⟨HA.out,Nat.le_refl _,Nat.le_refl _⟩⟩
 case round =>
  clear HU4 HA
  obtain ⟨i,gr,X,E,d,L,R,N,A,c,hi,rfl,rfl,rfl,HU,HR,HF⟩:=hrel
  have x5:(n1:Int)≤60:=by omega
  have HB:=aj HU.out.below
  have hRi:R.length≤60:=by have:=HF.out.2.1;omega
  have hRc:=HR.out.1.cap
  have hRm:=HR.out.1.max
  by_cases hlt:i<n1
  ·have hiL:i<l.length:=by rw [HLen.out];exact hlt
   obtain ⟨g,off,cs,hA,⟨s,Ak,ck,rfl,hp,hk⟩,hcell⟩:=HRow.out.at_ hiL
   have hwf:=HWf.out _ (List.getElem_mem hiL)
   have hlo:=HLt.out _ (List.getElem_mem hiL)
   subst hA
   have hc:=fun (W:World) (hb:Below w.heap.size w W) (j:Nat) (u:Value) (hj:([.int .i64 l[i].kind,.int .i64 l[i].n]++(bL l[i].p s).toList++[.slice Ak l[i].keep.length ck])[j]? = some u)=>(hb.cell (p:=⟨g,off+i*14+j,none⟩) (lt_of_cell (hcell j u hj))).trans (hcell j u hj)
   generalize l[i]=o at *
   have HC:=aj hc
   have HPk:=aj (And.intro hp (And.intro hwf.p.1 hlo))
   have x1:(i:Int)<(n1:Int):=by omega
   have x2:(0:Int)≤(i:Int):=by omega
   have HK:=aj hlt
   have HI:=aj hRi
   clear hlt hiL hp hwf hc hcell hk hlo hi hRi
   by_cases k0:o.kind=0
   ·have q0:(o.kind==0)=true:=beq_iff_eq.2 k0
    clear k0
    have HHa:=aj (HU.out.handle o.p s (HPk.out.1.below HB.out) HPk.out.2.1 HPk.out.2.2 (by have:=HF.out.2.2;have:=HK.out;omega))
    have x_0:wr.cell? ⟨g,off+i*14,none⟩=some (.int .i64 o.kind):=HC.out wr HB.out 0 _ rfl
    have x_2:wr.cell? ⟨g,off+i*14+2,none⟩=some (.int .i64 o.p.kind):=HC.out wr HB.out 2 _ rfl
    have x_3:wr.cell? ⟨g,off+i*14+3,none⟩=some (.int .u64 (o.p.trace:Nat)):=HC.out wr HB.out 3 _ rfl
    have x_4:wr.cell? ⟨g,off+i*14+4,none⟩=some (.int .u64 (o.p.bn:Nat)):=HC.out wr HB.out 4 _ rfl
    have x_5:wr.cell? ⟨g,off+i*14+5,none⟩=some (.int .u64 (o.p.aZ:Nat)):=HC.out wr HB.out 5 _ rfl
    have x_6:wr.cell? ⟨g,off+i*14+6,none⟩=some (.int .u64 (o.p.sn:Nat)):=HC.out wr HB.out 6 _ rfl
    have x_7:wr.cell? ⟨g,off+i*14+7,none⟩=some (.int .u64 (o.p.bM:Nat)):=HC.out wr HB.out 7 _ rfl
    have x_8:wr.cell? ⟨g,off+i*14+8,none⟩=some (.int .i64 o.p.v):=HC.out wr HB.out 8 _ rfl
    have x_9:wr.cell? ⟨g,off+i*14+9,none⟩=some (.bool o.p.ok):=HC.out wr HB.out 9 _ rfl
    have x_10:wr.cell? ⟨g,off+i*14+10,none⟩=some (.slice s.a1 o.p.spans.length s.c1):=HC.out wr HB.out 10 _ rfl
    have x_11:wr.cell? ⟨g,off+i*14+11,none⟩=some (.slice s.a2 o.p.members.length s.c2):=HC.out wr HB.out 11 _ rfl
    have x_12:wr.cell? ⟨g,off+i*14+12,none⟩=some (.slice s.a3 o.p.ids.length s.c3):=HC.out wr HB.out 12 _ rfl
    go_wp2_with fail
    (with_reducible refine Calls.mono HHa.out ?_)
    rintro e w4 ⟨k,qa,X4,E4,d4,L4,rfl,mv4,ro4,ar4,h104,hk4,hcase⟩
    clear x_0 x_2 x_3 x_4 x_5 x_6 x_7 x_8 x_9 x_10 x_11 x_12
    have HR4:=aj (show bA.Row w4 A R.length c R from uZ HR.out.1 mv4.tn HR.out.2.2)
    have HE4:=aj (show ∀ a,A=some a→R≠[]→¬ E4 a.block from fun a ea hne hq=>by
     rcases mv4.e1 _ hq with h1 | h1
     ·exact HR.out.2.2 a ea hne h1
     ·have:=row_in HR.out.1 ea hne;omega)
    have hA4:=ar4.trans HF.out.1
    have hfa:=HU.out.up.facts
    have HFa:=aj hfa
    have HNl:=aj (show (nextR R o.p).length≤R.length+1 from ahu R o.p)
    have hb4:Below w.heap.size w w4:=by
     rcases hcase with ⟨-,-,-,-,h⟩ | ⟨-,-,-,h⟩ | ⟨-,-,-,h⟩ | ⟨h,-⟩
     ·exact h.below
     ·exact h.below
     ·exact h.below
     ·exact absurd h (h104 HF.out.1)
    have HB4:=aj (hb4.alloc hb4.size (qO qa))
    have HRh:=aj (aj9 A R.length c R o.p s (w4.alloc (qO qa)) (HR4.out.below ((Below.refl _ _).alloc (Nat.le_refl _) _)) (HPk.out.1.below HB4.out) HPk.out.2.1 HR.out.2.1 (by have:=HI.out;omega) hfa.1 hfa.2.1)
    have HCs:=aj hcase
    have HA4:=aj (And.intro hA4 h104)
    clear hcase hk4 h104 mv4 ro4 ar4 hA4 hfa hb4 HHa
    have z_2:(w4.alloc (qO qa)).cell? ⟨g,off+i*14+2,none⟩=some (.int .i64 o.p.kind):=HC.out (w4.alloc (qO qa)) HB4.out 2 _ rfl
    have z_3:(w4.alloc (qO qa)).cell? ⟨g,off+i*14+3,none⟩=some (.int .u64 (o.p.trace:Nat)):=HC.out (w4.alloc (qO qa)) HB4.out 3 _ rfl
    have z_4:(w4.alloc (qO qa)).cell? ⟨g,off+i*14+4,none⟩=some (.int .u64 (o.p.bn:Nat)):=HC.out (w4.alloc (qO qa)) HB4.out 4 _ rfl
    have z_5:(w4.alloc (qO qa)).cell? ⟨g,off+i*14+5,none⟩=some (.int .u64 (o.p.aZ:Nat)):=HC.out (w4.alloc (qO qa)) HB4.out 5 _ rfl
    have z_6:(w4.alloc (qO qa)).cell? ⟨g,off+i*14+6,none⟩=some (.int .u64 (o.p.sn:Nat)):=HC.out (w4.alloc (qO qa)) HB4.out 6 _ rfl
    have z_7:(w4.alloc (qO qa)).cell? ⟨g,off+i*14+7,none⟩=some (.int .u64 (o.p.bM:Nat)):=HC.out (w4.alloc (qO qa)) HB4.out 7 _ rfl
    have z_8:(w4.alloc (qO qa)).cell? ⟨g,off+i*14+8,none⟩=some (.int .i64 o.p.v):=HC.out (w4.alloc (qO qa)) HB4.out 8 _ rfl
    have z_9:(w4.alloc (qO qa)).cell? ⟨g,off+i*14+9,none⟩=some (.bool o.p.ok):=HC.out (w4.alloc (qO qa)) HB4.out 9 _ rfl
    have z_10:(w4.alloc (qO qa)).cell? ⟨g,off+i*14+10,none⟩=some (.slice s.a1 o.p.spans.length s.c1):=HC.out (w4.alloc (qO qa)) HB4.out 10 _ rfl
    have z_11:(w4.alloc (qO qa)).cell? ⟨g,off+i*14+11,none⟩=some (.slice s.a2 o.p.members.length s.c2):=HC.out (w4.alloc (qO qa)) HB4.out 11 _ rfl
    have z_12:(w4.alloc (qO qa)).cell? ⟨g,off+i*14+12,none⟩=some (.slice s.a3 o.p.ids.length s.c3):=HC.out (w4.alloc (qO qa)) HB4.out 12 _ rfl
    go_wp2_with fail
    (with_reducible refine Calls.mono HRh.out ?_)
    rintro e w6 ⟨A6,c6,m6,q6,rfl,hrow6,hy6,hn6,hpl6,hb6⟩
    clear z_2 z_3 z_4 z_5 z_6 z_7 z_8 z_9 z_10 z_11 z_12
    have HR6:=aj hrow6
    have HY6:=aj hy6
    have HN6:=aj hn6
    have HP6:=aj hpl6
    have HB64:=aj (show Below w4.heap.size w4 (w6.alloc (qO q6)) from ((Below.refl _ _).alloc (Nat.le_refl _) (qO qa)).trans ((hb6.mono (by simp)).alloc (by have:=hb6.size;simp at this;omega) (qO q6)))
    have HB6:=aj (Below.refl w6.heap.size w6 |>.alloc (Nat.le_refl _) (qO q6))
    have HW6:=aj (((aP w4 41 (qA qa)).below hb6 (by simp)).alloc (qO q6))
    have HV6:=aj (aP w6 41 (qA q6))
    clear hrow6 hy6 hn6 hpl6 hb6 HRh
    rcases HCs.out with ⟨rfl,hq,hqa,-,hu⟩ | ⟨rfl,hq,hqa,hu⟩ | ⟨rfl,hq,hqa,hu⟩ | ⟨h9,-⟩
    ·have HAsk:=aj hq
     have HQa:=aj hqa
     have hz6:=HN6.out hq
     obtain ⟨hm6,hq6⟩:=hz6
     have HQ6:=aj hq6
     have HU6:=aj (hu.later HB64.out)
     have HSp:=aj (show ∀ a,A6=some a→a.spot=none from fun a ea=>by
      rcases HP6.out with ⟨h5,-⟩ | ⟨g5,h5,-⟩
      ·exact HR.out.2.1 a (h5 ▸ ea)
      ·rw [h5] at ea;injection ea with ea;rw [← ea])
     have HEl:=aj hu.elt
     have HRx:=aj (show bA.Row (w6.alloc (qO q6)) A6 m6.length c6 m6∧(∀ a,A6=some a→a.spot=none)∧∀ a,A6=some a→m6≠[]→¬ E4 a.block from ⟨HR6.out.below HB6.out,HSp.out,fun a ea hne hq=>by
      rcases HP6.out with ⟨h5,h6⟩ | ⟨g5,h5,h6⟩
      ·exact HE4.out a (h5 ▸ ea) (h6 ▸ hne) hq
      ·rw [h5] at ea
       injection ea with ea
       have h7:=(HEl.out _ hq).1
       rw [← ea] at h7
       simp only [World.size_alloc] at h6
       have h8:g5<w4.heap.size:=h7
       omega⟩)
     have HFx:=aj (show d4.armed=false∧m6.length≤i+1∧N+2≤62*(i+1) from ⟨HA4.out.1,by rw [hm6];have:=HF.out.2.1;omega,by have:=HF.out.2.2;omega⟩)
     have HSm:=aj (show Calls Tryz.prog 13 #[aM qa noS,aM q6 noS] (w6.alloc (qO q6)) (iw (w6.alloc (qO q6)) true) from by
      have h5:=jF qa q6 noS noS (w6.alloc (qO q6)) (Rp.oN _ _ (by rw [hqa]) (by rw [hqa]) (by rw [hqa])) (Rp.oN _ _ (by rw [hq6]) (by rw [hq6]) (by rw [hq6]))
      rw [show cu qa q6=true from by rw [hqa,hq6];exact Rp.adJ _] at h5
      exact h5)
     have HU6:=aj (show RpU w (w6.alloc (qO q6)) gr gd X4 E4 d4 a0 L4 m6 (N+2) from by rw [hm6];exact HU6.out)
     obtain ⟨u0,u1,u2,u3,u4,u5,u6,u7,u8,u9,u10⟩:=dI HW6.out
     obtain ⟨v0,v1,v2,v3,v4,v5,v6,v7,v8,v9,v10⟩:=dI HV6.out
     clear hq hqa hm6 hq6 hu HR6 HY6 HN6 HP6 HR4 HE4 HA4 HCs HB6 HB64
     have hq:=HAsk.out
     go_wp2_with fail
     (with_reducible refine Calls.mono HSm.out ?_)
     rintro e w7 ⟨rfl,hb7⟩
     have HU7:=aj (HU6.out.later hb7)
     have HR7:=aj (And.intro (HRx.out.1.below hb7) HRx.out.2)
     clear u0 u1 u2 u3 u4 u5 u6 u7 u8 u9 u10
     clear v0 v1 v2 v3 v4 v5 v6 v7 v8 v9 v10
     clear hb7 HSm HU6 HRx
     have hRl:(m6).length≤60:=by have:=HFx.out.2.1;have:=HK.out;omega
     have HAll:=aj (HU7.out.all (Nat.le_trans hRl (by decide)))
     have HRlen:=aj hRl
     clear hRl
     go_wp2_with fail
     (with_reducible refine Calls.mono HAll.out ?_)
     rintro e wa ⟨Aa,ca,rfl,hrowa,-,hba⟩
     have HSm:=aj (oK Aa A6 (m6).length (m6).length ca c6 (m6) (m6) wa hrowa (HR7.out.1.below hba))
     rw [oQ] at HSm
     have HUa:=aj (HU7.out.later hba)
     have HRa:=aj (And.intro (HR7.out.1.below hba) HR7.out.2)
     clear hrowa hba HAll
     go_wp2_with fail
     (with_reducible refine Calls.mono HSm.out ?_)
     rintro e wb ⟨rfl,hbb⟩
     have HUb:=aj (HUa.out.later hbb)
     have HRb:=aj (And.intro (HRa.out.1.below hbb) HRa.out.2)
     have HG0:=aj (show Calls Tryz.prog 17 #[.pointer (some ⟨gr,0,none⟩),.int .u64 0] wb (bT wb.heap.size wb (aK (aA (m6) 0))) from HUb.out.reg (t:=0) (by decide))
     clear hbb HSm HUa HRa
     go_wp2_with fail
     (with_reducible refine Calls.mono HG0.out ?_)
     rintro e wc ⟨rfl,hbc⟩
     have HUc:=aj (HUb.out.later hbc)
     have HRc:=aj (And.intro (HRb.out.1.below hbc) HRb.out.2)
     have HG1:=aj (show Calls Tryz.prog 17 #[.pointer (some ⟨gr,0,none⟩),.int .u64 9223372036854775808] wc (bT wc.heap.size wc (aK (aA (m6) 9223372036854775808))) from HUc.out.reg (t:=9223372036854775808) (by decide))
     have hne:(!dH (aA (m6) 0) (aA (m6) 9223372036854775808))=true→(m6).length≠0:=fun h1 h2=>by
      rw [List.eq_nil_of_length_eq_zero h2] at h1
      exact absurd h1 (by rw [show aA [] 0=bK from rfl,show aA [] 9223372036854775808=bK from rfl,nX];decide)
     have HNe:=aj hne
     have hnq:=fun w=>nW (aA (m6) 0) (aA (m6) 9223372036854775808) w
     have HNq:=aj hnq
     clear hbc hne hnq HUb HRb
     go_wp2_with fail
     (with_reducible refine Calls.mono HG1.out ?_)
     rintro e wd ⟨rfl,hbd⟩
     have HUd:=aj (HUc.out.later hbd)
     have HRd:=aj (And.intro (HRc.out.1.below hbd) HRc.out.2)
     clear hbd HUc HRc
     have hnq:=HNq.out
     generalize aA (m6) 0=r0 at *
     generalize aA (m6) 9223372036854775808=r1 at *
     cases hsm:dH r0 r1
     ·have hz:¬ (m6).length=0:=HNe.out (by rw [hsm];rfl)
      have hz1:((m6).length==0)=false:=beq_eq_false_iff_ne.2 hz
      have hz2:(((m6).length:Int)==0)=false:=beq_eq_false_iff_ne.2 (by omega)
      rw [hsm] at hnq
      clear hsm HNe HNq
      go_wp2_with fail
      go_roundw
      case rel=>exact ⟨i+1,gr,X4,E4,d4,L4,m6,(N+2),A6,c6,by have:=HK.out;omega,by go_num,rfl,rfl,HUd,HRd,aj (by have:=HFx.out;omega)⟩
      case measure=>have:=HK.out;simp [intOf];omega
     ·rw [hsm] at hnq
      clear hsm HNe HNq
      go_wp2_with fail
      go_roundw
      case rel=>exact ⟨i+1,gr,X4,E4,d4,L4,m6,(N+2),A6,c6,by have:=HK.out;omega,by go_num,rfl,rfl,HUd,HRd,aj (by have:=HFx.out;omega)⟩
      case measure=>have:=HK.out;simp [intOf];omega
    ·have HAsk:=aj hq
     have HQa:=aj hqa
     have hz6:=HY6.out hq
     obtain ⟨hm6,hq6⟩:=hz6
     have HQ6:=aj hq6
     have HU6:=aj (hu.later HB64.out)
     have HSp:=aj (show ∀ a,A6=some a→a.spot=none from fun a ea=>by
      rcases HP6.out with ⟨h5,-⟩ | ⟨g5,h5,-⟩
      ·exact HR.out.2.1 a (h5 ▸ ea)
      ·rw [h5] at ea;injection ea with ea;rw [← ea])
     have HEl:=aj hu.elt
     have HRx:=aj (show bA.Row (w6.alloc (qO q6)) A6 m6.length c6 m6∧(∀ a,A6=some a→a.spot=none)∧∀ a,A6=some a→m6≠[]→¬ E4 a.block from ⟨HR6.out.below HB6.out,HSp.out,fun a ea hne hq=>by
      rcases HP6.out with ⟨h5,h6⟩ | ⟨g5,h5,h6⟩
      ·exact HE4.out a (h5 ▸ ea) (h6 ▸ hne) hq
      ·rw [h5] at ea
       injection ea with ea
       have h7:=(HEl.out _ hq).1
       rw [← ea] at h7
       simp only [World.size_alloc] at h6
       have h8:g5<w4.heap.size:=h7
       omega⟩)
     have HFx:=aj (show d4.armed=false∧m6.length≤i+1∧N+2≤62*(i+1) from ⟨HA4.out.1,by rw [hm6];have:=HF.out.2.1;have:=HNl.out;omega,by have:=HF.out.2.2;omega⟩)
     have HSm:=aj (show Calls Tryz.prog 13 #[aM qa noS,aM q6 noS] (w6.alloc (qO q6)) (iw (w6.alloc (qO q6)) true) from by
      have h5:=jF qa q6 noS noS (w6.alloc (qO q6)) (Rp.oN _ _ (by rw [hqa];rfl) (by rw [hqa];rfl) (by rw [hqa];rfl)) (Rp.oN _ _ (by rw [hq6];rfl) (by rw [hq6];rfl) (by rw [hq6];rfl))
      rw [show cu qa q6=true from by rw [hqa,hq6];exact Rp.adJ _] at h5
      exact h5)
     have HU6:=aj (show RpU w (w6.alloc (qO q6)) gr gd X4 E4 d4 a0 L4 m6 (N+2) from by rw [hm6];exact HU6.out)
     obtain ⟨u0,u1,u2,u3,u4,u5,u6,u7,u8,u9,u10⟩:=dI HW6.out
     obtain ⟨v0,v1,v2,v3,v4,v5,v6,v7,v8,v9,v10⟩:=dI HV6.out
     clear hq hqa hm6 hq6 hu HR6 HY6 HN6 HP6 HR4 HE4 HA4 HCs HB6 HB64
     have hq:=HAsk.out
     go_wp2_with fail
     (with_reducible refine Calls.mono HSm.out ?_)
     rintro e w7 ⟨rfl,hb7⟩
     have HU7:=aj (HU6.out.later hb7)
     have HR7:=aj (And.intro (HRx.out.1.below hb7) HRx.out.2)
     clear u0 u1 u2 u3 u4 u5 u6 u7 u8 u9 u10
     clear v0 v1 v2 v3 v4 v5 v6 v7 v8 v9 v10
     clear hb7 HSm HU6 HRx
     have hRl:(m6).length≤60:=by have:=HFx.out.2.1;have:=HK.out;omega
     have HAll:=aj (HU7.out.all (Nat.le_trans hRl (by decide)))
     have HRlen:=aj hRl
     clear hRl
     go_wp2_with fail
     (with_reducible refine Calls.mono HAll.out ?_)
     rintro e wa ⟨Aa,ca,rfl,hrowa,-,hba⟩
     have HSm:=aj (oK Aa A6 (m6).length (m6).length ca c6 (m6) (m6) wa hrowa (HR7.out.1.below hba))
     rw [oQ] at HSm
     have HUa:=aj (HU7.out.later hba)
     have HRa:=aj (And.intro (HR7.out.1.below hba) HR7.out.2)
     clear hrowa hba HAll
     go_wp2_with fail
     (with_reducible refine Calls.mono HSm.out ?_)
     rintro e wb ⟨rfl,hbb⟩
     have HUb:=aj (HUa.out.later hbb)
     have HRb:=aj (And.intro (HRa.out.1.below hbb) HRa.out.2)
     have HG0:=aj (show Calls Tryz.prog 17 #[.pointer (some ⟨gr,0,none⟩),.int .u64 0] wb (bT wb.heap.size wb (aK (aA (m6) 0))) from HUb.out.reg (t:=0) (by decide))
     clear hbb HSm HUa HRa
     go_wp2_with fail
     (with_reducible refine Calls.mono HG0.out ?_)
     rintro e wc ⟨rfl,hbc⟩
     have HUc:=aj (HUb.out.later hbc)
     have HRc:=aj (And.intro (HRb.out.1.below hbc) HRb.out.2)
     have HG1:=aj (show Calls Tryz.prog 17 #[.pointer (some ⟨gr,0,none⟩),.int .u64 9223372036854775808] wc (bT wc.heap.size wc (aK (aA (m6) 9223372036854775808))) from HUc.out.reg (t:=9223372036854775808) (by decide))
     have hne:(!dH (aA (m6) 0) (aA (m6) 9223372036854775808))=true→(m6).length≠0:=fun h1 h2=>by
      rw [List.eq_nil_of_length_eq_zero h2] at h1
      exact absurd h1 (by rw [show aA [] 0=bK from rfl,show aA [] 9223372036854775808=bK from rfl,nX];decide)
     have HNe:=aj hne
     have hnq:=fun w=>nW (aA (m6) 0) (aA (m6) 9223372036854775808) w
     have HNq:=aj hnq
     clear hbc hne hnq HUb HRb
     go_wp2_with fail
     (with_reducible refine Calls.mono HG1.out ?_)
     rintro e wd ⟨rfl,hbd⟩
     have HUd:=aj (HUc.out.later hbd)
     have HRd:=aj (And.intro (HRc.out.1.below hbd) HRc.out.2)
     clear hbd HUc HRc
     have hnq:=HNq.out
     generalize aA (m6) 0=r0 at *
     generalize aA (m6) 9223372036854775808=r1 at *
     cases hsm:dH r0 r1
     ·have hz:¬ (m6).length=0:=HNe.out (by rw [hsm];rfl)
      have hz1:((m6).length==0)=false:=beq_eq_false_iff_ne.2 hz
      have hz2:(((m6).length:Int)==0)=false:=beq_eq_false_iff_ne.2 (by omega)
      rw [hsm] at hnq
      clear hsm HNe HNq
      go_wp2_with fail
      go_roundw
      case rel=>exact ⟨i+1,gr,X4,E4,d4,L4,m6,(N+2),A6,c6,by have:=HK.out;omega,by go_num,rfl,rfl,HUd,HRd,aj (by have:=HFx.out;omega)⟩
      case measure=>have:=HK.out;simp [intOf];omega
     ·rw [hsm] at hnq
      clear hsm HNe HNq
      go_wp2_with fail
      go_roundw
      case rel=>exact ⟨i+1,gr,X4,E4,d4,L4,m6,(N+2),A6,c6,by have:=HK.out;omega,by go_num,rfl,rfl,HUd,HRd,aj (by have:=HFx.out;omega)⟩
      case measure=>have:=HK.out;simp [intOf];omega
    ·have HAsk:=aj hq
     have HQa:=aj hqa
     have hz6:=HY6.out hq
     obtain ⟨hm6,hq6⟩:=hz6
     have HQ6:=aj hq6
     have HU6:=aj (hu.later HB64.out)
     have HRx:=aj (show bA.Row (w6.alloc (qO q6)) A R.length c R∧(∀ a,A=some a→a.spot=none)∧∀ a,A=some a→R≠[]→¬ E4 a.block from ⟨HR4.out.below HB64.out,HR.out.2.1,HE4.out⟩)
     have HFx:=aj (show d4.armed=false∧R.length≤i+1∧N+2≤62*(i+1) from ⟨HA4.out.1,by have:=HF.out.2.1;omega,by have:=HF.out.2.2;omega⟩)
     have HSm:=aj (show Calls Tryz.prog 13 #[aM qa noS,.agg #[.int .i64 0,.int .u64 0,.int .u64 0,.int .u64 0,.int .u64 0,.int .u64 0,.int .i64 0,.bool false,.slice none 0 0,.slice none 0 0,.slice none 0 0]] (w6.alloc (qO q6)) (iw (w6.alloc (qO q6)) true) from by
      have h5:=jF qa Rp.fU noS noS (w6.alloc (qO q6)) (Rp.oN _ _ (by rw [hqa]) (by rw [hqa]) (by rw [hqa])) (Rp.oN _ _ rfl rfl rfl)
      rw [hqa,show cu Rp.fU Rp.fU=true from rfl] at h5
      rw [hqa]
      exact h5)
     obtain ⟨u0,u1,u2,u3,u4,u5,u6,u7,u8,u9,u10⟩:=dI HW6.out
     obtain ⟨v0,v1,v2,v3,v4,v5,v6,v7,v8,v9,v10⟩:=dI HV6.out
     clear hq hqa hm6 hq6 hu HR6 HY6 HN6 HP6 HR4 HE4 HA4 HCs HB6 HB64
     have hq:=HAsk.out
     go_wp2_with fail
     (with_reducible refine Calls.mono HSm.out ?_)
     rintro e w7 ⟨rfl,hb7⟩
     have HU7:=aj (HU6.out.later hb7)
     have HR7:=aj (And.intro (HRx.out.1.below hb7) HRx.out.2)
     clear u0 u1 u2 u3 u4 u5 u6 u7 u8 u9 u10
     clear v0 v1 v2 v3 v4 v5 v6 v7 v8 v9 v10
     clear hb7 HSm HU6 HRx
     have hRl:(R).length≤60:=by have:=HFx.out.2.1;have:=HK.out;omega
     have HAll:=aj (HU7.out.all (Nat.le_trans hRl (by decide)))
     have HRlen:=aj hRl
     clear hRl
     go_wp2_with fail
     (with_reducible refine Calls.mono HAll.out ?_)
     rintro e wa ⟨Aa,ca,rfl,hrowa,-,hba⟩
     have HSm:=aj (oK Aa A (R).length (R).length ca c (R) (R) wa hrowa (HR7.out.1.below hba))
     rw [oQ] at HSm
     have HUa:=aj (HU7.out.later hba)
     have HRa:=aj (And.intro (HR7.out.1.below hba) HR7.out.2)
     clear hrowa hba HAll
     go_wp2_with fail
     (with_reducible refine Calls.mono HSm.out ?_)
     rintro e wb ⟨rfl,hbb⟩
     have HUb:=aj (HUa.out.later hbb)
     have HRb:=aj (And.intro (HRa.out.1.below hbb) HRa.out.2)
     have HG0:=aj (show Calls Tryz.prog 17 #[.pointer (some ⟨gr,0,none⟩),.int .u64 0] wb (bT wb.heap.size wb (aK (aA (R) 0))) from HUb.out.reg (t:=0) (by decide))
     clear hbb HSm HUa HRa
     go_wp2_with fail
     (with_reducible refine Calls.mono HG0.out ?_)
     rintro e wc ⟨rfl,hbc⟩
     have HUc:=aj (HUb.out.later hbc)
     have HRc:=aj (And.intro (HRb.out.1.below hbc) HRb.out.2)
     have HG1:=aj (show Calls Tryz.prog 17 #[.pointer (some ⟨gr,0,none⟩),.int .u64 9223372036854775808] wc (bT wc.heap.size wc (aK (aA (R) 9223372036854775808))) from HUc.out.reg (t:=9223372036854775808) (by decide))
     have hne:(!dH (aA (R) 0) (aA (R) 9223372036854775808))=true→(R).length≠0:=fun h1 h2=>by
      rw [List.eq_nil_of_length_eq_zero h2] at h1
      exact absurd h1 (by rw [show aA [] 0=bK from rfl,show aA [] 9223372036854775808=bK from rfl,nX];decide)
     have HNe:=aj hne
     have hnq:=fun w=>nW (aA (R) 0) (aA (R) 9223372036854775808) w
     have HNq:=aj hnq
     clear hbc hne hnq HUb HRb
     go_wp2_with fail
     (with_reducible refine Calls.mono HG1.out ?_)
     rintro e wd ⟨rfl,hbd⟩
     have HUd:=aj (HUc.out.later hbd)
     have HRd:=aj (And.intro (HRc.out.1.below hbd) HRc.out.2)
     clear hbd HUc HRc
     have hnq:=HNq.out
     generalize aA (R) 0=r0 at *
     generalize aA (R) 9223372036854775808=r1 at *
     cases hsm:dH r0 r1
     ·have hz:¬ (R).length=0:=HNe.out (by rw [hsm];rfl)
      have hz1:((R).length==0)=false:=beq_eq_false_iff_ne.2 hz
      have hz2:(((R).length:Int)==0)=false:=beq_eq_false_iff_ne.2 (by omega)
      rw [hsm] at hnq
      clear hsm HNe HNq
      go_wp2_with fail
      go_roundw
      case rel=>exact ⟨i+1,gr,X4,E4,d4,L4,R,(N+2),A,c,by have:=HK.out;omega,by go_num,rfl,rfl,HUd,HRd,aj (by have:=HFx.out;omega)⟩
      case measure=>have:=HK.out;simp [intOf];omega
     ·rw [hsm] at hnq
      clear hsm HNe HNq
      go_wp2_with fail
      go_roundw
      case rel=>exact ⟨i+1,gr,X4,E4,d4,L4,R,(N+2),A,c,by have:=HK.out;omega,by go_num,rfl,rfl,HUd,HRd,aj (by have:=HFx.out;omega)⟩
      case measure=>have:=HK.out;simp [intOf];omega
    ·exact absurd h9 (HA4.out.2 HF.out.1)
   have q0:(o.kind==0)=false:=beq_eq_false_iff_ne.2 k0
   by_cases k1:o.kind=1
   ·have q1:(o.kind==1)=true:=beq_iff_eq.2 k1
    clear k0 k1
    have HCo:=aj (HU.out.compact (by have:=HF.out;have:=HK.out;omega) (Nat.le_trans HI.out (by decide)))
    have x_0:wr.cell? ⟨g,off+i*14,none⟩=some (.int .i64 o.kind):=HC.out wr HB.out 0 _ rfl
    go_wp2_with fail
    (with_reducible refine Calls.mono HCo.out ?_)
    rintro e w5 ⟨k,X5,E5,d5,L5,rfl,mv5,ro5,ar5,h105,hcase⟩
    clear x_0
    have HR5:=aj (show bA.Row w5 A R.length c R∧(∀ a,A=some a→a.spot=none)∧∀ a,A=some a→R≠[]→¬ E5 a.block from ⟨uZ HR.out.1 mv5.tn HR.out.2.2,HR.out.2.1,fun a ea hne hq=>by
     rcases mv5.e1 _ hq with h1 | h1
     ·exact HR.out.2.2 a ea hne h1
     ·have:=row_in HR.out.1 ea hne;omega⟩)
    have HF5:=aj (show d5.armed=false∧R.length≤i+1∧N+R.length≤62*(i+1) from ⟨ar5.trans HF.out.1,by have:=HF.out;omega,by have:=HF.out;have:=HI.out;omega⟩)
    have hk5:(k=0∨k=9)∧RpU w w5 gr gd X5 E5 d5 a0 L5 R (N+R.length):=by
     rcases hcase with ⟨h,h2,-⟩ | ⟨h,h2⟩ | ⟨h,-⟩
     ·exact ⟨.inl h,h2⟩
     ·exact ⟨.inr h,h2⟩
     ·exact absurd h (h105 HF.out.1)
    have HU5:=aj hk5.2
    have hk:=hk5.1
    clear hcase mv5 ro5 ar5 h105 hk5 HCo
    rcases hk with rfl | rfl
    ·have hRl:(R).length≤60:=by have:=HF5.out.2.1;have:=HK.out;omega
     have HAll:=aj (HU5.out.all (Nat.le_trans hRl (by decide)))
     have HRlen:=aj hRl
     clear hRl
     go_wp2_with fail
     (with_reducible refine Calls.mono HAll.out ?_)
     rintro e wa ⟨Aa,ca,rfl,hrowa,-,hba⟩
     have HSm:=aj (oK Aa A (R).length (R).length ca c (R) (R) wa hrowa (HR5.out.1.below hba))
     rw [oQ] at HSm
     have HUa:=aj (HU5.out.later hba)
     have HRa:=aj (And.intro (HR5.out.1.below hba) HR5.out.2)
     clear hrowa hba HAll
     go_wp2_with fail
     (with_reducible refine Calls.mono HSm.out ?_)
     rintro e wb ⟨rfl,hbb⟩
     have HUb:=aj (HUa.out.later hbb)
     have HRb:=aj (And.intro (HRa.out.1.below hbb) HRa.out.2)
     have HG0:=aj (show Calls Tryz.prog 17 #[.pointer (some ⟨gr,0,none⟩),.int .u64 0] wb (bT wb.heap.size wb (aK (aA (R) 0))) from HUb.out.reg (t:=0) (by decide))
     clear hbb HSm HUa HRa
     go_wp2_with fail
     (with_reducible refine Calls.mono HG0.out ?_)
     rintro e wc ⟨rfl,hbc⟩
     have HUc:=aj (HUb.out.later hbc)
     have HRc:=aj (And.intro (HRb.out.1.below hbc) HRb.out.2)
     have HG1:=aj (show Calls Tryz.prog 17 #[.pointer (some ⟨gr,0,none⟩),.int .u64 9223372036854775808] wc (bT wc.heap.size wc (aK (aA (R) 9223372036854775808))) from HUc.out.reg (t:=9223372036854775808) (by decide))
     have hne:(!dH (aA (R) 0) (aA (R) 9223372036854775808))=true→(R).length≠0:=fun h1 h2=>by
      rw [List.eq_nil_of_length_eq_zero h2] at h1
      exact absurd h1 (by rw [show aA [] 0=bK from rfl,show aA [] 9223372036854775808=bK from rfl,nX];decide)
     have HNe:=aj hne
     have hnq:=fun w=>nW (aA (R) 0) (aA (R) 9223372036854775808) w
     have HNq:=aj hnq
     clear hbc hne hnq HUb HRb
     go_wp2_with fail
     (with_reducible refine Calls.mono HG1.out ?_)
     rintro e wd ⟨rfl,hbd⟩
     have HUd:=aj (HUc.out.later hbd)
     have HRd:=aj (And.intro (HRc.out.1.below hbd) HRc.out.2)
     clear hbd HUc HRc
     have hnq:=HNq.out
     generalize aA (R) 0=r0 at *
     generalize aA (R) 9223372036854775808=r1 at *
     cases hsm:dH r0 r1
     ·have hz:¬ (R).length=0:=HNe.out (by rw [hsm];rfl)
      have hz1:((R).length==0)=false:=beq_eq_false_iff_ne.2 hz
      have hz2:(((R).length:Int)==0)=false:=beq_eq_false_iff_ne.2 (by omega)
      rw [hsm] at hnq
      clear hsm HNe HNq
      go_wp2_with fail
      go_roundw
      case rel=>exact ⟨i+1,gr,X5,E5,d5,L5,R,(N+R.length),A,c,by have:=HK.out;omega,by go_num,rfl,rfl,HUd,HRd,aj (by have:=HF5.out;omega)⟩
      case measure=>have:=HK.out;simp [intOf];omega
     ·rw [hsm] at hnq
      clear hsm HNe HNq
      go_wp2_with fail
      go_roundw
      case rel=>exact ⟨i+1,gr,X5,E5,d5,L5,R,(N+R.length),A,c,by have:=HK.out;omega,by go_num,rfl,rfl,HUd,HRd,aj (by have:=HF5.out;omega)⟩
      case measure=>have:=HK.out;simp [intOf];omega
    ·have hRl:(R).length≤60:=by have:=HF5.out.2.1;have:=HK.out;omega
     have HAll:=aj (HU5.out.all (Nat.le_trans hRl (by decide)))
     have HRlen:=aj hRl
     clear hRl
     go_wp2_with fail
     (with_reducible refine Calls.mono HAll.out ?_)
     rintro e wa ⟨Aa,ca,rfl,hrowa,-,hba⟩
     have HSm:=aj (oK Aa A (R).length (R).length ca c (R) (R) wa hrowa (HR5.out.1.below hba))
     rw [oQ] at HSm
     have HUa:=aj (HU5.out.later hba)
     have HRa:=aj (And.intro (HR5.out.1.below hba) HR5.out.2)
     clear hrowa hba HAll
     go_wp2_with fail
     (with_reducible refine Calls.mono HSm.out ?_)
     rintro e wb ⟨rfl,hbb⟩
     have HUb:=aj (HUa.out.later hbb)
     have HRb:=aj (And.intro (HRa.out.1.below hbb) HRa.out.2)
     have HG0:=aj (show Calls Tryz.prog 17 #[.pointer (some ⟨gr,0,none⟩),.int .u64 0] wb (bT wb.heap.size wb (aK (aA (R) 0))) from HUb.out.reg (t:=0) (by decide))
     clear hbb HSm HUa HRa
     go_wp2_with fail
     (with_reducible refine Calls.mono HG0.out ?_)
     rintro e wc ⟨rfl,hbc⟩
     have HUc:=aj (HUb.out.later hbc)
     have HRc:=aj (And.intro (HRb.out.1.below hbc) HRb.out.2)
     have HG1:=aj (show Calls Tryz.prog 17 #[.pointer (some ⟨gr,0,none⟩),.int .u64 9223372036854775808] wc (bT wc.heap.size wc (aK (aA (R) 9223372036854775808))) from HUc.out.reg (t:=9223372036854775808) (by decide))
     have hne:(!dH (aA (R) 0) (aA (R) 9223372036854775808))=true→(R).length≠0:=fun h1 h2=>by
      rw [List.eq_nil_of_length_eq_zero h2] at h1
      exact absurd h1 (by rw [show aA [] 0=bK from rfl,show aA [] 9223372036854775808=bK from rfl,nX];decide)
     have HNe:=aj hne
     have hnq:=fun w=>nW (aA (R) 0) (aA (R) 9223372036854775808) w
     have HNq:=aj hnq
     clear hbc hne hnq HUb HRb
     go_wp2_with fail
     (with_reducible refine Calls.mono HG1.out ?_)
     rintro e wd ⟨rfl,hbd⟩
     have HUd:=aj (HUc.out.later hbd)
     have HRd:=aj (And.intro (HRc.out.1.below hbd) HRc.out.2)
     clear hbd HUc HRc
     have hnq:=HNq.out
     generalize aA (R) 0=r0 at *
     generalize aA (R) 9223372036854775808=r1 at *
     cases hsm:dH r0 r1
     ·have hz:¬ (R).length=0:=HNe.out (by rw [hsm];rfl)
      have hz1:((R).length==0)=false:=beq_eq_false_iff_ne.2 hz
      have hz2:(((R).length:Int)==0)=false:=beq_eq_false_iff_ne.2 (by omega)
      rw [hsm] at hnq
      clear hsm HNe HNq
      go_wp2_with fail
      go_roundw
      case rel=>exact ⟨i+1,gr,X5,E5,d5,L5,R,(N+R.length),A,c,by have:=HK.out;omega,by go_num,rfl,rfl,HUd,HRd,aj (by have:=HF5.out;omega)⟩
      case measure=>have:=HK.out;simp [intOf];omega
     ·rw [hsm] at hnq
      clear hsm HNe HNq
      go_wp2_with fail
      go_roundw
      case rel=>exact ⟨i+1,gr,X5,E5,d5,L5,R,(N+R.length),A,c,by have:=HK.out;omega,by go_num,rfl,rfl,HUd,HRd,aj (by have:=HF5.out;omega)⟩
      case measure=>have:=HK.out;simp [intOf];omega
   have q1:(o.kind==1)=false:=beq_eq_false_iff_ne.2 k1
   by_cases k3:o.kind=3
   ·have q3:(o.kind==3)=true:=beq_iff_eq.2 k3
    clear k0 k1 k3
    have HRo:=aj (HU.out.reopen HF.out.1 HM.out.1 HM.out.2)
    have x_0:wr.cell? ⟨g,off+i*14,none⟩=some (.int .i64 o.kind):=HC.out wr HB.out 0 _ rfl
    go_wp2_with fail
    (with_reducible refine Calls.mono HRo.out ?_)
    rintro e w5 ⟨gs,X5,E5,d5,rfl,hu5,ha5,ht5,he5⟩
    clear x_0
    have HR5:=aj (show bA.Row w5 A R.length c R∧(∀ a,A=some a→a.spot=none)∧∀ a,A=some a→R≠[]→¬ E5 a.block from ⟨uZ HR.out.1 ht5 HR.out.2.2,HR.out.2.1,fun a ea hne hq=>by
     rcases he5 _ hq with h1 | h1
     ·exact HR.out.2.2 a ea hne h1
     ·have:=row_in HR.out.1 ea hne;omega⟩)
    have HF5:=aj (show d5.armed=false∧R.length≤i+1∧N≤62*(i+1) from ⟨ha5,by have:=HF.out;omega,by have:=HF.out;omega⟩)
    have HU5:=aj hu5
    clear hu5 ha5 ht5 he5 HRo
    have hRl:(R).length≤60:=by have:=HF5.out.2.1;have:=HK.out;omega
    have HAll:=aj (HU5.out.all (Nat.le_trans hRl (by decide)))
    have HRlen:=aj hRl
    clear hRl
    go_wp2_with fail
    (with_reducible refine Calls.mono HAll.out ?_)
    rintro e wa ⟨Aa,ca,rfl,hrowa,-,hba⟩
    have HSm:=aj (oK Aa A (R).length (R).length ca c (R) (R) wa hrowa (HR5.out.1.below hba))
    rw [oQ] at HSm
    have HUa:=aj (HU5.out.later hba)
    have HRa:=aj (And.intro (HR5.out.1.below hba) HR5.out.2)
    clear hrowa hba HAll
    go_wp2_with fail
    (with_reducible refine Calls.mono HSm.out ?_)
    rintro e wb ⟨rfl,hbb⟩
    have HUb:=aj (HUa.out.later hbb)
    have HRb:=aj (And.intro (HRa.out.1.below hbb) HRa.out.2)
    have HG0:=aj (show Calls Tryz.prog 17 #[.pointer (some ⟨gs,0,none⟩),.int .u64 0] wb (bT wb.heap.size wb (aK (aA (R) 0))) from HUb.out.reg (t:=0) (by decide))
    clear hbb HSm HUa HRa
    go_wp2_with fail
    (with_reducible refine Calls.mono HG0.out ?_)
    rintro e wc ⟨rfl,hbc⟩
    have HUc:=aj (HUb.out.later hbc)
    have HRc:=aj (And.intro (HRb.out.1.below hbc) HRb.out.2)
    have HG1:=aj (show Calls Tryz.prog 17 #[.pointer (some ⟨gs,0,none⟩),.int .u64 9223372036854775808] wc (bT wc.heap.size wc (aK (aA (R) 9223372036854775808))) from HUc.out.reg (t:=9223372036854775808) (by decide))
    have hne:(!dH (aA (R) 0) (aA (R) 9223372036854775808))=true→(R).length≠0:=fun h1 h2=>by
     rw [List.eq_nil_of_length_eq_zero h2] at h1
     exact absurd h1 (by rw [show aA [] 0=bK from rfl,show aA [] 9223372036854775808=bK from rfl,nX];decide)
    have HNe:=aj hne
    have hnq:=fun w=>nW (aA (R) 0) (aA (R) 9223372036854775808) w
    have HNq:=aj hnq
    clear hbc hne hnq HUb HRb
    go_wp2_with fail
    (with_reducible refine Calls.mono HG1.out ?_)
    rintro e wd ⟨rfl,hbd⟩
    have HUd:=aj (HUc.out.later hbd)
    have HRd:=aj (And.intro (HRc.out.1.below hbd) HRc.out.2)
    clear hbd HUc HRc
    have hnq:=HNq.out
    generalize aA (R) 0=r0 at *
    generalize aA (R) 9223372036854775808=r1 at *
    cases hsm:dH r0 r1
    ·have hz:¬ (R).length=0:=HNe.out (by rw [hsm];rfl)
     have hz1:((R).length==0)=false:=beq_eq_false_iff_ne.2 hz
     have hz2:(((R).length:Int)==0)=false:=beq_eq_false_iff_ne.2 (by omega)
     rw [hsm] at hnq
     clear hsm HNe HNq
     go_wp2_with fail
     go_roundw
     case rel=>exact ⟨i+1,gs,X5,E5,d5,L,R,N,A,c,by have:=HK.out;omega,by go_num,rfl,rfl,HUd,HRd,aj (by have:=HF5.out;omega)⟩
     case measure=>have:=HK.out;simp [intOf];omega
    ·rw [hsm] at hnq
     clear hsm HNe HNq
     go_wp2_with fail
     go_roundw
     case rel=>exact ⟨i+1,gs,X5,E5,d5,L,R,N,A,c,by have:=HK.out;omega,by go_num,rfl,rfl,HUd,HRd,aj (by have:=HF5.out;omega)⟩
     case measure=>have:=HK.out;simp [intOf];omega
   have q3:(o.kind==3)=false:=beq_eq_false_iff_ne.2 k3
   clear k0 k1 k3
   have HF5:=aj (show d.armed=false∧R.length≤i+1∧N≤62*(i+1) from ⟨HF.out.1,by have:=HF.out;omega,by have:=HF.out;omega⟩)
   have x_0:wr.cell? ⟨g,off+i*14,none⟩=some (.int .i64 o.kind):=HC.out wr HB.out 0 _ rfl
   have hRl:(R).length≤60:=by have:=HF5.out.2.1;have:=HK.out;omega
   have HAll:=aj (HU.out.all (Nat.le_trans hRl (by decide)))
   have HRlen:=aj hRl
   clear hRl
   go_wp2_with fail
   (with_reducible refine Calls.mono HAll.out ?_)
   rintro e wa ⟨Aa,ca,rfl,hrowa,-,hba⟩
   have HSm:=aj (oK Aa A (R).length (R).length ca c (R) (R) wa hrowa (HR.out.1.below hba))
   rw [oQ] at HSm
   have HUa:=aj (HU.out.later hba)
   have HRa:=aj (And.intro (HR.out.1.below hba) HR.out.2)
   clear hrowa hba HAll
   go_wp2_with fail
   (with_reducible refine Calls.mono HSm.out ?_)
   rintro e wb ⟨rfl,hbb⟩
   have HUb:=aj (HUa.out.later hbb)
   have HRb:=aj (And.intro (HRa.out.1.below hbb) HRa.out.2)
   have HG0:=aj (show Calls Tryz.prog 17 #[.pointer (some ⟨gr,0,none⟩),.int .u64 0] wb (bT wb.heap.size wb (aK (aA (R) 0))) from HUb.out.reg (t:=0) (by decide))
   clear hbb HSm HUa HRa
   go_wp2_with fail
   (with_reducible refine Calls.mono HG0.out ?_)
   rintro e wc ⟨rfl,hbc⟩
   have HUc:=aj (HUb.out.later hbc)
   have HRc:=aj (And.intro (HRb.out.1.below hbc) HRb.out.2)
   have HG1:=aj (show Calls Tryz.prog 17 #[.pointer (some ⟨gr,0,none⟩),.int .u64 9223372036854775808] wc (bT wc.heap.size wc (aK (aA (R) 9223372036854775808))) from HUc.out.reg (t:=9223372036854775808) (by decide))
   have hne:(!dH (aA (R) 0) (aA (R) 9223372036854775808))=true→(R).length≠0:=fun h1 h2=>by
    rw [List.eq_nil_of_length_eq_zero h2] at h1
    exact absurd h1 (by rw [show aA [] 0=bK from rfl,show aA [] 9223372036854775808=bK from rfl,nX];decide)
   have HNe:=aj hne
   have hnq:=fun w=>nW (aA (R) 0) (aA (R) 9223372036854775808) w
   have HNq:=aj hnq
   clear hbc hne hnq HUb HRb
   go_wp2_with fail
   (with_reducible refine Calls.mono HG1.out ?_)
   rintro e wd ⟨rfl,hbd⟩
   have HUd:=aj (HUc.out.later hbd)
   have HRd:=aj (And.intro (HRc.out.1.below hbd) HRc.out.2)
   clear hbd HUc HRc
   have hnq:=HNq.out
   generalize aA (R) 0=r0 at *
   generalize aA (R) 9223372036854775808=r1 at *
   cases hsm:dH r0 r1
   ·have hz:¬ (R).length=0:=HNe.out (by rw [hsm];rfl)
    have hz1:((R).length==0)=false:=beq_eq_false_iff_ne.2 hz
    have hz2:(((R).length:Int)==0)=false:=beq_eq_false_iff_ne.2 (by omega)
    rw [hsm] at hnq
    clear hsm HNe HNq
    go_wp2_with fail
    go_roundw
    case rel=>exact ⟨i+1,gr,X,E,d,L,R,N,A,c,by have:=HK.out;omega,by go_num,rfl,rfl,HUd,HRd,aj (by have:=HF5.out;omega)⟩
    case measure=>have:=HK.out;simp [intOf];omega
   ·rw [hsm] at hnq
    clear hsm HNe HNq
    go_wp2_with fail
    go_roundw
    case rel=>exact ⟨i+1,gr,X,E,d,L,R,N,A,c,by have:=HK.out;omega,by go_num,rfl,rfl,HUd,HRd,aj (by have:=HF5.out;omega)⟩
    case measure=>have:=HK.out;simp [intOf];omega
  ·obtain rfl:i=n1:=by omega
   have x1:¬ (i:Int)<(i:Int):=by omega
   clear hlt hi
   go_wp2_with fail
   go_ret
   exact ⟨rfl,HB.out⟩
set_option maxRecDepth 100000 in
theorem lifted (os:Os) (started:os.Started) (H:Type) (enc:TypeId×Value→H) :
  ReturnsInHanded {} Tryz.checked os 3 .any (Rows.replicaPlaysSpec.pre6 enc Tryz.prog Tryz.f3 Rows.replicaPlaysRow.domain false) (Rows.replicaPlaysSpec.post enc Tryz.prog Tryz.f3 false true false false):=by
 refine returnsInHanded_of_change (C:=Tryz.checked) own started (by kernel_rfl) Tryz.func3
  (ChangeSpec.witness6 (enc:=enc) (C:=Tryz.checked) false ⟨#[],#[.int .i64 0,.slice none 0 0],[]⟩ 8 (by kernel_rfl) (by kernel_rfl) (by kernel_rfl) (by kernel_rfl)) ?_
 intro W base args ds gs before hval0 hW hcnd _
 have hval:∀ (j:Nat) t v,Tryz.f3.params[j]? = some t→args[j]? = some v→Value.okWide Tryz.prog W .any base t v:=hval0
 have hW':=hW
 obtain ⟨p,q,hA0,hV,rfl,hfz,hnd⟩:=hW
 have hA:DataW.TrodAll enc Tryz.prog W 0 (fun _=>true) true Tryz.f3.params.toList args.toList ds p:=hA0
 rw [Tryz.params3] at hA hval
 obtain ⟨v0,vs0,d0,ds0,p0,q0,hargs,rfl,rfl,h0,r0⟩:=trodAll_cons hA
 obtain ⟨v1,vs1,d1,ds1,p1,q1,rfl,rfl,rfl,h1,r1⟩:=trodAll_cons r0
 obtain ⟨rfl,rfl,rfl⟩:=trodAll_nil r1
 obtain rfl:args=#[v0,v1]:=by cases args;simp_all
 obtain ⟨rfl,rfl⟩:=trodVars_none hV
 obtain ⟨a0,rfl,rfl,rfl,w0⟩:=open_int Tryz.underlying3 (hval 0 3 v0 rfl rfl) h0
 have k1:=h1
 have lt1:∀ x∈p1,x.block<W.heap.size:=by obtain ⟨m,hm⟩:=k1;exact DataW.trod_lt m _ _ _ hm
 have w1:Rp.vR W v1:=Rp.aio (hval 1 22 v1 rfl rfl) h1
 clear hA0 hval0
 refine (walk a0 v1 W w0 w1).mono fun e W' ⟨he,bel⟩=>?_
 subst he
 exact ⟨_,rfl,_,_,_,[],_,[],hW',trodAll_mk1 (shut_bool Tryz.underlying4 _),(trodAll_cons_mk (shut_int Tryz.underlying3 w0) (trodAll_cons_mk (Below.trod laidOut (by kernel_rfl) (of_decide_eq_true (by kernel_rfl)) k1 bel lt1) trodAll_mk0)),rfl,bel.frame _,fun h=>by cases h⟩
theorem over:Rows.replicaPlaysRow.holds Tryz.pinned (OpenSpec.ofChange Rows.replicaPlaysSpec) :=
 OpenClaim.holds_of_wide 3 Tryz.f3 rfl rfl rfl rfl rfl rfl rfl ⟨rfl,rfl,rfl,rfl,rfl⟩ rfl rfl rfl rfl rfl (by kernel_rfl) Tryz.func3 (by kernel_rfl)
  (of_decide_eq_true (by kernel_rfl)) (by unfold Func.isWrapper;first | (rw [if_pos (by decide +kernel)];kernel_rfl) | (rw [if_neg (by decide +kernel)];exact ⟨rfl,rfl⟩))
  (fun os started H enc _=>lifted os started H enc)
theorem proved:Rows.ReplicaPlaysSaid:=over
#print axioms proved
end Go.Proofs.YtpcmlopbkehffaaGreat.replicaPlays
