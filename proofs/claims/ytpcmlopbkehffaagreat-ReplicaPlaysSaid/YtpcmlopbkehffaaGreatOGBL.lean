/-
  Things: which type an interface value is of.
-/
import Derived.Test.YtpcmlopbkehffaaGreatOGAA
import Derived.Test.YtpcmlopbkehffaaGreatOGBE
import Derived.Test.YtpcmlopbkehffaaGreatOGBN
import Derived.Test.YtpcmlopbkehffaaGreatRows
import Derived.BigQuiet
set_option linter.unusedSimpArgs false
set_option linter.unusedVariables false
namespace Go.Proofs.YtpcmlopbkehffaaGreat
open Go.RowKit
abbrev zSpans:Value := .agg #[.int .u64 0,.bool false,.slice none 0 0]
abbrev amC:Value := .agg #[.slice none 0 0]
abbrev nC:Value := .agg #[.int .u64 0,.int .u64 0,.int .u64 0,.int .i64 0]
abbrev zReply:Value := .agg #[.int .u64 0,.int .u64 0,.int .u64 0,.bool false,.int .u64 0,.int .u64 0,.int .i64 0,.bool false]
abbrev zTold:Value := .agg #[.int .u64 0,.int .i64 0]
abbrev amD:Value := .agg #[.int .u64 0,.int .u64 0,.int .u64 0,.slice none 0 0]
abbrev zAcked:Value := .agg #[.int .u64 0,.slice none 0 0]
theorem agt (v:Value) (w:World):(Instr.typeAssert (.iface 92 v) 20 92 true).run Tryz.prog w = .ok (.tuple #[v,.bool true]) w:=by kernel_rfl
theorem ahB (w:World):(Instr.typeAssert .nilIface 20 92 true).run Tryz.prog w = .ok (.tuple #[nC,.bool false]) w:=by kernel_rfl
theorem acJ (v:Value) (w:World):(Instr.typeAssert (.iface 168 v) 20 92 true).run Tryz.prog w = .ok (.tuple #[nC,.bool false]) w:=by kernel_rfl
theorem ahy (v:Value) (w:World):(Instr.typeAssert (.iface 171 v) 20 92 true).run Tryz.prog w = .ok (.tuple #[nC,.bool false]) w:=by kernel_rfl
theorem acI (v:Value) (w:World):(Instr.typeAssert (.iface 173 v) 20 92 true).run Tryz.prog w = .ok (.tuple #[nC,.bool false]) w:=by kernel_rfl
theorem ahA (v:Value) (w:World):(Instr.typeAssert (.iface 175 v) 20 92 true).run Tryz.prog w = .ok (.tuple #[nC,.bool false]) w:=by kernel_rfl
theorem ahz (v:Value) (w:World):(Instr.typeAssert (.iface 177 v) 20 92 true).run Tryz.prog w = .ok (.tuple #[nC,.bool false]) w:=by kernel_rfl
theorem ahx (v:Value) (w:World):(Instr.typeAssert (.iface 180 v) 20 92 true).run Tryz.prog w = .ok (.tuple #[nC,.bool false]) w:=by kernel_rfl
end Go.Proofs.YtpcmlopbkehffaaGreat
namespace Go.Proofs.YtpcmlopbkehffaaGreat
open Go.RowKit Ru
structure Wr (B:Nat) (w0 w:World) (A:Option Addr) (n c:Nat) (p:av) (pre post:List UInt8):Prop where
 own:Own B w A n c pre
 all:pre++post=vG p
 len:(vG p).length≤8192
 below:Below B w0 w
 pos:0<n
theorem Wr.size {B:Nat} {w0 w:World} {A:Option Addr} {n c:Nat} {p:av} {pre post:List UInt8} (h:Wr B w0 w A n c p pre post):w0.heap.size≤w.heap.size:=h.below.size
theorem Wr.alloc {B:Nat} {w0 w:World} {A:Option Addr} {n c:Nat} {p:av} {pre post:List UInt8} (h:Wr B w0 w A n c p pre post) (hB:B≤w.heap.size) (o:Obj):Wr B w0 (w.alloc o) A n c p pre post :=
 ⟨h.own.alloc o,h.all,h.len,h.below.alloc hB o,h.pos⟩
def amt (B:Nat) (w0 w:World) (A0:Option Addr) (p:av) (pre post:List UInt8) (e:Ending) (w':World):Prop:=∃ A n c,e = .returned (.slice A n c)∧Wr B w0 w' A n c p pre post∧tC w A0 w'
def vV (B:Nat) (w0:World) (p:av) (pre post:List UInt8) (e:Ending) (w':World):Prop:=∃ A n c,e = .returned (.slice A n c)∧Wr B w0 w' A n c p pre post
theorem Wr.done {B B0:Nat} {w w0 W:World} {A:Option Addr} {n c:Nat} {p:av} {pre:List UInt8} (h:Wr B w0 W A n c p pre []) (hB:B0≤B) (hb:Below B0 w w0):tK B0 w (vG p) (.returned (.slice A n c)) W :=
 ako (h.own.mono hB) (by have:=h.all;rwa [List.append_nil] at this) (hb.trans (h.below.mono hB))
end Go.Proofs.YtpcmlopbkehffaaGreat
namespace Go.Proofs.YtpcmlopbkehffaaGreat
open Go.RowKit Ru
abbrev amz (tr:Nat) (v:Int):Value := .iface 175 (.agg #[.int .u64 (tr:Nat),.int .i64 v])
end Go.Proofs.YtpcmlopbkehffaaGreat
namespace Go.Proofs.YtpcmlopbkehffaaGreat
open Go.RowKit Ru
set_option maxRecDepth 100000 in
set_option maxHeartbeats 4000000 in
theorem ah2 (p:av) (s:aT) (w:World) (hp:bP w p s) (hw:p.Wf) (hm:p.spans.length≤1000000) (hr:dF p=false) :
  Calls Tryz.prog 32 #[aM p s] w fun e w'=>e = .returned (.tuple #[.nilIface,.int .i64 6])∧Below w.heap.size w w':=by
 have Ha:=aj (show Below w.heap.size w (w.alloc (.cells (bL p s) 41)) from (Below.refl _ _).alloc (Nat.le_refl _) _)
 have Hri:=aj (fun (W:World) (hb:Below w.heap.size w W)=>kS p s W (hp.below hb) hw hm)
 rw [hr,show bY false=6 from rfl] at Hri
 have e6:((6:Int) != 0)=true:=by decide
 clear hp hw hm hr
 go_enter Tryz.func32,Tryz.ntmps32
 go_wp2_with fail
 refine Calls.mono (Hri.out _ Ha.out) ?_
 rintro e w1 ⟨rfl,hb1⟩
 have Hb1:=aj (Ha.out.trans (hb1.mono Ha.out.size))
 clear hb1
 go_wp2_with fail
 go_ret2
 exact ⟨rfl,Hb1.out⟩
end Go.Proofs.YtpcmlopbkehffaaGreat
namespace Go.Proofs.YtpcmlopbkehffaaGreat
open Go.RowKit Ru
def Few (p:av):Prop:=p.spans.length≤40∧p.members.length≤100∧p.ids.length≤100
instance fewDec (p:av):Decidable (Few p):=by unfold Few;infer_instance
def mX (s:ay):Bool:=decide (s.name.size≤200)&&decide (s.service.size≤200)
def gX (p:av):Bool:=decide (Few p)&&p.spans.all mX
theorem agS {p:av} (h:gX p=true):Few p:=by
 unfold gX at h
 rw [Bool.and_eq_true,decide_eq_true_eq] at h
 exact h.1
theorem agU {p:av} (h:¬ Few p):gX p=false:=by unfold gX;rw [decide_eq_false h];rfl
theorem agT {p:av} {s:ay} (hs:s∈p.spans) (h:mX s=false):gX p=false:=by
 unfold gX
 rw [List.all_eq_false.2 ⟨s,hs,by rw [h];decide⟩,Bool.and_false]
theorem agR {p:av} (h:Few p) (hs:∀ j (hj:j<p.spans.length),mX p.spans[j]=true):gX p=true:=by
 unfold gX
 rw [decide_eq_true h,Bool.true_and,List.all_eq_true]
 intro x hx
 obtain ⟨j,hj,rfl⟩:=List.getElem_of_mem hx
 exact hs j hj
set_option maxRecDepth 100000 in
set_option maxHeartbeats 4000000 in
theorem ahl (p:av) (s:aT) (w:World) (hp:bP w p s) (hw:p.Wf):Calls Tryz.prog 24 #[aM p s] w (iw w (gX p)):=by
 have Hmany:=aj (agU (p:=p))
 have Hlong:=aj (fun s=>agT (p:=p) (s:=s))
 have Hall:=aj (agR (p:=p))
 generalize gX p=r at *
 have Hp:=aj hp
 have q1:=hp.r1.cap
 have q2:=hp.r1.max
 have q3:=hp.r2.cap
 have q4:=hp.r2.max
 have q5:=hp.r3.cap
 have q6:=hp.r3.max
 have Hw:=aj (fun s (h:s∈p.spans)=>hw.spans s h)
 clear hp hw
 unfold Few at Hmany Hall
 obtain ⟨kd,tr,bn,bd,sn,sd,v,ok,l1,l2,l3⟩:=p
 obtain ⟨a1,e1,a2,e2,a3,e3⟩:=s
 simp only at q1 q2 q3 q4 q5 q6 Hmany Hlong Hall Hw
 have Ha:=aj (show Below w.heap.size w (w.alloc (.cells (bL ⟨kd,tr,bn,bd,sn,sd,v,ok,l1,l2,l3⟩ ⟨a1,e1,a2,e2,a3,e3⟩) 41)) from (Below.refl _ _).alloc (Nat.le_refl _) _)
 have Hr:=aj (show bW w a1 l1.length e1 l1 from Hp.out.r1)
 by_cases h1:40<l1.length
 ·have t1:decide ((40:Int)<(l1.length:Int))=true:=decide_eq_true (by omega)
  have Hf:=aj (Hmany.out (by omega))
  clear h1
  go_enter Tryz.func24,Tryz.ntmps24
  go_wp2_with fail
  go_ret
  exact aD Hf.out Ha.out
 have t1:decide ((40:Int)<(l1.length:Int))=false:=decide_eq_false (by omega)
 by_cases h2:100<l2.length
 ·have t2:decide ((100:Int)<(l2.length:Int))=true:=decide_eq_true (by omega)
  have Hf:=aj (Hmany.out (by omega))
  go_enter Tryz.func24,Tryz.ntmps24
  go_wp2_with fail
  go_ret
  exact aD Hf.out Ha.out
 have t2:decide ((100:Int)<(l2.length:Int))=false:=decide_eq_false (by omega)
 by_cases h3:100<l3.length
 ·have t3:decide ((100:Int)<(l3.length:Int))=true:=decide_eq_true (by omega)
  have Hf:=aj (Hmany.out (by omega))
  go_enter Tryz.func24,Tryz.ntmps24
  go_wp2_with fail
  go_ret
  exact aD Hf.out Ha.out
 have t3:decide ((100:Int)<(l3.length:Int))=false:=decide_eq_false (by omega)
 have Hfew:=aj (show l1.length≤40∧l2.length≤100∧l3.length≤100 by omega)
 go_enter Tryz.func24,Tryz.ntmps24
 go_wp2_with fail
 go_loop [3] (fun vi=>∃ k:Nat,k≤l1.length∧vi = .int .i64 (k:Nat)∧Hid (∀ j (hj:j<l1.length),j<k→mX l1[j]=true)) (fun vi=>l1.length-(intOf vi).toNat)
 case atStart=>exact ⟨0,Nat.zero_le _,rfl,aj (fun j _ h=>absurd h (by omega))⟩
 case round =>
  obtain ⟨k,hk,rfl,Hg⟩:=hrel
  by_cases hlt:k<l1.length
  ·obtain ⟨b,off,rfl,hc⟩:=Hr.out.at_ hlt
   have hbw:=hc.lt
   obtain ⟨c0,c1,c2,c3,c4,c5,c6,c7⟩:=hc
   have y1:(k:Int)<(l1.length:Int):=by omega
   have y2:(0:Int)≤(k:Int):=by omega
   have hx:=Hw.out l1[k] (List.getElem_mem hlt)
   have z1:=hx.name
   have z2:=hx.service
   clear hx
   have Hbad:=aj (Hlong.out l1[k] (List.getElem_mem hlt))
   have Hn:=aj (fun (h:mX l1[k]=true)=>show ∀ j (hj:j<l1.length),j<k+1→mX l1[j]=true from fun j hj h2=>by
    by_cases e:j=k
    ·subst e;exact h
    ·exact Hg.out j hj (by omega))
   generalize l1[k]=x at *
   by_cases n1:200<x.name.size
   ·have g3:decide ((200:Int)<(x.name.size:Int))=true:=decide_eq_true (by omega)
    have Hf:=aj (Hbad.out (by unfold mX;rw [decide_eq_false (show ¬ x.name.size≤200 by omega)];rfl))
    go_wp2_with fail
    go_ret
    exact aD Hf.out Ha.out
   have g3:decide ((200:Int)<(x.name.size:Int))=false:=decide_eq_false (by omega)
   by_cases n2:200<x.service.size
   ·have g4:decide ((200:Int)<(x.service.size:Int))=true:=decide_eq_true (by omega)
    have Hf:=aj (Hbad.out (by unfold mX;rw [decide_eq_false (show ¬ x.service.size≤200 by omega)];simp))
    go_wp2_with fail
    go_ret
    exact aD Hf.out Ha.out
   have g4:decide ((200:Int)<(x.service.size:Int))=false:=decide_eq_false (by omega)
   have Hn2:=aj (Hn.out (by unfold mX;rw [decide_eq_true (show x.name.size≤200 by omega),decide_eq_true (show x.service.size≤200 by omega)];rfl))
   go_wp2_with fail
   go_round
   case rel=>exact ⟨k+1,by omega,by go_num,Hn2⟩
   case measure=>simp [intOf] <;> omega
  ·obtain rfl:k=l1.length:=by omega
   go_wp2_with fail
   go_ret
   exact aD (Hall.out Hfew.out (fun j hj=>Hg.out j hj hj)) Ha.out
end Go.Proofs.YtpcmlopbkehffaaGreat
