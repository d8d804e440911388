/-
  Ballots as pairs of numbers: their order, the greatest of some, the next one.
-/
import Derived.Test.YtpcmlopbkehffaaGreatOGAA
import Derived.Test.YtpcmlopbkehffaaGreatOGAQ
import Derived.Deep.RegionHeld3
import Derived.Deep.QuietTactic
import Derived.BigQuiet
import Derived.Lib.MinMax
import Derived.Deep.Slices
import Derived.Deep.DrawnRows
import Derived.OpenShut
import Derived.Laws.StructEq
import Derived.Lib.QuietBelow
set_option linter.unusedSimpArgs false
set_option linter.unusedVariables false
namespace Go.Proofs.YtpcmlopbkehffaaGreat
open Go.RowKit Rg
namespace Bl
abbrev aY:=PtD
def fF (a b:aY):Bool:=decide (a.pos<b.pos∨(a.pos=b.pos∧a.id<b.id))
def fP (a b:aY):Bool:=decide (a.pos=b.pos)&&decide (a.id=b.id)
theorem oP (a b:aY):fP a b=true ↔ a=b:=by
 obtain ⟨x,y⟩:=a
 obtain ⟨u,v⟩:=b
 simp [fP]
theorem agK (a b:aY):decide (oD a b<0)=fF a b:=by
 have h:=ltPt a b
 unfold ltOf at h
 rw [h]
 unfold fF PtD.Le
 rw [decide_eq_decide]
 omega
theorem agL (a:aY):fF a a=false:=decide_eq_false (by omega)
def upB (m b:aY):aY:=if fF m b=true then b else m
def maxF (l:List aY):aY:=l.foldl upB ⟨0,0⟩
theorem agF {a b c:aY} (h1:fF a b=false) (h2:fF b c=false):fF a c=false:=by
 unfold fF at *
 have:=of_decide_eq_false h1
 have:=of_decide_eq_false h2
 exact decide_eq_false (by omega)
def nextK (seen:aY) (version node:Nat):Int:=if node=0 then 1 else if seen.pos=18446744073709551615∨version=18446744073709551615 then 12 else 0
def nextD (seen:aY) (version node:Nat):aY:=if node=0 then ⟨0,0⟩ else if seen.pos=18446744073709551615∨version=18446744073709551615 then ⟨0,0⟩ else ⟨max (seen.pos+1) version,node⟩
end Bl
end Go.Proofs.YtpcmlopbkehffaaGreat
namespace Go.Proofs.YtpcmlopbkehffaaGreat
open Go.RowKit Rg
namespace Bl
set_option maxHeartbeats 4000000 in
theorem afj (a b:aY) (W:World):Calls Tryz.prog 145 #[iE a,iE b] W (bT W.heap.size W (.int .i64 (oD a b))):=by
 have Hk:=aj (show oD a b=orI (fD a.pos b.pos) (fD a.id b.id) from rfl)
 have Hc:=aj (fun (x y:Nat) (W':World)=>wP x y W')
 have Ho:=aj (fun (g:Nat) (x y:Int) (W':World) h0 h1=>ais g x y W' h0 h1)
 unfold nE at Hc Ho
 generalize oD a b=k at *
 go_enter Tryz.func145,Tryz.ntmps145
 go_wp2_with fail
 go_region_held3 (fun w'=>w'.cell? ⟨W.heap.size,0,none⟩=some (.int .u64 (a.pos:Nat))∧w'.cell? ⟨W.heap.size,1,none⟩=some (.int .u64 (a.id:Nat))∧w'.cell? ⟨W.heap.size+1,0,none⟩=some (.int .u64 (b.pos:Nat))∧w'.cell? ⟨W.heap.size+1,1,none⟩=some (.int .u64 (b.id:Nat))) (go_keep)
  (first | (go_at_call 150;(with_reducible refine Calls.mono (Hc.out _ _ _) ?_);rintro e w' ⟨rfl,rfl⟩) | (go_at_call 169;(with_reducible refine Calls.mono (Ho.out _ (fD a.pos b.pos) (fD a.id b.id) _ (acF _ _ _ _ (by simp) 0 _ rfl) (acF _ _ _ _ (by simp) 1 _ rfl)) ?_);rintro e w' ⟨rfl,rfl⟩) | fail)
 go_wp2_with fail
 go_ret
 exact bH (by rw [Hk.out];rfl) (by repeat (first | exact Below.refl _ _ | apply Below.drew | refine Below.alloc ?_ (by simp;try omega) _))
set_option maxHeartbeats 4000000 in
theorem dJ (a b:aY) (W:World):Calls Tryz.prog 124 #[iE a,iE b] W (bT W.heap.size W (.bool (fF a b))):=by
 have Hc:=aj (fun (W':World)=>afj a b W')
 have HB:=aj (((Below.refl W.heap.size W).alloc (Nat.le_refl _) (.cells #[.int .u64 (a.pos:Nat),.int .u64 (a.id:Nat)] 35)).alloc (by simp) (.cells #[.int .u64 (b.pos:Nat),.int .u64 (b.id:Nat)] 35))
 have HL:=aj (agK a b)
 generalize oD a b=k at *
 go_enter Tryz.func124,Tryz.ntmps124
 go_wp2_with fail
 (with_reducible refine Calls.mono (Hc.out _) ?_)
 rintro e w1 ⟨rfl,hb⟩
 have HB1:=aj (HB.out.trans (hb.mono HB.out.size))
 clear hb
 go_wp2_with fail
 go_ret
 exact bH (by rw [← HL.out];rfl) HB1.out
set_option maxHeartbeats 4000000 in
theorem adv (a b:aY) (W:World):Calls Tryz.prog 22 #[iE a,iE b] W (bT W.heap.size W (.bool (fF a b))):=by
 obtain ⟨x,y⟩:=a
 obtain ⟨u,v⟩:=b
 have hlt:fF ⟨x,y⟩ ⟨u,v⟩=decide (x<u∨(x=u∧y<v)):=rfl
 have hw:=(((Below.refl W.heap.size W).alloc (Nat.le_refl _) (.cells #[.int .u64 (x:Nat),.int .u64 (y:Nat)] 35)).alloc (by simp) (.cells #[.int .u64 (u:Nat),.int .u64 (v:Nat)] 35))
 have HW:=aj hw
 clear hw
 rcases Nat.lt_trichotomy x u with h1 | h1 | h1
 ·have H:=aj (show fF ⟨x,y⟩ ⟨u,v⟩=true by rw [hlt];exact decide_eq_true (.inl h1))
  have e1:decide (x<u)=true:=decide_eq_true h1
  clear hlt h1
  go_enter Tryz.func22,Tryz.ntmps22
  go_wp2
  go_ret
  exact bH (by rw [H.out];rfl) HW.out
 ·subst h1
  have e1:decide (x<x)=false:=decide_eq_false (by omega)
  have e2:(x==x)=true:=by simp
  by_cases h2:y<v
  ·have H:=aj (show fF ⟨x,y⟩ ⟨x,v⟩=true by rw [hlt];exact decide_eq_true (.inr ⟨rfl,h2⟩))
   have e3:decide (y<v)=true:=decide_eq_true h2
   clear hlt h2
   go_enter Tryz.func22,Tryz.ntmps22
   go_wp2
   go_ret
   exact bH (by rw [H.out];rfl) HW.out
  ·have H:=aj (show fF ⟨x,y⟩ ⟨x,v⟩=false by rw [hlt];exact decide_eq_false (by omega))
   have e3:decide (y<v)=false:=decide_eq_false h2
   clear hlt h2
   go_enter Tryz.func22,Tryz.ntmps22
   go_wp2
   go_ret
   exact bH (by rw [H.out];rfl) HW.out
 ·have H:=aj (show fF ⟨x,y⟩ ⟨u,v⟩=false by rw [hlt];exact decide_eq_false (by omega))
  have e1:decide (x<u)=false:=decide_eq_false (by omega)
  have e2:(x==u)=false:=by simp;omega
  have e3:((x:Int)==(u:Int))=false:=by simp;omega
  clear hlt h1
  go_enter Tryz.func22,Tryz.ntmps22
  go_wp2
  go_ret
  exact bH (by rw [H.out];rfl) HW.out
end Bl
end Go.Proofs.YtpcmlopbkehffaaGreat
namespace Go.Proofs.YtpcmlopbkehffaaGreat
open Go.RowKit Rg
namespace Bl
abbrev amu (m:aY):Array Value:=#[.int .u64 (m.pos:Nat),.int .u64 (m.id:Nat)]
theorem aa0 {B:Nat} {w W:World} {g:Nat} (h:Below B w W) (hg:B≤g) (a b:Value):Below B w ((W.setCell ⟨g,0,none⟩ a).setCell ⟨g,1,none⟩ b) :=
 (h.setCell (p:=⟨g,0,none⟩) hg a).setCell (p:=⟨g,1,none⟩) hg b
abbrev TwoBal (w1:World) (g1 o1 g2:Nat) (z m:aY) (W:World):Prop :=
 Below w1.heap.size w1 W∧W.cell? ⟨g1,o1,none⟩=some (.int .u64 (z.pos:Nat))∧W.cell? ⟨g1,o1+1,none⟩=some (.int .u64 (z.id:Nat))∧W.cell? ⟨g2,0,none⟩=some (.int .u64 (m.pos:Nat))∧W.cell? ⟨g2,1,none⟩=some (.int .u64 (m.id:Nat))
end Bl
end Go.Proofs.YtpcmlopbkehffaaGreat
namespace Go.Proofs.YtpcmlopbkehffaaGreat
open Go.RowKit Rg
namespace Bl
end Bl
end Go.Proofs.YtpcmlopbkehffaaGreat
namespace Go.Proofs.YtpcmlopbkehffaaGreat
open Go.RowKit Rg
namespace Bl
structure vQ (w:World) (A:Option Addr) (n c:Nat) (l:List Nat):Prop where
 at_:∀ k (hk:k<l.length),∃ b off,A=some ⟨b,off,none⟩∧w.cell? ⟨b,off+k,none⟩=some (.int .u64 (l[k]:Nat))
 len:l.length=n
 cap:n≤c
 max:c≤9223372036854775807
theorem vQ.below {w w':World} {A:Option Addr} {n c:Nat} {l:List Nat} (h:vQ w A n c l) (hb:Below w.heap.size w w'):vQ w' A n c l :=
 ⟨fun k hk=>by
  obtain ⟨b,off,e,hc⟩:=h.at_ k hk
  exact ⟨b,off,e,by rw [hb.cell (lt_of_cell hc)];exact hc⟩,h.len,h.cap,h.max⟩
section
open Go.ChangeShapes Go.WideShapes
variable {H:Type} {enc:TypeId×Value→H} {w:World} {base:Nat} {spare:Nat→Bool} {held:Bool} {fuel:Nat}
def Wf (p:aY):Prop:=p.pos<18446744073709551616∧p.id<18446744073709551616
def BalV (_w:World) (v:Value):Prop:=∃ m:aY,Wf m∧v=iE m
def BalsV (w:World) (v:Value):Prop:=∃ A n c ss,v = .slice A n c∧ptE.Row w A n c ss∧∀ s∈ss,Wf s
end
end Bl
end Go.Proofs.YtpcmlopbkehffaaGreat
namespace Go.Proofs.YtpcmlopbkehffaaGreat
open Go.RowKit Rg
namespace Bl
set_option maxRecDepth 100000 in
theorem aeO (a b:aY) (w:World):(Op.equalIn 10000 35 (iE a) (iE b)).run Tryz.prog w = .ok (fP a b) w:=by
 rw [run_equalIn_agg w 9999 35 _ _ (by kernel_rfl) (by kernel_rfl)]
 simp [Program.fieldsOf,Tryz.underlying35,Op.eqFields,part,go_sem]
 simp only [Int.ofNat_inj]
 unfold fP
 repeat' split
 all_goals simp_all
theorem tV (a b:aY) (w:World):(binOp .eql 35 (iE a) (iE b)).run Tryz.prog w = .ok (.bool (fP a b)) w:=by
 rw [run_eql_struct,aeO]
 rfl
def isF (l:List aY) (m:aY) (k:Nat):Bool:=decide (l.length=0)||(l.take k).any (fun x=>fP x m)
end Bl
end Go.Proofs.YtpcmlopbkehffaaGreat
