/-
  Packets as bytes, there and back: plain lists.
-/
import Derived.Test.YtpcmlopbkehffaaGreatOGAD
import Derived.Test.YtpcmlopbkehffaaGreatOGBB
import Derived.Test.YtpcmlopbkehffaaGreatOGBC
import Derived.Test.YtpcmlopbkehffaaGreatOGBG
set_option linter.unusedSimpArgs false
set_option linter.unusedVariables false
namespace Go.Proofs.YtpcmlopbkehffaaGreat
open Go.RowKit Ru Fm
def pz (x:Int):UInt8:=UInt8.ofNat (x % 256).toNat
def memB (m:aJ):List UInt8:=eight m.id++(eight m.inc++[pz m.state])
def oL (h:Bool) (l:List UInt8):List UInt8:=if h then l else []
def vG (p:av):List UInt8 :=
 pz p.kind::(oL (aV p.kind).trace (eight p.trace)++(oL (aV p.kind).jP (eight p.bn++eight p.aZ)++(oL (aV p.kind).answer (flag p.ok::(eight p.sn++eight p.bM)) ++
  (oL (aV p.kind).verdict [pz p.v]++(oL (aV p.kind).spans (pz p.spans.length::p.spans.flatMap yT)++(oL (aV p.kind).members (pz p.members.length::p.members.flatMap memB) ++
   oL (aV p.kind).ids (pz p.ids.length::p.ids.flatMap eight)))))))
def hd (l:List UInt8):Nat:=(l.getD 0 0).toNat
def sM (l:List UInt8):Nat→List ay×List UInt8
 | 0=>([],l)
 | k+1=>((sM l k).1++[(abl (sM l k).2).2.1],(abl (sM l k).2).2.2)
def ahb (l:List UInt8):aJ:=⟨jC l 8,jC (l.drop 8) 8,(hd (l.drop 16):Nat)⟩
def rQ (l:List UInt8):Nat→List aJ×List UInt8
 | 0=>([],l)
 | k+1=>((rQ l k).1++[ahb (rQ l k).2],(rQ l k).2.drop 17)
def idK (l:List UInt8):Nat→List Nat×List UInt8
 | 0=>([],l)
 | k+1=>((idK l k).1++[jC (idK l k).2 8],(idK l k).2.drop 8)
def yX (d:List UInt8):av :=
 let h:=aV (hd d:Nat)
 let d0:=d.drop 1
 let d1:=if h.trace then d0.drop 8 else d0
 let d2:=if h.jP then d1.drop 16 else d1
 let d3:=if h.answer then d2.drop 17 else d2
 let d4:=if h.verdict then d3.drop 1 else d3
 let d5:=if h.spans then (sM (d4.drop 1) (hd d4)).2 else d4
 let d6:=if h.members then (rQ (d5.drop 1) (hd d5)).2 else d5
 ⟨(hd d:Nat),if h.trace then jC d0 8 else 0,if h.jP then jC d1 8 else 0,if h.jP then jC (d1.drop 8) 8 else 0,
   if h.answer then jC (d2.drop 1) 8 else 0,if h.answer then jC (d2.drop 9) 8 else 0,if h.verdict then (hd d3:Nat) else 0,if h.answer then decide (hd d2=1) else false,
   if h.spans then (sM (d4.drop 1) (hd d4)).1 else [],if h.members then (rQ (d5.drop 1) (hd d5)).1 else [],if h.ids then (idK (d6.drop 1) (hd d6)).1 else []⟩
structure RightD (p:av):Prop where
 kind:1≤p.kind∧p.kind≤10
 trace:(aV p.kind).trace=false→p.trace=0
 jP:(aV p.kind).jP=false→p.bn=0∧p.aZ=0
 answer:(aV p.kind).answer=false→p.ok=false∧p.sn=0∧p.bM=0
 v : 0≤p.v∧p.v≤3
 verdict:(aV p.kind).verdict=false→p.v=0
 spans:(aV p.kind).spans=false→p.spans=[]
 spans1:p.spans.length≤16
 spans2:∀ s∈p.spans,fq s=0
 members:(aV p.kind).members=false→p.members=[]
 amw:p.members.length≤16
 amx:∀ m∈p.members,0≤m.state∧m.state≤2
 ids:(aV p.kind).ids=false→p.ids=[]
 ids1:p.ids.length≤16
def fU:av:=⟨0,0,0,0,0,0,0,false,[],[],[]⟩
def encF (p:av):List UInt8:=framed (vG p)
def decF (b:List UInt8):Int×av :=
 if (aN b).1=0 then if dF (yX (aN b).2.1)=true∧encF (yX (aN b).2.1)=b then (0,yX (aN b).2.1) else (6,fU) else ((aN b).1,fU)
end Go.Proofs.YtpcmlopbkehffaaGreat
namespace Go.Proofs.YtpcmlopbkehffaaGreat
open Go.RowKit Ru
structure Box (w:World) (b:Nat) (s:ay):Prop where
 c0:w.cell? ⟨b,0,none⟩=some (.int .u64 (s.trace:Nat))
 c1:w.cell? ⟨b,1,none⟩=some (.int .u64 (s.id:Nat))
 c2:w.cell? ⟨b,2,none⟩=some (.int .u64 (s.parent:Nat))
 c3:w.cell? ⟨b,3,none⟩=some (.int .u64 (s.start:Nat))
 c4:w.cell? ⟨b,4,none⟩=some (.int .u64 (s.len:Nat))
 c5:w.cell? ⟨b,5,none⟩=some (.string s.service)
 c6:w.cell? ⟨b,6,none⟩=some (.string s.name)
 c7:w.cell? ⟨b,7,none⟩=some (.bool s.fail)
theorem Box.below {w w':World} {b B:Nat} {s:ay} (h:Box w b s) (hb:Below B w w') (hB:b<B):Box w' b s:=by
 obtain ⟨h0,h1,h2,h3,h4,h5,h6,h7⟩:=h
 have k:∀ o,w'.cell? ⟨b,o,none⟩=w.cell? ⟨b,o,none⟩:=fun o=>hb.cell (p:=⟨b,o,none⟩) hB
 exact ⟨by rw [k];exact h0,by rw [k];exact h1,by rw [k];exact h2,by rw [k];exact h3,by rw [k];exact h4,by rw [k];exact h5,by rw [k];exact h6,by rw [k];exact h7⟩
def tailK (s:ay) (k:Nat):List UInt8:=([s.service,s.name].take k).flatMap zQ
end Go.Proofs.YtpcmlopbkehffaaGreat
namespace Go.Proofs.YtpcmlopbkehffaaGreat
open Go.RowKit Ru
def tK (B:Nat) (w:World) (l:List UInt8) (e:Ending) (w':World):Prop:=∃ A n c,e = .returned (.slice A n c)∧Own B w' A n c l∧Below B w w'
theorem ako {B:Nat} {w w':World} {l l':List UInt8} {A:Option Addr} {n c:Nat} (h:Own B w' A n c l') (e:l'=l) (hb:Below B w w'):tK B w l (.returned (.slice A n c)) w':=⟨A,n,c,rfl,e ▸ h,hb⟩
def tC (w:World) (A:Option Addr) (W:World):Prop:=∀ g,g<w.heap.size→(∀ a,A=some a→a.block≠g)→W.heap[g]? = w.heap[g]?
def aak (w:World) (A A1:Option Addr):Prop:=∀ a,A1=some a→w.heap.size≤a.block∨∃ a',A=some a'∧a'.block=a.block
theorem tC.refl (w:World) (A:Option Addr):tC w A w:=fun _ _ _=>rfl
theorem aak.refl (w:World) (A:Option Addr):aak w A A:=fun a h => .inr ⟨a,h,rfl⟩
def amr (B:Nat) (w:World) (A0:Option Addr) (l:List UInt8) (e:Ending) (w':World):Prop:=∃ A n c,e = .returned (.slice A n c)∧Own B w' A n c l∧Below B w w'∧tC w A0 w'
end Go.Proofs.YtpcmlopbkehffaaGreat
