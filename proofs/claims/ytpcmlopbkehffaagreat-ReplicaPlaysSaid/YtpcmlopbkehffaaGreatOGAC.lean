/-
  Registers as data: which are right, and what a ballot and a verdict do to one.
-/
import Derived.Test.YtpcmlopbkehffaaGreatOGAB
set_option linter.unusedSimpArgs false
set_option linter.unusedVariables false
namespace Go.Proofs.YtpcmlopbkehffaaGreat
open Go.RowKit Rg Bl
namespace Re
structure aF where
 p : aY
 t : aY
 v : Int
instance:Inhabited aF:=⟨⟨⟨0,0⟩,⟨0,0⟩,0⟩⟩
abbrev bK:aF:=⟨⟨0,0⟩,⟨0,0⟩,0⟩
abbrev aK (r:aF):Value := .agg #[.int .u64 (r.p.pos:Nat),.int .u64 (r.p.id:Nat),.int .u64 (r.t.pos:Nat),.int .u64 (r.t.id:Nat),.int .i64 r.v]
abbrev aQ (r:aF):Array Value:=#[.int .u64 (r.p.pos:Nat),.int .u64 (r.p.id:Nat),.int .u64 (r.t.pos:Nat),.int .u64 (r.t.id:Nat),.int .i64 r.v]
def pU (r:aF):Bool:=fP r.t ⟨0,0⟩
def ng (v:Int):Bool:=decide (1≤v)&&decide (v≤3)
def kg (r:aF):Bool := !fF r.p r.t&&(if pU r then decide (r.v=0) else ng r.v)
def fE (r:aF) (b:aY):Bool:=decide (b.pos=0)||fF b r.p
def fu (r:aF) (b:aY) (v:Int):Bool := !fE r b&&(ng v && !(fP b r.t&&decide (v≠r.v)))
def jZ (r:aF) (b:aY):aF:=if fE r b then r else ⟨b,r.t,r.v⟩
def jO (r:aF) (b:aY) (v:Int):aF:=if fu r b v then ⟨b,b,v⟩ else r
def dH (r s:aF):Bool:=fP r.p s.p&&(fP r.t s.t&&decide (r.v=s.v))
theorem adH (a:aY):fP a a=true:=(oP a a).2 rfl
theorem nX (r:aF):dH r r=true:=by
 unfold dH
 rw [adH,adH]
 simp
theorem zD (r s:aF):dH r s=true ↔ r=s:=by
 obtain ⟨a,b,c⟩:=r
 obtain ⟨d,e,f⟩:=s
 unfold dH
 rw [Bool.and_eq_true,Bool.and_eq_true,oP,oP,decide_eq_true_eq]
 constructor
 ·rintro ⟨rfl,rfl,rfl⟩;rfl
 ·intro h;injection h with h1 h2 h3;exact ⟨h1,h2,h3⟩
theorem uP {r:aF} {b:aY} (h:fE r b=false):jZ r b=⟨b,r.t,r.v⟩:=by unfold jZ;rw [h];rfl
theorem uO {r:aF} {b:aY} (h:fE r b=true):jZ r b=r:=by unfold jZ;rw [h];rfl
theorem tO {r:aF} {b:aY} {v:Int} (h:fu r b v=true):jO r b v=⟨b,b,v⟩:=by unfold jO;rw [h];rfl
theorem tN {r:aF} {b:aY} {v:Int} (h:fu r b v=false):jO r b v=r:=by unfold jO;rw [h];rfl
theorem xJ (r:aF) (b:aY):fE r b=false ↔ b.pos≠0∧fF b r.p=false:=by
 unfold fE
 rw [Bool.or_eq_false_iff,decide_eq_false_iff_not]
theorem ad3 (r:aF) (b:aY) (v:Int):fu r b v=true ↔ fE r b=false∧(1≤v∧v≤3)∧(b=r.t→v=r.v):=by
 unfold fu ng
 rw [Bool.and_eq_true,Bool.and_eq_true,Bool.not_eq_true',Bool.not_eq_true',Bool.and_eq_true,decide_eq_true_eq,decide_eq_true_eq,Bool.and_eq_false_iff,decide_eq_false_iff_not]
 refine and_congr Iff.rfl (and_congr Iff.rfl ?_)
 constructor
 ·rintro (h | h) e
  ·rw [(oP _ _).2 e] at h;cases h
  ·exact Classical.not_not.1 h
 ·intro h
  by_cases e:b=r.t
  ·exact .inr (fun hn=>hn (h e))
  ·left
   rcases hs:fP b r.t with _ | _
   ·rfl
   ·exact absurd ((oP _ _).1 hs) e
theorem uV (r:aF):kg r=true ↔ fF r.p r.t=false∧(r.t=⟨0,0⟩→r.v=0)∧(r.t≠⟨0,0⟩→1≤r.v∧r.v≤3):=by
 unfold kg pU
 rw [Bool.and_eq_true,Bool.not_eq_true']
 refine and_congr Iff.rfl ?_
 rcases hs:fP r.t ⟨0,0⟩ with _ | _
 ·have hne:r.t≠⟨0,0⟩:=fun e=>by rw [(oP _ _).2 e] at hs;cases hs
  rw [if_neg (by decide)]
  unfold ng
  rw [Bool.and_eq_true,decide_eq_true_eq,decide_eq_true_eq]
  exact ⟨fun h=>⟨fun e=>absurd e hne,fun _=>h⟩,fun h=>h.2 hne⟩
 ·have he:=(oP _ _).1 hs
  rw [if_pos rfl,decide_eq_true_eq]
  exact ⟨fun h=>⟨fun _=>h,fun e=>absurd he e⟩,fun h=>h.1 he⟩
theorem ai2 {r:aF} {b:aY} (h:kg r=true):kg (jZ r b)=true:=by
 unfold jZ
 rcases hl:fE r b with _ | _
 ·rw [if_neg (by decide)]
  obtain ⟨h1,h2,h3⟩:=(uV r).1 h
  refine (uV _).2 ⟨?_,h2,h3⟩
  exact agF ((xJ r b).1 hl).2 h1
 ·rw [if_pos rfl];exact h
theorem aeu {r:aF} {b:aY} {v:Int} (h:kg r=true):kg (jO r b v)=true:=by
 unfold jO
 rcases hl:fu r b v with _ | _
 ·rw [if_neg (by decide)];exact h
 ·rw [if_pos rfl]
  obtain ⟨h1,h2,h3⟩:=(ad3 r b v).1 hl
  have hb:=((xJ r b).1 h1).1
  refine (uV _).2 ⟨agL b,fun e=>?_,fun _=>h2⟩
  have e:b=⟨0,0⟩:=e
  rw [e] at hb
  exact absurd rfl hb
end Re
end Go.Proofs.YtpcmlopbkehffaaGreat
namespace Go.Proofs.YtpcmlopbkehffaaGreat
open Go.RowKit Rg Bl
namespace Re
theorem ac4 (v:Int) (W:World):Calls Tryz.prog 99 #[.int .i64 v] W (bT W.heap.size W (.bool (ng v))):=by
 unfold ng
 by_cases h1:1≤v
 ·have e1:decide (1≤v)=true:=decide_eq_true h1
  have e2:decide (v ≥ 1)=true:=decide_eq_true h1
  by_cases h2:v≤3
  ·have e3:decide (v≤3)=true:=decide_eq_true h2
   rw [e1,e3]
   clear h1 h2
   go_enter Tryz.func99,Tryz.ntmps99
   go_wp2_with fail
   go_ret
   exact bH rfl (Below.refl _ _)
  ·have e3:decide (v≤3)=false:=decide_eq_false h2
   rw [e1,e3]
   clear h1 h2
   go_enter Tryz.func99,Tryz.ntmps99
   go_wp2_with fail
   go_ret
   exact bH rfl (Below.refl _ _)
 ·have e1:decide (1≤v)=false:=decide_eq_false h1
  have e2:decide (v ≥ 1)=false:=decide_eq_false h1
  rw [e1]
  clear h1
  go_enter Tryz.func99,Tryz.ntmps99
  go_wp2_with fail
  go_ret
  exact bH rfl (Below.refl _ _)
theorem amk (b:aY) (w:World):(binOp .eql 35 (.agg #[.int .u64 (b.pos:Nat),.int .u64 (b.id:Nat)]) (.agg #[.int .u64 0,.int .u64 0])).run Tryz.prog w = .ok (.bool (fP b ⟨0,0⟩)) w:=tV b ⟨0,0⟩ w
set_option maxRecDepth 20000 in
set_option maxHeartbeats 2000000 in
theorem alU (r:aF) (W:World):Calls Tryz.prog 125 #[aK r] W (bT W.heap.size W (.bool (pU r))):=by
 have H:=aj (fun w=>amk r.t w)
 have hn:pU r=fP r.t ⟨0,0⟩:=rfl
 rw [hn]
 generalize fP r.t ⟨0,0⟩=k at *
 have kn:=H.out
 clear hn
 go_enter Tryz.func125,Tryz.ntmps125
 go_wp2_with fail
 go_ret
 exact bH rfl ((Below.refl _ _).alloc (Nat.le_refl _) _)
set_option maxRecDepth 20000 in
set_option maxHeartbeats 2000000 in
theorem adk (r:aF) (b:aY) (W:World):Calls Tryz.prog 98 #[aK r,iE b] W (bT W.heap.size W (.bool (fE r b))):=by
 have HL:=aj (fun (W:World)=>dJ b r.p W)
 have HB:=aj (((Below.refl W.heap.size W).alloc (Nat.le_refl _) (.cells (aQ r) 54)).alloc (by simp) (.cells #[.int .u64 (b.pos:Nat),.int .u64 (b.id:Nat)] 35))
 unfold fE
 generalize fF b r.p=l at *
 by_cases h0:b.pos=0
 ·have e1:(b.pos==0)=true:=by rw [beq_iff_eq];exact h0
  have e2:(((b.pos:Nat):Int)==0)=true:=by rw [beq_iff_eq];omega
  rw [decide_eq_true h0]
  clear h0
  go_enter Tryz.func98,Tryz.ntmps98
  go_wp2_with fail
  go_ret
  exact bH rfl HB.out
 ·have e1:(b.pos==0)=false:=by rw [beq_eq_false_iff_ne];exact h0
  have e2:(((b.pos:Nat):Int)==0)=false:=by rw [beq_eq_false_iff_ne];omega
  rw [decide_eq_false h0]
  clear h0
  go_enter Tryz.func98,Tryz.ntmps98
  go_wp2_with fail
  (with_reducible refine Calls.mono (HL.out _) ?_)
  rintro e w1 ⟨rfl,hb⟩
  have HB1:=aj (HB.out.trans (hb.mono HB.out.size))
  clear hb
  go_wp2_with fail
  go_ret
  exact bH rfl HB1.out
set_option maxRecDepth 20000 in
set_option maxHeartbeats 2000000 in
theorem afl (r:aF) (b:aY) (v:Int) (W:World):Calls Tryz.prog 100 #[aK r,iE b,.int .i64 v] W (bT W.heap.size W (.bool (fP b r.t&&decide (v≠r.v)))):=by
 have HK:=aj (fun w=>tV b r.t w)
 have HB:=aj (((Below.refl W.heap.size W).alloc (Nat.le_refl _) (.cells (aQ r) 54)).alloc (by simp) (.cells #[.int .u64 (b.pos:Nat),.int .u64 (b.id:Nat)] 35))
 have kn:=HK.out
 rcases hs:fP b r.t with _ | _
 ·rw [hs] at kn
  clear HK hs
  go_enter Tryz.func100,Tryz.ntmps100
  go_wp2_with fail
  go_ret
  exact bH rfl HB.out
 ·rw [hs] at kn
  have hv:(v != r.v)=decide (v≠r.v):=by
   by_cases h:v=r.v
   ·rw [h];simp
   ·rw [decide_eq_true h];simpa using h
  rw [← hv]
  clear HK hs hv
  go_enter Tryz.func100,Tryz.ntmps100
  go_wp2_with fail
  go_ret
  exact bH (by simp) HB.out
set_option maxRecDepth 20000 in
set_option maxHeartbeats 2000000 in
theorem zw (r:aF) (W:World):Calls Tryz.prog 89 #[aK r] W (bT W.heap.size W (.bool (kg r))):=by
 have HL:=aj (fun (W:World)=>dJ r.p r.t W)
 have HU:=aj (fun (W:World)=>alU r W)
 have HP:=aj (fun (W:World)=>ac4 r.v W)
 have HW:=aj (aP W 54 (aQ r))
 have HB:=aj ((Below.refl W.heap.size W).alloc (Nat.le_refl _) (.cells (aQ r) 54))
 unfold kg
 generalize ng r.v=q at *
 rcases hl:fF r.p r.t with _ | _
 ·rw [hl] at HL
  clear hl
  rcases hn:pU r with _ | _
  ·rw [hn] at HU
   clear hn
   go_enter Tryz.func89,Tryz.ntmps89
   go_wp2_with fail
   (with_reducible refine Calls.mono (HL.out _) ?_)
   rintro e w1 ⟨rfl,hb⟩
   have HB1:=aj (HB.out.trans (hb.mono HB.out.size))
   have HW1:=aj (HW.out.below hb HW.out.lt)
   clear hb
   have y0:=HW1.out.cell 0 (.int .u64 (r.p.pos:Nat)) rfl
   have y1:=HW1.out.cell 1 (.int .u64 (r.p.id:Nat)) rfl
   have y2:=HW1.out.cell 2 (.int .u64 (r.t.pos:Nat)) rfl
   have y3:=HW1.out.cell 3 (.int .u64 (r.t.id:Nat)) rfl
   have y4:=HW1.out.cell 4 (.int .i64 r.v) rfl
   go_wp2_with fail
   (with_reducible refine Calls.mono (HU.out _) ?_)
   rintro e w2 ⟨rfl,hb⟩
   have HB2:=aj (HB1.out.trans (hb.mono HB1.out.size))
   have HW2:=aj (HW1.out.below hb HW1.out.lt)
   clear hb y0 y1 y2 y3 y4
   have y4:=HW2.out.cell 4 (.int .i64 r.v) rfl
   go_wp2_with fail
   (with_reducible refine Calls.mono (HP.out _) ?_)
   rintro e w3 ⟨rfl,hb⟩
   have HB3:=aj (HB2.out.trans (hb.mono HB2.out.size))
   clear hb y4
   go_wp2_with fail
   go_ret
   exact bH (by simp) HB3.out
  ·rw [hn] at HU
   clear hn
   have hv:(r.v==0)=decide (r.v=0):=by
    by_cases h:r.v=0
    ·rw [h];rfl
    ·rw [decide_eq_false h];simpa using h
   rw [if_pos rfl,← hv]
   clear hv
   go_enter Tryz.func89,Tryz.ntmps89
   go_wp2_with fail
   (with_reducible refine Calls.mono (HL.out _) ?_)
   rintro e w1 ⟨rfl,hb⟩
   have HB1:=aj (HB.out.trans (hb.mono HB.out.size))
   have HW1:=aj (HW.out.below hb HW.out.lt)
   clear hb
   have y0:=HW1.out.cell 0 (.int .u64 (r.p.pos:Nat)) rfl
   have y1:=HW1.out.cell 1 (.int .u64 (r.p.id:Nat)) rfl
   have y2:=HW1.out.cell 2 (.int .u64 (r.t.pos:Nat)) rfl
   have y3:=HW1.out.cell 3 (.int .u64 (r.t.id:Nat)) rfl
   have y4:=HW1.out.cell 4 (.int .i64 r.v) rfl
   go_wp2_with fail
   (with_reducible refine Calls.mono (HU.out _) ?_)
   rintro e w2 ⟨rfl,hb⟩
   have HB2:=aj (HB1.out.trans (hb.mono HB1.out.size))
   have HW2:=aj (HW1.out.below hb HW1.out.lt)
   clear hb y0 y1 y2 y3 y4
   have y4:=HW2.out.cell 4 (.int .i64 r.v) rfl
   go_wp2_with fail
   go_ret
   exact bH (by simp) HB2.out
 ·rw [hl] at HL
  clear hl HU
  generalize (if pU r=true then decide (r.v=0) else q)=z at *
  go_enter Tryz.func89,Tryz.ntmps89
  go_wp2_with fail
  (with_reducible refine Calls.mono (HL.out _) ?_)
  rintro e w1 ⟨rfl,hb⟩
  have HB1:=aj (HB.out.trans (hb.mono HB.out.size))
  clear hb
  go_wp2_with fail
  go_ret
  exact bH (by simp) HB1.out
end Re
end Go.Proofs.YtpcmlopbkehffaaGreat
namespace Go.Proofs.YtpcmlopbkehffaaGreat
open Go.RowKit Rg Bl
namespace Re
theorem kD {w:World} {g:Nat} {t:TypeId} {a b c d e:Value} (h:Whole w g t #[a,b,c,d,e]) (a' b' c' d' e':Value):Whole (((((w.setCell ⟨g,0,none⟩ a').setCell ⟨g,1,none⟩ b').setCell ⟨g,2,none⟩ c').setCell ⟨g,3,none⟩ d').setCell ⟨g,4,none⟩ e') g t #[a',b',c',d',e']:=((((h.store 0 a').store 1 b').store 2 c').store 3 d').store 4 e'
theorem eT {B:Nat} {w W:World} {g:Nat} (h:Below B w W) (hg:B≤g) (a b c d e:Value):Below B w (((((W.setCell ⟨g,0,none⟩ a).setCell ⟨g,1,none⟩ b).setCell ⟨g,2,none⟩ c).setCell ⟨g,3,none⟩ d).setCell ⟨g,4,none⟩ e) :=
 ((((h.setCell (p:=⟨g,0,none⟩) hg a).setCell (p:=⟨g,1,none⟩) hg b).setCell (p:=⟨g,2,none⟩) hg c).setCell (p:=⟨g,3,none⟩) hg d).setCell (p:=⟨g,4,none⟩) hg e
set_option maxRecDepth 20000 in
set_option maxHeartbeats 4000000 in
theorem ai3 (r:aF) (b:aY) (W:World):Calls Tryz.prog 65 #[aK r,iE b] W (bT W.heap.size W (.tuple #[aK (jZ r b),.bool (!fE r b)])):=by
 have HR:=aj (fun (W:World)=>adk r b W)
 have HB:=aj ((((Below.refl W.heap.size W).alloc (Nat.le_refl _) (.cells (aQ r) 54)).alloc (by simp) (.cells #[.int .u64 (b.pos:Nat),.int .u64 (b.id:Nat)] 35)).alloc (by simp;omega) (.cells #[.int .u64 0,.int .u64 0,.int .u64 0,.int .u64 0,.int .i64 0] 54))
 have HW:=aj (((aP W 54 (aQ r)).alloc (.cells #[.int .u64 (b.pos:Nat),.int .u64 (b.id:Nat)] 35)).alloc (.cells #[.int .u64 0,.int .u64 0,.int .u64 0,.int .u64 0,.int .i64 0] 54))
 have HX:=aj ((lG (W.alloc (.cells (aQ r) 54)) (W.heap.size+1) 35 #[.int .u64 (b.pos:Nat),.int .u64 (b.id:Nat)] (by simp)).alloc (.cells #[.int .u64 0,.int .u64 0,.int .u64 0,.int .u64 0,.int .i64 0] 54))
 have HY:=aj (lG ((W.alloc (.cells (aQ r) 54)).alloc (.cells #[.int .u64 (b.pos:Nat),.int .u64 (b.id:Nat)] 35)) (W.heap.size+1+1) 54 #[.int .u64 0,.int .u64 0,.int .u64 0,.int .u64 0,.int .i64 0] (by simp))
 rcases hl:fE r b with _ | _
 ·rw [hl] at HR
  have HP:=aj (uP hl)
  rw [HP.out]
  clear hl
  go_enter Tryz.func65,Tryz.ntmps65
  go_wp2_with fail
  (with_reducible refine Calls.mono (HR.out _) ?_)
  rintro e w1 ⟨rfl,hb⟩
  have HB1:=aj (HB.out.trans (hb.mono HB.out.size))
  have HW1:=aj (HW.out.below hb HW.out.lt)
  have HX1:=aj (HX.out.below hb HX.out.lt)
  have HY1:=aj (HY.out.below hb HY.out.lt)
  clear hb
  have y0:=HW1.out.cell 0 (.int .u64 (r.p.pos:Nat)) rfl
  have y1:=HW1.out.cell 1 (.int .u64 (r.p.id:Nat)) rfl
  have y2:=HW1.out.cell 2 (.int .u64 (r.t.pos:Nat)) rfl
  have y3:=HW1.out.cell 3 (.int .u64 (r.t.id:Nat)) rfl
  have y4:=HW1.out.cell 4 (.int .i64 r.v) rfl
  have z0:=HX1.out.cell 0 (.int .u64 (b.pos:Nat)) rfl
  have z1:=HX1.out.cell 1 (.int .u64 (b.id:Nat)) rfl
  have f0:=fun i=>HW1.out.free i
  have f1:=fun i=>HY1.out.free i
  have u0:=HY1.out.cell 0 (.int .u64 0) rfl
  have u1:=HY1.out.cell 1 (.int .u64 0) rfl
  have u2:=HY1.out.cell 2 (.int .u64 0) rfl
  have u3:=HY1.out.cell 3 (.int .u64 0) rfl
  have u4:=HY1.out.cell 4 (.int .i64 0) rfl
  go_wp2_with fail
  exact bodyPost_ret (v := .tuple #[aK ⟨b,r.t,r.v⟩,.bool true]) (by simp [results,Tryz.results65,go_sem,u0,u1,u2,u3,u4]) rfl (bH (by simp) (eT (aa0 HB1.out (Nat.le_refl _) _ _) (by omega) _ _ _ _ _))
 ·rw [hl] at HR
  have HP:=aj (uO hl)
  rw [HP.out]
  clear hl
  go_enter Tryz.func65,Tryz.ntmps65
  go_wp2_with fail
  (with_reducible refine Calls.mono (HR.out _) ?_)
  rintro e w1 ⟨rfl,hb⟩
  have HB1:=aj (HB.out.trans (hb.mono HB.out.size))
  have HW1:=aj (HW.out.below hb HW.out.lt)
  have HY1:=aj (HY.out.below hb HY.out.lt)
  clear hb
  have y0:=HW1.out.cell 0 (.int .u64 (r.p.pos:Nat)) rfl
  have y1:=HW1.out.cell 1 (.int .u64 (r.p.id:Nat)) rfl
  have y2:=HW1.out.cell 2 (.int .u64 (r.t.pos:Nat)) rfl
  have y3:=HW1.out.cell 3 (.int .u64 (r.t.id:Nat)) rfl
  have y4:=HW1.out.cell 4 (.int .i64 r.v) rfl
  have f1:=fun i=>HY1.out.free i
  have u0:=HY1.out.cell 0 (.int .u64 0) rfl
  have u1:=HY1.out.cell 1 (.int .u64 0) rfl
  have u2:=HY1.out.cell 2 (.int .u64 0) rfl
  have u3:=HY1.out.cell 3 (.int .u64 0) rfl
  have u4:=HY1.out.cell 4 (.int .i64 0) rfl
  go_wp2_with fail
  exact bodyPost_ret (v := .tuple #[aK r,.bool false]) (by simp [results,Tryz.results65,go_sem,u0,u1,u2,u3,u4]) rfl (bH (by simp) (eT HB1.out (by omega) _ _ _ _ _))
end Re
end Go.Proofs.YtpcmlopbkehffaaGreat
namespace Go.Proofs.YtpcmlopbkehffaaGreat
open Go.RowKit Rg Bl
namespace Re
theorem acE (v u:Int):(v != u)=decide (v≠u):=by
 by_cases h:v=u
 ·rw [h];simp
 ·rw [decide_eq_true h];simpa using h
set_option maxRecDepth 20000 in
set_option maxHeartbeats 4000000 in
theorem aev (r:aF) (b:aY) (v:Int) (W:World):Calls Tryz.prog 64 #[aK r,iE b,.int .i64 v] W (bT W.heap.size W (.tuple #[aK (jO r b v),.bool (fu r b v)])):=by
 have HR:=aj (fun (W:World)=>adk r b W)
 have HP:=aj (fun (W:World)=>ac4 v W)
 have HC:=aj (fun (W:World)=>afl r b v W)
 have HB:=aj ((((Below.refl W.heap.size W).alloc (Nat.le_refl _) (.cells (aQ r) 54)).alloc (by simp) (.cells #[.int .u64 (b.pos:Nat),.int .u64 (b.id:Nat)] 35)).alloc (by simp;omega) (.cells #[.int .u64 0,.int .u64 0,.int .u64 0,.int .u64 0,.int .i64 0] 54))
 have HW:=aj (((aP W 54 (aQ r)).alloc (.cells #[.int .u64 (b.pos:Nat),.int .u64 (b.id:Nat)] 35)).alloc (.cells #[.int .u64 0,.int .u64 0,.int .u64 0,.int .u64 0,.int .i64 0] 54))
 have HX:=aj ((lG (W.alloc (.cells (aQ r) 54)) (W.heap.size+1) 35 #[.int .u64 (b.pos:Nat),.int .u64 (b.id:Nat)] (by simp)).alloc (.cells #[.int .u64 0,.int .u64 0,.int .u64 0,.int .u64 0,.int .i64 0] 54))
 have HY:=aj (lG ((W.alloc (.cells (aQ r) 54)).alloc (.cells #[.int .u64 (b.pos:Nat),.int .u64 (b.id:Nat)] 35)) (W.heap.size+1+1) 54 #[.int .u64 0,.int .u64 0,.int .u64 0,.int .u64 0,.int .i64 0] (by simp))
 have HY0:=aj (show fu r b v=(!fE r b&&(ng v && !(fP b r.t&&decide (v≠r.v)))) from rfl)
 have HYes:=aj (fun h=>tO (r:=r) (b:=b) (v:=v) h)
 have HNo:=aj (fun h=>tN (r:=r) (b:=b) (v:=v) h)
 generalize (fP b r.t&&decide (v≠r.v))=q at *
 generalize ng v=m at *
 generalize fE r b=l at *
 cases l
 ·cases m
  ·have HE:=aj (show fu r b v=false from HY0.out)
   rw [HNo.out HE.out,HE.out]
   clear HYes HNo HY0 HE
   go_enter Tryz.func64,Tryz.ntmps64
   go_wp2_with fail
   (with_reducible refine Calls.mono (HR.out _) ?_)
   rintro e w1 ⟨rfl,hb⟩
   have HB1:=aj (HB.out.trans (hb.mono HB.out.size))
   have HW1:=aj (HW.out.below hb HW.out.lt)
   have HX1:=aj (HX.out.below hb HX.out.lt)
   have HY1:=aj (HY.out.below hb HY.out.lt)
   clear hb
   have y0:=HW1.out.cell 0 (.int .u64 (r.p.pos:Nat)) rfl
   have y1:=HW1.out.cell 1 (.int .u64 (r.p.id:Nat)) rfl
   have y2:=HW1.out.cell 2 (.int .u64 (r.t.pos:Nat)) rfl
   have y3:=HW1.out.cell 3 (.int .u64 (r.t.id:Nat)) rfl
   have y4:=HW1.out.cell 4 (.int .i64 r.v) rfl
   have z0:=HX1.out.cell 0 (.int .u64 (b.pos:Nat)) rfl
   have z1:=HX1.out.cell 1 (.int .u64 (b.id:Nat)) rfl
   have f0:=fun i=>HW1.out.free i
   have f1:=fun i=>HY1.out.free i
   have u0:=HY1.out.cell 0 (.int .u64 0) rfl
   have u1:=HY1.out.cell 1 (.int .u64 0) rfl
   have u2:=HY1.out.cell 2 (.int .u64 0) rfl
   have u3:=HY1.out.cell 3 (.int .u64 0) rfl
   have u4:=HY1.out.cell 4 (.int .i64 0) rfl
   go_wp2_with fail
   (with_reducible refine Calls.mono (HP.out _) ?_)
   rintro e w2 ⟨rfl,hb⟩
   have HB2:=aj (HB1.out.trans (hb.mono HB1.out.size))
   have HW2:=aj (HW1.out.below hb HW1.out.lt)
   have HX2:=aj (HX1.out.below hb HX1.out.lt)
   have HY2:=aj (HY1.out.below hb HY1.out.lt)
   clear hb
   clear y0 y1 y2 y3 y4 z0 z1 f0 f1 u0 u1 u2 u3 u4
   have y0:=HW2.out.cell 0 (.int .u64 (r.p.pos:Nat)) rfl
   have y1:=HW2.out.cell 1 (.int .u64 (r.p.id:Nat)) rfl
   have y2:=HW2.out.cell 2 (.int .u64 (r.t.pos:Nat)) rfl
   have y3:=HW2.out.cell 3 (.int .u64 (r.t.id:Nat)) rfl
   have y4:=HW2.out.cell 4 (.int .i64 r.v) rfl
   have z0:=HX2.out.cell 0 (.int .u64 (b.pos:Nat)) rfl
   have z1:=HX2.out.cell 1 (.int .u64 (b.id:Nat)) rfl
   have f0:=fun i=>HW2.out.free i
   have f1:=fun i=>HY2.out.free i
   have u0:=HY2.out.cell 0 (.int .u64 0) rfl
   have u1:=HY2.out.cell 1 (.int .u64 0) rfl
   have u2:=HY2.out.cell 2 (.int .u64 0) rfl
   have u3:=HY2.out.cell 3 (.int .u64 0) rfl
   have u4:=HY2.out.cell 4 (.int .i64 0) rfl
   go_wp2_with fail
   exact bodyPost_ret (v := .tuple #[aK r,.bool false]) (by simp [results,Tryz.results64,go_sem,u0,u1,u2,u3,u4]) rfl (bH (by simp) (eT HB2.out (by omega) _ _ _ _ _))
  ·cases q
   ·have HE:=aj (show fu r b v=true from HY0.out)
    rw [HYes.out HE.out,HE.out]
    clear HYes HNo HY0 HE
    go_enter Tryz.func64,Tryz.ntmps64
    go_wp2_with fail
    (with_reducible refine Calls.mono (HR.out _) ?_)
    rintro e w1 ⟨rfl,hb⟩
    have HB1:=aj (HB.out.trans (hb.mono HB.out.size))
    have HW1:=aj (HW.out.below hb HW.out.lt)
    have HX1:=aj (HX.out.below hb HX.out.lt)
    have HY1:=aj (HY.out.below hb HY.out.lt)
    clear hb
    have y0:=HW1.out.cell 0 (.int .u64 (r.p.pos:Nat)) rfl
    have y1:=HW1.out.cell 1 (.int .u64 (r.p.id:Nat)) rfl
    have y2:=HW1.out.cell 2 (.int .u64 (r.t.pos:Nat)) rfl
    have y3:=HW1.out.cell 3 (.int .u64 (r.t.id:Nat)) rfl
    have y4:=HW1.out.cell 4 (.int .i64 r.v) rfl
    have z0:=HX1.out.cell 0 (.int .u64 (b.pos:Nat)) rfl
    have z1:=HX1.out.cell 1 (.int .u64 (b.id:Nat)) rfl
    have f0:=fun i=>HW1.out.free i
    have f1:=fun i=>HY1.out.free i
    have u0:=HY1.out.cell 0 (.int .u64 0) rfl
    have u1:=HY1.out.cell 1 (.int .u64 0) rfl
    have u2:=HY1.out.cell 2 (.int .u64 0) rfl
    have u3:=HY1.out.cell 3 (.int .u64 0) rfl
    have u4:=HY1.out.cell 4 (.int .i64 0) rfl
    go_wp2_with fail
    (with_reducible refine Calls.mono (HP.out _) ?_)
    rintro e w2 ⟨rfl,hb⟩
    have HB2:=aj (HB1.out.trans (hb.mono HB1.out.size))
    have HW2:=aj (HW1.out.below hb HW1.out.lt)
    have HX2:=aj (HX1.out.below hb HX1.out.lt)
    have HY2:=aj (HY1.out.below hb HY1.out.lt)
    clear hb
    clear y0 y1 y2 y3 y4 z0 z1 f0 f1 u0 u1 u2 u3 u4
    have y0:=HW2.out.cell 0 (.int .u64 (r.p.pos:Nat)) rfl
    have y1:=HW2.out.cell 1 (.int .u64 (r.p.id:Nat)) rfl
    have y2:=HW2.out.cell 2 (.int .u64 (r.t.pos:Nat)) rfl
    have y3:=HW2.out.cell 3 (.int .u64 (r.t.id:Nat)) rfl
    have y4:=HW2.out.cell 4 (.int .i64 r.v) rfl
    have z0:=HX2.out.cell 0 (.int .u64 (b.pos:Nat)) rfl
    have z1:=HX2.out.cell 1 (.int .u64 (b.id:Nat)) rfl
    have f0:=fun i=>HW2.out.free i
    have f1:=fun i=>HY2.out.free i
    have u0:=HY2.out.cell 0 (.int .u64 0) rfl
    have u1:=HY2.out.cell 1 (.int .u64 0) rfl
    have u2:=HY2.out.cell 2 (.int .u64 0) rfl
    have u3:=HY2.out.cell 3 (.int .u64 0) rfl
    have u4:=HY2.out.cell 4 (.int .i64 0) rfl
    go_wp2_with fail
    (with_reducible refine Calls.mono (HC.out _) ?_)
    rintro e w3 ⟨rfl,hb⟩
    have HB3:=aj (HB2.out.trans (hb.mono HB2.out.size))
    have HW3:=aj (HW2.out.below hb HW2.out.lt)
    have HX3:=aj (HX2.out.below hb HX2.out.lt)
    have HY3:=aj (HY2.out.below hb HY2.out.lt)
    clear hb
    clear y0 y1 y2 y3 y4 z0 z1 f0 f1 u0 u1 u2 u3 u4
    have y0:=HW3.out.cell 0 (.int .u64 (r.p.pos:Nat)) rfl
    have y1:=HW3.out.cell 1 (.int .u64 (r.p.id:Nat)) rfl
    have y2:=HW3.out.cell 2 (.int .u64 (r.t.pos:Nat)) rfl
    have y3:=HW3.out.cell 3 (.int .u64 (r.t.id:Nat)) rfl
    have y4:=HW3.out.cell 4 (.int .i64 r.v) rfl
    have z0:=HX3.out.cell 0 (.int .u64 (b.pos:Nat)) rfl
    have z1:=HX3.out.cell 1 (.int .u64 (b.id:Nat)) rfl
    have f0:=fun i=>HW3.out.free i
    have f1:=fun i=>HY3.out.free i
    have u0:=HY3.out.cell 0 (.int .u64 0) rfl
    have u1:=HY3.out.cell 1 (.int .u64 0) rfl
    have u2:=HY3.out.cell 2 (.int .u64 0) rfl
    have u3:=HY3.out.cell 3 (.int .u64 0) rfl
    have u4:=HY3.out.cell 4 (.int .i64 0) rfl
    go_wp2_with fail
    exact bodyPost_ret (v := .tuple #[aK ⟨b,b,v⟩,.bool true]) (by simp [results,Tryz.results64,go_sem,u0,u1,u2,u3,u4]) rfl (bH (by simp) (eT HB3.out (by omega) _ _ _ _ _))
   ·have HE:=aj (show fu r b v=false from HY0.out)
    rw [HNo.out HE.out,HE.out]
    clear HYes HNo HY0 HE
    go_enter Tryz.func64,Tryz.ntmps64
    go_wp2_with fail
    (with_reducible refine Calls.mono (HR.out _) ?_)
    rintro e w1 ⟨rfl,hb⟩
    have HB1:=aj (HB.out.trans (hb.mono HB.out.size))
    have HW1:=aj (HW.out.below hb HW.out.lt)
    have HX1:=aj (HX.out.below hb HX.out.lt)
    have HY1:=aj (HY.out.below hb HY.out.lt)
    clear hb
    have y0:=HW1.out.cell 0 (.int .u64 (r.p.pos:Nat)) rfl
    have y1:=HW1.out.cell 1 (.int .u64 (r.p.id:Nat)) rfl
    have y2:=HW1.out.cell 2 (.int .u64 (r.t.pos:Nat)) rfl
    have y3:=HW1.out.cell 3 (.int .u64 (r.t.id:Nat)) rfl
    have y4:=HW1.out.cell 4 (.int .i64 r.v) rfl
    have z0:=HX1.out.cell 0 (.int .u64 (b.pos:Nat)) rfl
    have z1:=HX1.out.cell 1 (.int .u64 (b.id:Nat)) rfl
    have f0:=fun i=>HW1.out.free i
    have f1:=fun i=>HY1.out.free i
    have u0:=HY1.out.cell 0 (.int .u64 0) rfl
    have u1:=HY1.out.cell 1 (.int .u64 0) rfl
    have u2:=HY1.out.cell 2 (.int .u64 0) rfl
    have u3:=HY1.out.cell 3 (.int .u64 0) rfl
    have u4:=HY1.out.cell 4 (.int .i64 0) rfl
    go_wp2_with fail
    (with_reducible refine Calls.mono (HP.out _) ?_)
    rintro e w2 ⟨rfl,hb⟩
    have HB2:=aj (HB1.out.trans (hb.mono HB1.out.size))
    have HW2:=aj (HW1.out.below hb HW1.out.lt)
    have HX2:=aj (HX1.out.below hb HX1.out.lt)
    have HY2:=aj (HY1.out.below hb HY1.out.lt)
    clear hb
    clear y0 y1 y2 y3 y4 z0 z1 f0 f1 u0 u1 u2 u3 u4
    have y0:=HW2.out.cell 0 (.int .u64 (r.p.pos:Nat)) rfl
    have y1:=HW2.out.cell 1 (.int .u64 (r.p.id:Nat)) rfl
    have y2:=HW2.out.cell 2 (.int .u64 (r.t.pos:Nat)) rfl
    have y3:=HW2.out.cell 3 (.int .u64 (r.t.id:Nat)) rfl
    have y4:=HW2.out.cell 4 (.int .i64 r.v) rfl
    have z0:=HX2.out.cell 0 (.int .u64 (b.pos:Nat)) rfl
    have z1:=HX2.out.cell 1 (.int .u64 (b.id:Nat)) rfl
    have f0:=fun i=>HW2.out.free i
    have f1:=fun i=>HY2.out.free i
    have u0:=HY2.out.cell 0 (.int .u64 0) rfl
    have u1:=HY2.out.cell 1 (.int .u64 0) rfl
    have u2:=HY2.out.cell 2 (.int .u64 0) rfl
    have u3:=HY2.out.cell 3 (.int .u64 0) rfl
    have u4:=HY2.out.cell 4 (.int .i64 0) rfl
    go_wp2_with fail
    (with_reducible refine Calls.mono (HC.out _) ?_)
    rintro e w3 ⟨rfl,hb⟩
    have HB3:=aj (HB2.out.trans (hb.mono HB2.out.size))
    have HW3:=aj (HW2.out.below hb HW2.out.lt)
    have HX3:=aj (HX2.out.below hb HX2.out.lt)
    have HY3:=aj (HY2.out.below hb HY2.out.lt)
    clear hb
    clear y0 y1 y2 y3 y4 z0 z1 f0 f1 u0 u1 u2 u3 u4
    have y0:=HW3.out.cell 0 (.int .u64 (r.p.pos:Nat)) rfl
    have y1:=HW3.out.cell 1 (.int .u64 (r.p.id:Nat)) rfl
    have y2:=HW3.out.cell 2 (.int .u64 (r.t.pos:Nat)) rfl
    have y3:=HW3.out.cell 3 (.int .u64 (r.t.id:Nat)) rfl
    have y4:=HW3.out.cell 4 (.int .i64 r.v) rfl
    have z0:=HX3.out.cell 0 (.int .u64 (b.pos:Nat)) rfl
    have z1:=HX3.out.cell 1 (.int .u64 (b.id:Nat)) rfl
    have f0:=fun i=>HW3.out.free i
    have f1:=fun i=>HY3.out.free i
    have u0:=HY3.out.cell 0 (.int .u64 0) rfl
    have u1:=HY3.out.cell 1 (.int .u64 0) rfl
    have u2:=HY3.out.cell 2 (.int .u64 0) rfl
    have u3:=HY3.out.cell 3 (.int .u64 0) rfl
    have u4:=HY3.out.cell 4 (.int .i64 0) rfl
    go_wp2_with fail
    exact bodyPost_ret (v := .tuple #[aK r,.bool false]) (by simp [results,Tryz.results64,go_sem,u0,u1,u2,u3,u4]) rfl (bH (by simp) (eT HB3.out (by omega) _ _ _ _ _))
 ·have HE:=aj (show fu r b v=false from HY0.out)
  rw [HNo.out HE.out,HE.out]
  clear HYes HNo HY0 HE
  go_enter Tryz.func64,Tryz.ntmps64
  go_wp2_with fail
  (with_reducible refine Calls.mono (HR.out _) ?_)
  rintro e w1 ⟨rfl,hb⟩
  have HB1:=aj (HB.out.trans (hb.mono HB.out.size))
  have HW1:=aj (HW.out.below hb HW.out.lt)
  have HX1:=aj (HX.out.below hb HX.out.lt)
  have HY1:=aj (HY.out.below hb HY.out.lt)
  clear hb
  have y0:=HW1.out.cell 0 (.int .u64 (r.p.pos:Nat)) rfl
  have y1:=HW1.out.cell 1 (.int .u64 (r.p.id:Nat)) rfl
  have y2:=HW1.out.cell 2 (.int .u64 (r.t.pos:Nat)) rfl
  have y3:=HW1.out.cell 3 (.int .u64 (r.t.id:Nat)) rfl
  have y4:=HW1.out.cell 4 (.int .i64 r.v) rfl
  have z0:=HX1.out.cell 0 (.int .u64 (b.pos:Nat)) rfl
  have z1:=HX1.out.cell 1 (.int .u64 (b.id:Nat)) rfl
  have f0:=fun i=>HW1.out.free i
  have f1:=fun i=>HY1.out.free i
  have u0:=HY1.out.cell 0 (.int .u64 0) rfl
  have u1:=HY1.out.cell 1 (.int .u64 0) rfl
  have u2:=HY1.out.cell 2 (.int .u64 0) rfl
  have u3:=HY1.out.cell 3 (.int .u64 0) rfl
  have u4:=HY1.out.cell 4 (.int .i64 0) rfl
  go_wp2_with fail
  exact bodyPost_ret (v := .tuple #[aK r,.bool false]) (by simp [results,Tryz.results64,go_sem,u0,u1,u2,u3,u4]) rfl (bH (by simp) (eT HB1.out (by omega) _ _ _ _ _))
set_option maxRecDepth 20000 in
set_option maxHeartbeats 4000000 in
theorem akt (r:aF) (b:aY) (W:World):Calls Tryz.prog 40 #[aK r,iE b] W (bT W.heap.size W (.tuple #[aK (jZ r b),.bool (!fE r b)])):=by
 have HR:=aj (fun (W:World)=>adv b r.p W)
 have HB:=aj ((((Below.refl W.heap.size W).alloc (Nat.le_refl _) (.cells (aQ r) 60)).alloc (by simp) (.cells #[.int .u64 (b.pos:Nat),.int .u64 (b.id:Nat)] 35)).alloc (by simp;omega) (.cells #[.int .u64 0,.int .u64 0,.int .u64 0,.int .u64 0,.int .i64 0] 60))
 have HW:=aj (((aP W 60 (aQ r)).alloc (.cells #[.int .u64 (b.pos:Nat),.int .u64 (b.id:Nat)] 35)).alloc (.cells #[.int .u64 0,.int .u64 0,.int .u64 0,.int .u64 0,.int .i64 0] 60))
 have HX:=aj ((lG (W.alloc (.cells (aQ r) 60)) (W.heap.size+1) 35 #[.int .u64 (b.pos:Nat),.int .u64 (b.id:Nat)] (by simp)).alloc (.cells #[.int .u64 0,.int .u64 0,.int .u64 0,.int .u64 0,.int .i64 0] 60))
 have HY:=aj (lG ((W.alloc (.cells (aQ r) 60)).alloc (.cells #[.int .u64 (b.pos:Nat),.int .u64 (b.id:Nat)] 35)) (W.heap.size+1+1) 60 #[.int .u64 0,.int .u64 0,.int .u64 0,.int .u64 0,.int .i64 0] (by simp))
 have HY0:=aj (show fE r b=(decide (b.pos=0)||fF b r.p) from rfl)
 have HYes:=aj (fun h=>uP (r:=r) (b:=b) h)
 have HNo:=aj (fun h=>uO (r:=r) (b:=b) h)
 generalize fF b r.p=l at *
 cases l
 ·by_cases h0:b.pos=0
  ·have HE:=aj (show fE r b=true by rw [HY0.out,decide_eq_true h0];rfl)
   have e1:(b.pos==0)=true:=by rw [beq_iff_eq];exact h0
   have e2:(((b.pos:Nat):Int)==0)=true:=by rw [beq_iff_eq];omega
   rw [HNo.out HE.out,HE.out]
   clear HYes HNo HY0 HE h0
   go_enter Tryz.func40,Tryz.ntmps40
   go_wp2_with fail
   (with_reducible refine Calls.mono (HR.out _) ?_)
   rintro e w1 ⟨rfl,hb⟩
   have HB1:=aj (HB.out.trans (hb.mono HB.out.size))
   have HW1:=aj (HW.out.below hb HW.out.lt)
   have HX1:=aj (HX.out.below hb HX.out.lt)
   have HY1:=aj (HY.out.below hb HY.out.lt)
   clear hb
   have y0:=HW1.out.cell 0 (.int .u64 (r.p.pos:Nat)) rfl
   have y1:=HW1.out.cell 1 (.int .u64 (r.p.id:Nat)) rfl
   have y2:=HW1.out.cell 2 (.int .u64 (r.t.pos:Nat)) rfl
   have y3:=HW1.out.cell 3 (.int .u64 (r.t.id:Nat)) rfl
   have y4:=HW1.out.cell 4 (.int .i64 r.v) rfl
   have z0:=HX1.out.cell 0 (.int .u64 (b.pos:Nat)) rfl
   have z1:=HX1.out.cell 1 (.int .u64 (b.id:Nat)) rfl
   have f0:=fun i=>HW1.out.free i
   have f1:=fun i=>HY1.out.free i
   have u0:=HY1.out.cell 0 (.int .u64 0) rfl
   have u1:=HY1.out.cell 1 (.int .u64 0) rfl
   have u2:=HY1.out.cell 2 (.int .u64 0) rfl
   have u3:=HY1.out.cell 3 (.int .u64 0) rfl
   have u4:=HY1.out.cell 4 (.int .i64 0) rfl
   go_wp2_with fail
   exact bodyPost_ret (v := .tuple #[aK r,.bool false]) (by simp [results,Tryz.results40,go_sem,u0,u1,u2,u3,u4]) rfl (bH (by simp) (eT HB1.out (by omega) _ _ _ _ _))
  ·have HE:=aj (show fE r b=false by rw [HY0.out,decide_eq_false h0];rfl)
   have e1:(b.pos==0)=false:=by rw [beq_eq_false_iff_ne];exact h0
   have e2:(((b.pos:Nat):Int)==0)=false:=by rw [beq_eq_false_iff_ne];omega
   rw [HYes.out HE.out,HE.out]
   clear HYes HNo HY0 HE h0
   go_enter Tryz.func40,Tryz.ntmps40
   go_wp2_with fail
   (with_reducible refine Calls.mono (HR.out _) ?_)
   rintro e w1 ⟨rfl,hb⟩
   have HB1:=aj (HB.out.trans (hb.mono HB.out.size))
   have HW1:=aj (HW.out.below hb HW.out.lt)
   have HX1:=aj (HX.out.below hb HX.out.lt)
   have HY1:=aj (HY.out.below hb HY.out.lt)
   clear hb
   have y0:=HW1.out.cell 0 (.int .u64 (r.p.pos:Nat)) rfl
   have y1:=HW1.out.cell 1 (.int .u64 (r.p.id:Nat)) rfl
   have y2:=HW1.out.cell 2 (.int .u64 (r.t.pos:Nat)) rfl
   have y3:=HW1.out.cell 3 (.int .u64 (r.t.id:Nat)) rfl
   have y4:=HW1.out.cell 4 (.int .i64 r.v) rfl
   have z0:=HX1.out.cell 0 (.int .u64 (b.pos:Nat)) rfl
   have z1:=HX1.out.cell 1 (.int .u64 (b.id:Nat)) rfl
   have f0:=fun i=>HW1.out.free i
   have f1:=fun i=>HY1.out.free i
   have u0:=HY1.out.cell 0 (.int .u64 0) rfl
   have u1:=HY1.out.cell 1 (.int .u64 0) rfl
   have u2:=HY1.out.cell 2 (.int .u64 0) rfl
   have u3:=HY1.out.cell 3 (.int .u64 0) rfl
   have u4:=HY1.out.cell 4 (.int .i64 0) rfl
   go_wp2_with fail
   exact bodyPost_ret (v := .tuple #[aK ⟨b,r.t,r.v⟩,.bool true]) (by simp [results,Tryz.results40,go_sem,u0,u1,u2,u3,u4]) rfl (bH (by simp) (eT (aa0 HB1.out (Nat.le_refl _) _ _) (by omega) _ _ _ _ _))
 ·have HE:=aj (show fE r b=true by rw [HY0.out];simp)
  rw [HNo.out HE.out,HE.out]
  clear HYes HNo HY0 HE
  go_enter Tryz.func40,Tryz.ntmps40
  go_wp2_with fail
  (with_reducible refine Calls.mono (HR.out _) ?_)
  rintro e w1 ⟨rfl,hb⟩
  have HB1:=aj (HB.out.trans (hb.mono HB.out.size))
  have HW1:=aj (HW.out.below hb HW.out.lt)
  have HX1:=aj (HX.out.below hb HX.out.lt)
  have HY1:=aj (HY.out.below hb HY.out.lt)
  clear hb
  have y0:=HW1.out.cell 0 (.int .u64 (r.p.pos:Nat)) rfl
  have y1:=HW1.out.cell 1 (.int .u64 (r.p.id:Nat)) rfl
  have y2:=HW1.out.cell 2 (.int .u64 (r.t.pos:Nat)) rfl
  have y3:=HW1.out.cell 3 (.int .u64 (r.t.id:Nat)) rfl
  have y4:=HW1.out.cell 4 (.int .i64 r.v) rfl
  have z0:=HX1.out.cell 0 (.int .u64 (b.pos:Nat)) rfl
  have z1:=HX1.out.cell 1 (.int .u64 (b.id:Nat)) rfl
  have f0:=fun i=>HW1.out.free i
  have f1:=fun i=>HY1.out.free i
  have u0:=HY1.out.cell 0 (.int .u64 0) rfl
  have u1:=HY1.out.cell 1 (.int .u64 0) rfl
  have u2:=HY1.out.cell 2 (.int .u64 0) rfl
  have u3:=HY1.out.cell 3 (.int .u64 0) rfl
  have u4:=HY1.out.cell 4 (.int .i64 0) rfl
  go_wp2_with fail
  exact bodyPost_ret (v := .tuple #[aK r,.bool false]) (by simp [results,Tryz.results40,go_sem,u0,u1,u2,u3,u4]) rfl (bH (by simp) (eT HB1.out (by omega) _ _ _ _ _))
set_option maxRecDepth 20000 in
set_option maxHeartbeats 4000000 in
theorem ajg (r:aF) (b:aY) (v:Int) (W:World):Calls Tryz.prog 41 #[aK r,iE b,.int .i64 v] W (bT W.heap.size W (.tuple #[aK (jO r b v),.bool (fu r b v)])):=by
 have HR:=aj (fun (W:World)=>adv b r.p W)
 have HK:=aj (fun w=>tV b r.t w)
 have HB:=aj ((((Below.refl W.heap.size W).alloc (Nat.le_refl _) (.cells (aQ r) 60)).alloc (by simp) (.cells #[.int .u64 (b.pos:Nat),.int .u64 (b.id:Nat)] 35)).alloc (by simp;omega) (.cells #[.int .u64 0,.int .u64 0,.int .u64 0,.int .u64 0,.int .i64 0] 60))
 have HW:=aj (((aP W 60 (aQ r)).alloc (.cells #[.int .u64 (b.pos:Nat),.int .u64 (b.id:Nat)] 35)).alloc (.cells #[.int .u64 0,.int .u64 0,.int .u64 0,.int .u64 0,.int .i64 0] 60))
 have HX:=aj ((lG (W.alloc (.cells (aQ r) 60)) (W.heap.size+1) 35 #[.int .u64 (b.pos:Nat),.int .u64 (b.id:Nat)] (by simp)).alloc (.cells #[.int .u64 0,.int .u64 0,.int .u64 0,.int .u64 0,.int .i64 0] 60))
 have HY:=aj (lG ((W.alloc (.cells (aQ r) 60)).alloc (.cells #[.int .u64 (b.pos:Nat),.int .u64 (b.id:Nat)] 35)) (W.heap.size+1+1) 60 #[.int .u64 0,.int .u64 0,.int .u64 0,.int .u64 0,.int .i64 0] (by simp))
 have HY0:=aj (show fu r b v=(!(decide (b.pos=0)||fF b r.p)&&((decide (1≤v)&&decide (v≤3)) && !(fP b r.t&&decide (v≠r.v)))) from rfl)
 have HYes:=aj (fun h=>tO (r:=r) (b:=b) (v:=v) h)
 have HNo:=aj (fun h=>tN (r:=r) (b:=b) (v:=v) h)
 have kn:=HK.out
 have knv:=acE v r.v
 generalize fP b r.t=s at *
 generalize decide (v≠r.v)=q at *
 generalize fF b r.p=l at *
 clear HK
 cases l
 ·by_cases h0:b.pos=0
  ·have HE:=aj (show fu r b v=false by rw [HY0.out,decide_eq_true h0];simp)
   have e1:(b.pos==0)=true:=by rw [beq_iff_eq];exact h0
   have e2:(((b.pos:Nat):Int)==0)=true:=by rw [beq_iff_eq];omega
   rw [HNo.out HE.out,HE.out]
   clear HYes HNo HY0 HE h0
   go_enter Tryz.func41,Tryz.ntmps41
   go_wp2_with fail
   (with_reducible refine Calls.mono (HR.out _) ?_)
   rintro e w1 ⟨rfl,hb⟩
   have HB1:=aj (HB.out.trans (hb.mono HB.out.size))
   have HW1:=aj (HW.out.below hb HW.out.lt)
   have HX1:=aj (HX.out.below hb HX.out.lt)
   have HY1:=aj (HY.out.below hb HY.out.lt)
   clear hb
   have y0:=HW1.out.cell 0 (.int .u64 (r.p.pos:Nat)) rfl
   have y1:=HW1.out.cell 1 (.int .u64 (r.p.id:Nat)) rfl
   have y2:=HW1.out.cell 2 (.int .u64 (r.t.pos:Nat)) rfl
   have y3:=HW1.out.cell 3 (.int .u64 (r.t.id:Nat)) rfl
   have y4:=HW1.out.cell 4 (.int .i64 r.v) rfl
   have z0:=HX1.out.cell 0 (.int .u64 (b.pos:Nat)) rfl
   have z1:=HX1.out.cell 1 (.int .u64 (b.id:Nat)) rfl
   have f0:=fun i=>HW1.out.free i
   have f1:=fun i=>HY1.out.free i
   have u0:=HY1.out.cell 0 (.int .u64 0) rfl
   have u1:=HY1.out.cell 1 (.int .u64 0) rfl
   have u2:=HY1.out.cell 2 (.int .u64 0) rfl
   have u3:=HY1.out.cell 3 (.int .u64 0) rfl
   have u4:=HY1.out.cell 4 (.int .i64 0) rfl
   go_wp2_with fail
   exact bodyPost_ret (v := .tuple #[aK r,.bool false]) (by simp [results,Tryz.results41,go_sem,u0,u1,u2,u3,u4]) rfl (bH (by simp) (eT HB1.out (by omega) _ _ _ _ _))
  ·by_cases h1:v<1
   ·have HE:=aj (show fu r b v=false by rw [HY0.out,decide_eq_false (show ¬ 1≤v by omega)];simp)
    have v1:decide (v<1)=true:=decide_eq_true (by omega)
    have e1:(b.pos==0)=false:=by rw [beq_eq_false_iff_ne];exact h0
    have e2:(((b.pos:Nat):Int)==0)=false:=by rw [beq_eq_false_iff_ne];omega
    rw [HNo.out HE.out,HE.out]
    clear HYes HNo HY0 HE h0 h1
    go_enter Tryz.func41,Tryz.ntmps41
    go_wp2_with fail
    (with_reducible refine Calls.mono (HR.out _) ?_)
    rintro e w1 ⟨rfl,hb⟩
    have HB1:=aj (HB.out.trans (hb.mono HB.out.size))
    have HW1:=aj (HW.out.below hb HW.out.lt)
    have HX1:=aj (HX.out.below hb HX.out.lt)
    have HY1:=aj (HY.out.below hb HY.out.lt)
    clear hb
    have y0:=HW1.out.cell 0 (.int .u64 (r.p.pos:Nat)) rfl
    have y1:=HW1.out.cell 1 (.int .u64 (r.p.id:Nat)) rfl
    have y2:=HW1.out.cell 2 (.int .u64 (r.t.pos:Nat)) rfl
    have y3:=HW1.out.cell 3 (.int .u64 (r.t.id:Nat)) rfl
    have y4:=HW1.out.cell 4 (.int .i64 r.v) rfl
    have z0:=HX1.out.cell 0 (.int .u64 (b.pos:Nat)) rfl
    have z1:=HX1.out.cell 1 (.int .u64 (b.id:Nat)) rfl
    have f0:=fun i=>HW1.out.free i
    have f1:=fun i=>HY1.out.free i
    have u0:=HY1.out.cell 0 (.int .u64 0) rfl
    have u1:=HY1.out.cell 1 (.int .u64 0) rfl
    have u2:=HY1.out.cell 2 (.int .u64 0) rfl
    have u3:=HY1.out.cell 3 (.int .u64 0) rfl
    have u4:=HY1.out.cell 4 (.int .i64 0) rfl
    go_wp2_with fail
    exact bodyPost_ret (v := .tuple #[aK r,.bool false]) (by simp [results,Tryz.results41,go_sem,u0,u1,u2,u3,u4]) rfl (bH (by simp) (eT HB1.out (by omega) _ _ _ _ _))
   ·by_cases h3:3<v
    ·have HE:=aj (show fu r b v=false by rw [HY0.out,decide_eq_false (show ¬ v≤3 by omega)];simp)
     have v1:decide (v<1)=false:=decide_eq_false (by omega)
     have v3:decide (v>3)=true:=decide_eq_true (by omega)
     have v4:decide (3<v)=true:=decide_eq_true (by omega)
     have e1:(b.pos==0)=false:=by rw [beq_eq_false_iff_ne];exact h0
     have e2:(((b.pos:Nat):Int)==0)=false:=by rw [beq_eq_false_iff_ne];omega
     rw [HNo.out HE.out,HE.out]
     clear HYes HNo HY0 HE h0 h1 h3
     go_enter Tryz.func41,Tryz.ntmps41
     go_wp2_with fail
     (with_reducible refine Calls.mono (HR.out _) ?_)
     rintro e w1 ⟨rfl,hb⟩
     have HB1:=aj (HB.out.trans (hb.mono HB.out.size))
     have HW1:=aj (HW.out.below hb HW.out.lt)
     have HX1:=aj (HX.out.below hb HX.out.lt)
     have HY1:=aj (HY.out.below hb HY.out.lt)
     clear hb
     have y0:=HW1.out.cell 0 (.int .u64 (r.p.pos:Nat)) rfl
     have y1:=HW1.out.cell 1 (.int .u64 (r.p.id:Nat)) rfl
     have y2:=HW1.out.cell 2 (.int .u64 (r.t.pos:Nat)) rfl
     have y3:=HW1.out.cell 3 (.int .u64 (r.t.id:Nat)) rfl
     have y4:=HW1.out.cell 4 (.int .i64 r.v) rfl
     have z0:=HX1.out.cell 0 (.int .u64 (b.pos:Nat)) rfl
     have z1:=HX1.out.cell 1 (.int .u64 (b.id:Nat)) rfl
     have f0:=fun i=>HW1.out.free i
     have f1:=fun i=>HY1.out.free i
     have u0:=HY1.out.cell 0 (.int .u64 0) rfl
     have u1:=HY1.out.cell 1 (.int .u64 0) rfl
     have u2:=HY1.out.cell 2 (.int .u64 0) rfl
     have u3:=HY1.out.cell 3 (.int .u64 0) rfl
     have u4:=HY1.out.cell 4 (.int .i64 0) rfl
     go_wp2_with fail
     exact bodyPost_ret (v := .tuple #[aK r,.bool false]) (by simp [results,Tryz.results41,go_sem,u0,u1,u2,u3,u4]) rfl (bH (by simp) (eT HB1.out (by omega) _ _ _ _ _))
    ·have v1:decide (v<1)=false:=decide_eq_false (by omega)
     have v3:decide (v>3)=false:=decide_eq_false (by omega)
     have v4:decide (3<v)=false:=decide_eq_false (by omega)
     have e1:(b.pos==0)=false:=by rw [beq_eq_false_iff_ne];exact h0
     have e2:(((b.pos:Nat):Int)==0)=false:=by rw [beq_eq_false_iff_ne];omega
     have HYx:=aj (show fu r b v = !(s&&q) by rw [HY0.out,decide_eq_false h0,decide_eq_true (show 1≤v by omega),decide_eq_true (show v≤3 by omega)];simp)
     clear h0 h1 h3 HY0
     cases s
     ·have HE:=aj (show fu r b v=true from HYx.out)
      rw [HYes.out HE.out,HE.out]
      clear HYes HNo HYx HE
      go_enter Tryz.func41,Tryz.ntmps41
      go_wp2_with fail
      (with_reducible refine Calls.mono (HR.out _) ?_)
      rintro e w1 ⟨rfl,hb⟩
      have HB1:=aj (HB.out.trans (hb.mono HB.out.size))
      have HW1:=aj (HW.out.below hb HW.out.lt)
      have HX1:=aj (HX.out.below hb HX.out.lt)
      have HY1:=aj (HY.out.below hb HY.out.lt)
      clear hb
      have y0:=HW1.out.cell 0 (.int .u64 (r.p.pos:Nat)) rfl
      have y1:=HW1.out.cell 1 (.int .u64 (r.p.id:Nat)) rfl
      have y2:=HW1.out.cell 2 (.int .u64 (r.t.pos:Nat)) rfl
      have y3:=HW1.out.cell 3 (.int .u64 (r.t.id:Nat)) rfl
      have y4:=HW1.out.cell 4 (.int .i64 r.v) rfl
      have z0:=HX1.out.cell 0 (.int .u64 (b.pos:Nat)) rfl
      have z1:=HX1.out.cell 1 (.int .u64 (b.id:Nat)) rfl
      have f0:=fun i=>HW1.out.free i
      have f1:=fun i=>HY1.out.free i
      have u0:=HY1.out.cell 0 (.int .u64 0) rfl
      have u1:=HY1.out.cell 1 (.int .u64 0) rfl
      have u2:=HY1.out.cell 2 (.int .u64 0) rfl
      have u3:=HY1.out.cell 3 (.int .u64 0) rfl
      have u4:=HY1.out.cell 4 (.int .i64 0) rfl
      go_wp2_with fail
      exact bodyPost_ret (v := .tuple #[aK ⟨b,b,v⟩,.bool true]) (by simp [results,Tryz.results41,go_sem,u0,u1,u2,u3,u4]) rfl (bH (by simp) (eT HB1.out (by omega) _ _ _ _ _))
     ·cases q
      ·have HE:=aj (show fu r b v=true from HYx.out)
       rw [HYes.out HE.out,HE.out]
       clear HYes HNo HYx HE
       go_enter Tryz.func41,Tryz.ntmps41
       go_wp2_with fail
       (with_reducible refine Calls.mono (HR.out _) ?_)
       rintro e w1 ⟨rfl,hb⟩
       have HB1:=aj (HB.out.trans (hb.mono HB.out.size))
       have HW1:=aj (HW.out.below hb HW.out.lt)
       have HX1:=aj (HX.out.below hb HX.out.lt)
       have HY1:=aj (HY.out.below hb HY.out.lt)
       clear hb
       have y0:=HW1.out.cell 0 (.int .u64 (r.p.pos:Nat)) rfl
       have y1:=HW1.out.cell 1 (.int .u64 (r.p.id:Nat)) rfl
       have y2:=HW1.out.cell 2 (.int .u64 (r.t.pos:Nat)) rfl
       have y3:=HW1.out.cell 3 (.int .u64 (r.t.id:Nat)) rfl
       have y4:=HW1.out.cell 4 (.int .i64 r.v) rfl
       have z0:=HX1.out.cell 0 (.int .u64 (b.pos:Nat)) rfl
       have z1:=HX1.out.cell 1 (.int .u64 (b.id:Nat)) rfl
       have f0:=fun i=>HW1.out.free i
       have f1:=fun i=>HY1.out.free i
       have u0:=HY1.out.cell 0 (.int .u64 0) rfl
       have u1:=HY1.out.cell 1 (.int .u64 0) rfl
       have u2:=HY1.out.cell 2 (.int .u64 0) rfl
       have u3:=HY1.out.cell 3 (.int .u64 0) rfl
       have u4:=HY1.out.cell 4 (.int .i64 0) rfl
       go_wp2_with fail
       exact bodyPost_ret (v := .tuple #[aK ⟨b,b,v⟩,.bool true]) (by simp [results,Tryz.results41,go_sem,u0,u1,u2,u3,u4]) rfl (bH (by simp) (eT HB1.out (by omega) _ _ _ _ _))
      ·have HE:=aj (show fu r b v=false from HYx.out)
       rw [HNo.out HE.out,HE.out]
       clear HYes HNo HYx HE
       go_enter Tryz.func41,Tryz.ntmps41
       go_wp2_with fail
       (with_reducible refine Calls.mono (HR.out _) ?_)
       rintro e w1 ⟨rfl,hb⟩
       have HB1:=aj (HB.out.trans (hb.mono HB.out.size))
       have HW1:=aj (HW.out.below hb HW.out.lt)
       have HX1:=aj (HX.out.below hb HX.out.lt)
       have HY1:=aj (HY.out.below hb HY.out.lt)
       clear hb
       have y0:=HW1.out.cell 0 (.int .u64 (r.p.pos:Nat)) rfl
       have y1:=HW1.out.cell 1 (.int .u64 (r.p.id:Nat)) rfl
       have y2:=HW1.out.cell 2 (.int .u64 (r.t.pos:Nat)) rfl
       have y3:=HW1.out.cell 3 (.int .u64 (r.t.id:Nat)) rfl
       have y4:=HW1.out.cell 4 (.int .i64 r.v) rfl
       have z0:=HX1.out.cell 0 (.int .u64 (b.pos:Nat)) rfl
       have z1:=HX1.out.cell 1 (.int .u64 (b.id:Nat)) rfl
       have f0:=fun i=>HW1.out.free i
       have f1:=fun i=>HY1.out.free i
       have u0:=HY1.out.cell 0 (.int .u64 0) rfl
       have u1:=HY1.out.cell 1 (.int .u64 0) rfl
       have u2:=HY1.out.cell 2 (.int .u64 0) rfl
       have u3:=HY1.out.cell 3 (.int .u64 0) rfl
       have u4:=HY1.out.cell 4 (.int .i64 0) rfl
       go_wp2_with fail
       exact bodyPost_ret (v := .tuple #[aK r,.bool false]) (by simp [results,Tryz.results41,go_sem,u0,u1,u2,u3,u4]) rfl (bH (by simp) (eT HB1.out (by omega) _ _ _ _ _))
 ·have HE:=aj (show fu r b v=false by rw [HY0.out];simp)
  rw [HNo.out HE.out,HE.out]
  clear HYes HNo HY0 HE 
  go_enter Tryz.func41,Tryz.ntmps41
  go_wp2_with fail
  (with_reducible refine Calls.mono (HR.out _) ?_)
  rintro e w1 ⟨rfl,hb⟩
  have HB1:=aj (HB.out.trans (hb.mono HB.out.size))
  have HW1:=aj (HW.out.below hb HW.out.lt)
  have HX1:=aj (HX.out.below hb HX.out.lt)
  have HY1:=aj (HY.out.below hb HY.out.lt)
  clear hb
  have y0:=HW1.out.cell 0 (.int .u64 (r.p.pos:Nat)) rfl
  have y1:=HW1.out.cell 1 (.int .u64 (r.p.id:Nat)) rfl
  have y2:=HW1.out.cell 2 (.int .u64 (r.t.pos:Nat)) rfl
  have y3:=HW1.out.cell 3 (.int .u64 (r.t.id:Nat)) rfl
  have y4:=HW1.out.cell 4 (.int .i64 r.v) rfl
  have z0:=HX1.out.cell 0 (.int .u64 (b.pos:Nat)) rfl
  have z1:=HX1.out.cell 1 (.int .u64 (b.id:Nat)) rfl
  have f0:=fun i=>HW1.out.free i
  have f1:=fun i=>HY1.out.free i
  have u0:=HY1.out.cell 0 (.int .u64 0) rfl
  have u1:=HY1.out.cell 1 (.int .u64 0) rfl
  have u2:=HY1.out.cell 2 (.int .u64 0) rfl
  have u3:=HY1.out.cell 3 (.int .u64 0) rfl
  have u4:=HY1.out.cell 4 (.int .i64 0) rfl
  go_wp2_with fail
  exact bodyPost_ret (v := .tuple #[aK r,.bool false]) (by simp [results,Tryz.results41,go_sem,u0,u1,u2,u3,u4]) rfl (bH (by simp) (eT HB1.out (by omega) _ _ _ _ _))
end Re
end Go.Proofs.YtpcmlopbkehffaaGreat
