/-
  What the program's answerRight and listsRight answer.
-/
import Derived.Test.YtpcmlopbkehffaaGreatOGAG
import Derived.Test.YtpcmlopbkehffaaGreatOGBB
import Derived.Test.YtpcmlopbkehffaaGreatOGBD
import Derived.Deep.Slices
import Derived.OpenShut
import Derived.Deep.Matrix
import Derived.WideShapes
set_option linter.unusedSimpArgs false
set_option linter.unusedVariables false
namespace Go.Proofs.YtpcmlopbkehffaaGreat
open Go.RowKit Ru
set_option maxRecDepth 20000 in
set_option maxHeartbeats 4000000 in
theorem aeG (h:iU) (p:av) (s:aT) (w:World) :
  Calls Tryz.prog 93 #[rX h,aM p s] w (iw w (lQ h p)):=by
 have Ha:=aj (wK w h p s)
 have kn:=fun (a b:Nat) (w:World)=>aaY a b w
 have Hk:=aj (show lQ h p=(if h.answer then if p.ok then isB p.sn p.bM==decide (p.v≠0) else isB p.sn p.bM&&decide (p.v=0) else !p.ok && !isB p.sn p.bM) from rfl)
 generalize lQ h p=r at *
 obtain ⟨ht,hb,ha,hv,h5,h6,h7⟩:=h
 obtain ⟨k,tr,bn,bd,sn,sd,v,ok,l1,l2,l3⟩:=p
 simp only at Hk
 have ev:∃ z:Bool,((v:Int) != 0)=z∧decide (v≠0)=z∧decide (v=0) = !z:=by
  by_cases h:v=0
  ·exact ⟨false,by rw [bne_eq_false_iff_eq];exact h,decide_eq_false (by simp [h]),decide_eq_true h⟩
  ·exact ⟨true,by rw [bne_iff_ne];exact h,decide_eq_true h,decide_eq_false h⟩
 obtain ⟨z,e1,e2,e3⟩:=ev
 rw [e2,e3] at Hk
 clear e2 e3
 cases hB:isB sn sd
 all_goals
  rw [hB] at Hk
  cases z
  all_goals
   cases ha
   all_goals
    cases ok
    all_goals
     go_enter Tryz.func93,Tryz.ntmps93
     go_wp2_with fail
     go_ret
     exact aD Hk.out Ha.out
def kK (h:iU) (p:av):Bool :=
 gu h.spans p.spans.length 16&&(jg p.trace p.spans&&(gu h.members p.members.length 16&&(jV p.members&&(gu h.ids p.ids.length 16&&eB p.ids))))
set_option maxRecDepth 20000 in
set_option maxHeartbeats 8000000 in
theorem agX (h:iU) (p:av) (s:aT) (w:World) (hp:bP w p s) (hw:p.Wf) (hm:p.spans.length≤1000000) :
  Calls Tryz.prog 94 #[rX h,aM p s] w (iw w (kK h p)):=by
 have Ha:=aj (wK w h p s)
 have B2:=aj (show Whole (zU w h p s) (w.heap.size+1) 41 (bL p s) from lG _ _ _ _ (by simp))
 have B1:=aj (show Whole (zU w h p s) w.heap.size 164 (yR h) from (aP w _ _).alloc _)
 have Hl1:=aj (fun W=>xM h.spans p.spans.length W)
 have Hl2:=aj (fun W=>xM h.members p.members.length W)
 have Hl3:=aj (fun W=>xM h.ids p.ids.length W)
 have Hs:=aj (fun (W:World) (hb:Below w.heap.size w W)=>alh p.trace s.a1 p.spans.length s.c1 p.spans W (hp.r1.below hb) hw.spans hm)
 have Hm:=aj (fun (W:World) (hb:Below w.heap.size w W)=>ahg s.a2 p.members.length s.c2 p.members W (hp.r2.below hb))
 have Hi:=aj (fun (W:World) (hb:Below w.heap.size w W)=>aki s.a3 p.ids.length s.c3 p.ids W (hp.r3.below hb))
 have q1:=hp.r1.cap
 have q2:=hp.r1.max
 have q3:=hp.r2.cap
 have q4:=hp.r2.max
 have q5:=hp.r3.cap
 have q6:=hp.r3.max
 have Hk:=aj (show kK h p=(gu h.spans p.spans.length 16&&(jg p.trace p.spans&&(gu h.members p.members.length 16&&(jV p.members&&(gu h.ids p.ids.length 16&&eB p.ids))))) from rfl)
 generalize kK h p=r at *
 clear hp hw hm
 obtain ⟨ht,hb,ha,hv,h5,h6,h7⟩:=h
 obtain ⟨k,tr,bn,bd,sn,sd,v,ok,l1,l2,l3⟩:=p
 obtain ⟨a1,c1,a2,c2,a3,c3⟩:=s
 simp only at Hk Hl1 Hl2 Hl3 Hs Hm Hi q1 q2 q3 q4 q5 q6
 generalize gu h5 l1.length 16=b1 at *
 generalize gu h6 l2.length 16=b2 at *
 generalize gu h7 l3.length 16=b3 at *
 generalize jg tr l1=g1 at *
 generalize jV l2=g2 at *
 generalize eB l3=g3 at *
 cases b1
 ·go_enter Tryz.func94,Tryz.ntmps94
  go_wp2_with fail
  refine Calls.mono (Hl1.out _) ?_
  rintro e w1 ⟨rfl,rfl⟩
  go_wp2_with fail
  go_ret
  exact aD Hk.out Ha.out
 cases g1
 ·go_enter Tryz.func94,Tryz.ntmps94
  go_wp2_with fail
  refine Calls.mono (Hl1.out _) ?_
  rintro e w1 ⟨rfl,rfl⟩
  go_wp2_with fail
  refine Calls.mono (Hs.out _ Ha.out) ?_
  rintro e w2 ⟨rfl,hb2⟩
  have Hb2:=aj (Ha.out.trans (hb2.mono Ha.out.size))
  clear hb2
  go_wp2_with fail
  go_ret
  exact aD Hk.out Hb2.out
 all_goals
  go_enter Tryz.func94,Tryz.ntmps94
  go_wp2_with fail
  refine Calls.mono (Hl1.out _) ?_
  rintro e w1 ⟨rfl,rfl⟩
  go_wp2_with fail
  refine Calls.mono (Hs.out _ Ha.out) ?_
  rintro e w2 ⟨rfl,hb2⟩
  have Hb2:=aj (Ha.out.trans (hb2.mono Ha.out.size))
  have W2:=aj (B2.out.below hb2 B2.out.lt)
  have W1:=aj (B1.out.below hb2 B1.out.lt)
  clear hb2
  have y0:=W1.out.cell 5 (.bool h6) rfl
  have y1:=W1.out.cell 6 (.bool h7) rfl
  have y2:=W2.out.cell 9 (.slice a2 l2.length c2) rfl
  have y3:=W2.out.cell 10 (.slice a3 l3.length c3) rfl
  cases b2
  ·go_wp2_with fail
   refine Calls.mono (Hl2.out _) ?_
   rintro e w3 ⟨rfl,rfl⟩
   go_wp2_with fail
   go_ret
   exact aD Hk.out Hb2.out
  ·go_wp2_with fail
   refine Calls.mono (Hl2.out _) ?_
   rintro e w3 ⟨rfl,rfl⟩
   go_wp2_with fail
   refine Calls.mono (Hm.out _ Hb2.out) ?_
   rintro e w4 ⟨rfl,hb4⟩
   have Hb4:=aj (Hb2.out.trans (hb4.mono Hb2.out.size))
   have V2:=aj (W2.out.below hb4 W2.out.lt)
   have V1:=aj (W1.out.below hb4 W1.out.lt)
   clear hb4 y0 y1 y2 y3
   have y1:=V1.out.cell 6 (.bool h7) rfl
   have y3:=V2.out.cell 10 (.slice a3 l3.length c3) rfl
   cases g2
   ·go_wp2_with fail
    go_ret
    exact aD Hk.out Hb4.out
   ·cases b3
    ·go_wp2_with fail
     refine Calls.mono (Hl3.out _) ?_
     rintro e w3 ⟨rfl,rfl⟩
     go_wp2_with fail
     go_ret
     exact aD Hk.out Hb4.out
    ·go_wp2_with fail
     refine Calls.mono (Hl3.out _) ?_
     rintro e w3 ⟨rfl,rfl⟩
     go_wp2_with fail
     refine Calls.mono (Hi.out _ Hb4.out) ?_
     rintro e w5 ⟨rfl,hb5⟩
     have Hb5:=aj (Hb4.out.trans (hb5.mono Hb4.out.size))
     clear hb5
     go_wp2_with fail
     go_ret
     exact aD Hk.out Hb5.out
end Go.Proofs.YtpcmlopbkehffaaGreat
namespace Go.Proofs.YtpcmlopbkehffaaGreat
open Go.RowKit Ru
def l9 (h:iU):Bool := !(h.trace||(h.jP||(h.answer||(h.verdict||(h.spans||(h.members||h.ids))))))
set_option maxRecDepth 100000 in
set_option maxHeartbeats 2000000 in
theorem aiP (a b c d e f g:Bool) (w:World):(Op.equalIn 10000 164 (.agg #[.bool a,.bool b,.bool c,.bool d,.bool e,.bool f,.bool g]) (.agg #[.bool false,.bool false,.bool false,.bool false,.bool false,.bool false,.bool false])).run Tryz.prog w = .ok (l9 ⟨a,b,c,d,e,f,g⟩) w:=by
 rw [run_equalIn_agg w 9999 164 _ _ (by kernel_rfl) (by kernel_rfl)]
 simp [Program.fieldsOf,Tryz.underlying164,Op.eqFields,part,go_sem]
 unfold l9
 cases a <;> cases b <;> cases c <;> cases d <;> cases e <;> cases f <;> cases g <;> simp
theorem aiO (a b c d e f g:Bool) (w:World):(binOp .eql 164 (.agg #[.bool a,.bool b,.bool c,.bool d,.bool e,.bool f,.bool g]) (.agg #[.bool false,.bool false,.bool false,.bool false,.bool false,.bool false,.bool false])).run Tryz.prog w = .ok (.bool (l9 ⟨a,b,c,d,e,f,g⟩)) w:=by
 rw [run_eql_struct,aiP]
 rfl
def dF (p:av):Bool := !l9 (aV p.kind)&&(kM (aV p.kind) p&&(lQ (aV p.kind) p&&kK (aV p.kind) p))
def bY (b:Bool):Int:=if b then 0 else 6
set_option maxRecDepth 20000 in
set_option maxHeartbeats 8000000 in
theorem kS (p:av) (s:aT) (w:World) (hp:bP w p s) (hw:p.Wf) (hm:p.spans.length≤1000000) :
  Calls Tryz.prog 62 #[aM p s] w (gQ w (bY (dF p))):=by
 have Ha:=aj (show Below w.heap.size w (w.alloc (.cells (bL p s) 41)) from (Below.refl _ _).alloc (Nat.le_refl _) _)
 have B0:=aj (aP w 41 (bL p s))
 have kn:=fun (a b c d e f g:Bool) (w:World)=>aiO a b c d e f g w
 have Hpo:=aj (fun W=>aiQ p.kind W)
 have Hn:=aj (fun W=>ahK (aV p.kind) p s W)
 have Han:=aj (fun W=>aeG (aV p.kind) p s W)
 have Hl:=aj (fun (W:World) (hb:Below w.heap.size w W)=>agX (aV p.kind) p s W (hp.below hb) hw hm)
 have Hk:=aj (show dF p=(!l9 (aV p.kind)&&(kM (aV p.kind) p&&(lQ (aV p.kind) p&&kK (aV p.kind) p))) from rfl)
 generalize dF p=r at *
 generalize kM (aV p.kind) p=g1 at *
 generalize lQ (aV p.kind) p=g2 at *
 generalize kK (aV p.kind) p=g3 at *
 clear hp hw hm
 generalize aV p.kind=h at *
 obtain ⟨ht,hb,ha,hv,h5,h6,h7⟩:=h
 obtain ⟨k,tr,bn,bd,sn,sd,v,ok,l1,l2,l3⟩:=p
 obtain ⟨a1,c1,a2,c2,a3,c3⟩:=s
 simp only at Hpo
 unfold vS at Hpo
 generalize hq:l9 ⟨ht,hb,ha,hv,h5,h6,h7⟩=q at *
 go_enter Tryz.func62,Tryz.ntmps62
 go_wp2_with fail
 refine Calls.mono (Hpo.out _) ?_
 rintro e w1 ⟨rfl,hb1⟩
 have B1:=aj (B0.out.below hb1 B0.out.lt)
 have Hb1:=aj (Ha.out.trans (hb1.mono Ha.out.size))
 clear hb1
 cases q
 rotate_left
 ·have Hf:=aj (show r=false from Hk.out)
  go_wp2_with fail
  go_ret
  exact bG (by rw [Hf.out];rfl) (Hb1.out.alloc Hb1.out.size _)
 ·have B2:=aj (B1.out.alloc (.cells #[.bool ht,.bool hb,.bool ha,.bool hv,.bool h5,.bool h6,.bool h7] 164))
  have P2:=aj (aP w1 164 (yR ⟨ht,hb,ha,hv,h5,h6,h7⟩))
  have Hb2:=aj (show Below w.heap.size w (w1.alloc (.cells #[.bool ht,.bool hb,.bool ha,.bool hv,.bool h5,.bool h6,.bool h7] 164)) from Hb1.out.alloc Hb1.out.size _)
  have x0:=B1.out.cell 0 (.int .i64 k) rfl
  have x1:=B1.out.cell 1 (.int .u64 (tr:Nat)) rfl
  have x2:=B1.out.cell 2 (.int .u64 (bn:Nat)) rfl
  have x3:=B1.out.cell 3 (.int .u64 (bd:Nat)) rfl
  have x4:=B1.out.cell 4 (.int .u64 (sn:Nat)) rfl
  have x5:=B1.out.cell 5 (.int .u64 (sd:Nat)) rfl
  have x6:=B1.out.cell 6 (.int .i64 v) rfl
  have x7:=B1.out.cell 7 (.bool ok) rfl
  have x8:=B1.out.cell 8 (.slice a1 l1.length c1) rfl
  have x9:=B1.out.cell 9 (.slice a2 l2.length c2) rfl
  have x10:=B1.out.cell 10 (.slice a3 l3.length c3) rfl
  have hlt:=B1.out.lt
  have hne:w.heap.size≠w1.heap.size:=by omega
  go_wp2_with fail
  refine Calls.mono (Hn.out _) ?_
  rintro e w2 ⟨rfl,hb2⟩
  have Hb3:=aj (Hb2.out.trans (hb2.mono Hb2.out.size))
  have B3:=aj (B2.out.below hb2 B2.out.lt)
  have P3:=aj (P2.out.below hb2 P2.out.lt)
  clear hb2
  clear x0 x1 x2 x3 x4 x5 x6 x7 x8 x9 x10
  cases g1
  ·have Hf:=aj (show r=false from Hk.out)
   go_wp2_with fail
   go_ret
   exact bG (by rw [Hf.out];rfl) Hb3.out
  have x0:=B3.out.cell 0 (.int .i64 k) rfl
  have x1:=B3.out.cell 1 (.int .u64 (tr:Nat)) rfl
  have x2:=B3.out.cell 2 (.int .u64 (bn:Nat)) rfl
  have x3:=B3.out.cell 3 (.int .u64 (bd:Nat)) rfl
  have x4:=B3.out.cell 4 (.int .u64 (sn:Nat)) rfl
  have x5:=B3.out.cell 5 (.int .u64 (sd:Nat)) rfl
  have x6:=B3.out.cell 6 (.int .i64 v) rfl
  have x7:=B3.out.cell 7 (.bool ok) rfl
  have x8:=B3.out.cell 8 (.slice a1 l1.length c1) rfl
  have x9:=B3.out.cell 9 (.slice a2 l2.length c2) rfl
  have x10:=B3.out.cell 10 (.slice a3 l3.length c3) rfl
  have z0:=P3.out.cell 0 (.bool ht) rfl
  have z1:=P3.out.cell 1 (.bool hb) rfl
  have z2:=P3.out.cell 2 (.bool ha) rfl
  have z3:=P3.out.cell 3 (.bool hv) rfl
  have z4:=P3.out.cell 4 (.bool h5) rfl
  have z5:=P3.out.cell 5 (.bool h6) rfl
  have z6:=P3.out.cell 6 (.bool h7) rfl
  go_wp2_with fail
  refine Calls.mono (Han.out _) ?_
  rintro e w3 ⟨rfl,hb3⟩
  have Hb4:=aj (Hb3.out.trans (hb3.mono Hb3.out.size))
  have B4:=aj (B3.out.below hb3 B3.out.lt)
  have P4:=aj (P3.out.below hb3 P3.out.lt)
  clear hb3
  clear x0 x1 x2 x3 x4 x5 x6 x7 x8 x9 x10 z0 z1 z2 z3 z4 z5 z6
  cases g2
  ·have Hf:=aj (show r=false from Hk.out)
   go_wp2_with fail
   go_ret
   exact bG (by rw [Hf.out];rfl) Hb4.out
  have x0:=B4.out.cell 0 (.int .i64 k) rfl
  have x1:=B4.out.cell 1 (.int .u64 (tr:Nat)) rfl
  have x2:=B4.out.cell 2 (.int .u64 (bn:Nat)) rfl
  have x3:=B4.out.cell 3 (.int .u64 (bd:Nat)) rfl
  have x4:=B4.out.cell 4 (.int .u64 (sn:Nat)) rfl
  have x5:=B4.out.cell 5 (.int .u64 (sd:Nat)) rfl
  have x6:=B4.out.cell 6 (.int .i64 v) rfl
  have x7:=B4.out.cell 7 (.bool ok) rfl
  have x8:=B4.out.cell 8 (.slice a1 l1.length c1) rfl
  have x9:=B4.out.cell 9 (.slice a2 l2.length c2) rfl
  have x10:=B4.out.cell 10 (.slice a3 l3.length c3) rfl
  have z0:=P4.out.cell 0 (.bool ht) rfl
  have z1:=P4.out.cell 1 (.bool hb) rfl
  have z2:=P4.out.cell 2 (.bool ha) rfl
  have z3:=P4.out.cell 3 (.bool hv) rfl
  have z4:=P4.out.cell 4 (.bool h5) rfl
  have z5:=P4.out.cell 5 (.bool h6) rfl
  have z6:=P4.out.cell 6 (.bool h7) rfl
  cases g3
  ·have Hf:=aj (show r=false from Hk.out)
   go_wp2_with fail
   refine Calls.mono (Hl.out _ Hb4.out) ?_
   rintro e w4 ⟨rfl,hb4⟩
   have Hb5:=aj (Hb4.out.trans (hb4.mono Hb4.out.size))
   clear hb4
   go_wp2_with fail
   go_ret
   exact bG (by rw [Hf.out];rfl) Hb5.out
  ·have Hf:=aj (show r=true from Hk.out)
   go_wp2_with fail
   refine Calls.mono (Hl.out _ Hb4.out) ?_
   rintro e w4 ⟨rfl,hb4⟩
   have Hb5:=aj (Hb4.out.trans (hb4.mono Hb4.out.size))
   clear hb4
   go_wp2_with fail
   go_ret
   exact bG (by rw [Hf.out];rfl) Hb5.out
end Go.Proofs.YtpcmlopbkehffaaGreat
namespace Go.Proofs.YtpcmlopbkehffaaGreat
open Go.RowKit Ru Go.ChangeShapes Go.WideShapes
theorem qQ:Tryz.prog.cellsOf 33=1:=by kernel_rfl
theorem afa:Tryz.prog.cellsOf 9=1:=by kernel_rfl
theorem aa7:Tryz.prog.cellsOf 4=1:=by kernel_rfl
theorem abd:Tryz.prog.cellsOf 122=8:=by kernel_rfl
theorem lq {n:Int} (h:(Lit.int .u64 n).wf=true):∃ m:Nat,n=(m:Int)∧m<18446744073709551616:=by
 have h1:0≤n∧n≤18446744073709551615:=by simpa [Lit.wf,IntKind.min,IntKind.max,IntKind.bits,IntKind.signed] using h
 exact ⟨n.toNat,by omega,by omega⟩
theorem afL {cs:List Value} (h:cs.length=8):∃ a b c d e f g i,cs=[a,b,c,d,e,f,g,i]:=by
 match cs,h with
 | [a,b,c,d,e,f,g,i],_=>exact ⟨a,b,c,d,e,f,g,i,rfl⟩
section
variable {H:Type} {enc:TypeId×Value→H} {w:World} {base:Nat} {spare:Nat→Bool} {held:Bool} {fuel:Nat}
theorem aip {cs:List Value} {x:DataW H×List MemPlace} (h:DataW.trod enc Tryz.prog w base spare held fuel 122 cs=some x):∃ s:ay,s.Wf∧cs=cellsOf s:=by
 obtain ⟨xs,n,_,_,hlen,hxl,hf⟩:=DataW.trod_struct Tryz.underlying122 h
 rw [abd] at hlen
 obtain ⟨a,b,c,d,e,f,g,i,rfl⟩:=afL hlen
 have hxl':xs.length=8:=hxl
 have h0:DataW.trod enc Tryz.prog w base spare held n 33 (([a,b,c,d,e,f,g,i].drop 0).take (Tryz.prog.cellsOf 33))=xs[0]? := hf 0 _ rfl
 have h1:DataW.trod enc Tryz.prog w base spare held n 33 (([a,b,c,d,e,f,g,i].drop 1).take (Tryz.prog.cellsOf 33))=xs[1]? := hf 1 _ rfl
 have h2:DataW.trod enc Tryz.prog w base spare held n 33 (([a,b,c,d,e,f,g,i].drop 2).take (Tryz.prog.cellsOf 33))=xs[2]? := hf 2 _ rfl
 have h3:DataW.trod enc Tryz.prog w base spare held n 33 (([a,b,c,d,e,f,g,i].drop 3).take (Tryz.prog.cellsOf 33))=xs[3]? := hf 3 _ rfl
 have h4:DataW.trod enc Tryz.prog w base spare held n 33 (([a,b,c,d,e,f,g,i].drop 4).take (Tryz.prog.cellsOf 33))=xs[4]? := hf 4 _ rfl
 have h5:DataW.trod enc Tryz.prog w base spare held n 9 (([a,b,c,d,e,f,g,i].drop 5).take (Tryz.prog.cellsOf 9))=xs[5]? := hf 5 _ rfl
 have h6:DataW.trod enc Tryz.prog w base spare held n 9 (([a,b,c,d,e,f,g,i].drop 6).take (Tryz.prog.cellsOf 9))=xs[6]? := hf 6 _ rfl
 have h7:DataW.trod enc Tryz.prog w base spare held n 4 (([a,b,c,d,e,f,g,i].drop 7).take (Tryz.prog.cellsOf 4))=xs[7]? := hf 7 _ rfl
 rw [qQ] at h0 h1 h2 h3 h4
 rw [afa] at h5 h6
 rw [aa7] at h7
 rw [List.getElem?_eq_getElem (by omega)] at h0 h1 h2 h3 h4 h5 h6 h7
 obtain ⟨n0,e0,_,w0⟩:=DataW.trod_int Tryz.underlying33 h0
 obtain ⟨n1,e1,_,w1⟩:=DataW.trod_int Tryz.underlying33 h1
 obtain ⟨n2,e2,_,w2⟩:=DataW.trod_int Tryz.underlying33 h2
 obtain ⟨n3,e3,_,w3⟩:=DataW.trod_int Tryz.underlying33 h3
 obtain ⟨n4,e4,_,w4⟩:=DataW.trod_int Tryz.underlying33 h4
 obtain ⟨s5,e5,_,w5⟩:=DataW.trod_string Tryz.underlying9 h5
 obtain ⟨s6,e6,_,w6⟩:=DataW.trod_string Tryz.underlying9 h6
 obtain ⟨b7,e7,_⟩:=DataW.trod_bool Tryz.underlying4 h7
 obtain ⟨m0,rfl,g0⟩:=lq w0
 obtain ⟨m1,rfl,g1⟩:=lq w1
 obtain ⟨m2,rfl,g2⟩:=lq w2
 obtain ⟨m3,rfl,g3⟩:=lq w3
 obtain ⟨m4,rfl,g4⟩:=lq w4
 simp at e0 e1 e2 e3 e4 e5 e6 e7
 unfold maxLen at w5 w6
 exact ⟨⟨m0,m1,m2,m3,m4,s5,s6,b7⟩,⟨g0,g1,g2,g3,g4,by omega,by omega⟩,by rw [e0,e1,e2,e3,e4,e5,e6,e7];rfl⟩
def SpanV (_w:World) (v:Value):Prop:=∃ s:ay,s.Wf∧v=jv s
def SpansV (w:World) (v:Value):Prop:=∃ A n c ss,v = .slice A n c∧bW w A n c ss∧∀ s∈ss,s.Wf
end
end Go.Proofs.YtpcmlopbkehffaaGreat
namespace Go.Proofs.YtpcmlopbkehffaaGreat
open Go.RowKit Ru Go.ChangeShapes Go.WideShapes
theorem tY:Tryz.prog.cellsOf 3=1:=by kernel_rfl
theorem afb:Tryz.prog.cellsOf 36=1:=by kernel_rfl
theorem aa6:Tryz.prog.cellsOf 35=2:=by kernel_rfl
theorem aa8:Tryz.prog.cellsOf 108=3:=by kernel_rfl
theorem abb:Tryz.prog.cellsOf 41=11:=by kernel_rfl
theorem ae9:Tryz.prog.cellsOf 37=1:=by kernel_rfl
theorem ae8:Tryz.prog.cellsOf 38=1:=by kernel_rfl
theorem ae6:Tryz.prog.cellsOf 39=1:=by kernel_rfl
theorem alT {cs:List Value} (h:cs.length=2):∃ a b,cs=[a,b]:=by
 match cs,h with
 | [a,b],_=>exact ⟨a,b,rfl⟩
theorem alM {cs:List Value} (h:cs.length=3):∃ a b c,cs=[a,b,c]:=by
 match cs,h with
 | [a,b,c],_=>exact ⟨a,b,c,rfl⟩
theorem afM {cs:List Value} (h:cs.length=11):∃ a b c d e f g i j k l,cs=[a,b,c,d,e,f,g,i,j,k,l]:=by
 match cs,h with
 | [a,b,c,d,e,f,g,i,j,k,l],_=>exact ⟨a,b,c,d,e,f,g,i,j,k,l,rfl⟩
section
variable {H:Type} {enc:TypeId×Value→H} {w:World} {base:Nat} {held:Bool} {fuel:Nat}
theorem aaW {spare:Nat→Bool} {cs:List Value} {x:DataW H×List MemPlace} (h:DataW.trod enc Tryz.prog w base spare held fuel 35 cs=some x) :
  ∃ a b:Nat,a<18446744073709551616∧b<18446744073709551616∧cs=[.int .u64 (a:Nat),.int .u64 (b:Nat)]:=by
 obtain ⟨xs,n,_,_,hlen,hxl,hf⟩:=DataW.trod_struct Tryz.underlying35 h
 rw [aa6] at hlen
 obtain ⟨a,b,rfl⟩:=alT hlen
 have hxl':xs.length=2:=hxl
 have h0:DataW.trod enc Tryz.prog w base spare held n 33 (([a,b].drop 0).take (Tryz.prog.cellsOf 33))=xs[0]? := hf 0 _ rfl
 have h1:DataW.trod enc Tryz.prog w base spare held n 33 (([a,b].drop 1).take (Tryz.prog.cellsOf 33))=xs[1]? := hf 1 _ rfl
 rw [qQ] at h0 h1
 rw [List.getElem?_eq_getElem (by omega)] at h0 h1
 obtain ⟨n0,e0,_,w0⟩:=DataW.trod_int Tryz.underlying33 h0
 obtain ⟨n1,e1,_,w1⟩:=DataW.trod_int Tryz.underlying33 h1
 obtain ⟨m0,rfl,g0⟩:=lq w0
 obtain ⟨m1,rfl,g1⟩:=lq w1
 simp at e0 e1
 exact ⟨m0,m1,g0,g1,by rw [e0,e1]⟩
theorem ahe {spare:Nat→Bool} {cs:List Value} {x:DataW H×List MemPlace} (h:DataW.trod enc Tryz.prog w base spare held fuel 108 cs=some x) :
  ∃ m:aJ,m.Wf∧cs=l8 m:=by
 obtain ⟨xs,n,_,_,hlen,hxl,hf⟩:=DataW.trod_struct Tryz.underlying108 h
 rw [aa8] at hlen
 obtain ⟨a,b,c,rfl⟩:=alM hlen
 have hxl':xs.length=3:=hxl
 have h0:DataW.trod enc Tryz.prog w base spare held n 33 (([a,b,c].drop 0).take (Tryz.prog.cellsOf 33))=xs[0]? := hf 0 _ rfl
 have h1:DataW.trod enc Tryz.prog w base spare held n 33 (([a,b,c].drop 1).take (Tryz.prog.cellsOf 33))=xs[1]? := hf 1 _ rfl
 have h2:DataW.trod enc Tryz.prog w base spare held n 3 (([a,b,c].drop 2).take (Tryz.prog.cellsOf 3))=xs[2]? := hf 2 _ rfl
 rw [qQ] at h0 h1
 rw [tY] at h2
 rw [List.getElem?_eq_getElem (by omega)] at h0 h1 h2
 obtain ⟨n0,e0,_,w0⟩:=DataW.trod_int Tryz.underlying33 h0
 obtain ⟨n1,e1,_,w1⟩:=DataW.trod_int Tryz.underlying33 h1
 obtain ⟨n2,e2,_,w2⟩:=DataW.trod_int Tryz.underlying3 h2
 obtain ⟨m0,rfl,g0⟩:=lq w0
 obtain ⟨m1,rfl,g1⟩:=lq w1
 have h3 : -9223372036854775808≤n2∧n2≤9223372036854775807:=by simpa [Lit.wf,IntKind.min,IntKind.max,IntKind.bits,IntKind.signed] using w2
 simp at e0 e1 e2
 exact ⟨⟨m0,m1,n2⟩,⟨g0,g1,h3.1,h3.2⟩,by rw [e0,e1,e2];rfl⟩
theorem alf {cs:List Value} {x:DataW H×List MemPlace} (h:DataW.trod enc Tryz.prog w base (fun _=>true) held fuel 37 cs=some x) :
  ∃ A n c ss,cs=[.slice A n c]∧bW w A n c ss∧∀ s∈ss,s.Wf:=by
 rcases Go.Deep.open_slice Tryz.underlying37 h with ⟨hcs,_⟩ | ⟨a,len,cap,m,n,D,Pl,hcs,_,h1,h2,hm,_,h3⟩
 ·exact ⟨_,_,_,[],hcs,⟨fun h=>absurd rfl h,rfl,Nat.le_refl _,by omega,fun _=>rfl⟩,by simp⟩
 ·simp only [if_true] at hm
  subst hm
  have hone:∀ k,k<m→∃ s:ay,s.Wf∧∀ j u,(cellsOf s)[j]? = some u→w.cell? ((a.add (k*8)).add j)=some u:=fun k hk=>by
   obtain ⟨cs',g1,g2⟩:=h3 k hk
   rw [abd] at g1
   obtain ⟨s,hs,rfl⟩:=aip g2
   obtain ⟨_,_,hat⟩:=World.cells?_some g1
   refine ⟨s,hs,fun j u hu=>?_⟩
   have hj:j<8:=(List.getElem?_eq_some_iff.1 hu).1
   rw [hat j hj]
   exact hu
  haveI:Inhabited ay:=⟨ay.zero⟩
  obtain ⟨f,hf'⟩:=Go.Deep.choose_lt hone
  refine ⟨_,_,_,(List.range len).map f,hcs,⟨fun hne=>?_,by simp,h1,by unfold maxLen at h2;omega,fun e=>by cases e⟩,?_⟩
  ·have hpos:0<len:=by
    rcases Nat.eq_zero_or_pos len with e | e
    ·subst e;exact absurd rfl hne
    ·exact e
   obtain ⟨b,off,spot⟩:=a
   have h0:=(hf' 0 (by omega)).2 0 _ rfl
   have hs:spot=none:=by simpa [Addr.add] using World.cell?_spot h0
   subst hs
   refine ⟨b,off,rfl,fun k hk=>zI fun j u hu=>?_⟩
   have hk':k<len:=by simpa using hk
   rw [List.getElem_map,List.getElem_range] at hu
   have h4:=(hf' k (by omega)).2 j u hu
   rwa [add_plain,add_plain] at h4
  ·intro s hs
   obtain ⟨k,hk,rfl⟩:=List.mem_map.1 hs
   exact (hf' k (by have:=List.mem_range.1 hk;omega)).1
theorem ahf {cs:List Value} {x:DataW H×List MemPlace} (h:DataW.trod enc Tryz.prog w base (fun _=>true) held fuel 38 cs=some x) :
  ∃ A n c ss,cs=[.slice A n c]∧eO w A n c ss∧∀ s∈ss,s.Wf:=by
 rcases Go.Deep.open_slice Tryz.underlying38 h with ⟨hcs,_⟩ | ⟨a,len,cap,m,n,D,Pl,hcs,_,h1,h2,hm,_,h3⟩
 ·exact ⟨_,_,_,[],hcs,eO.none w,by simp⟩
 ·simp only [if_true] at hm
  subst hm
  have hone:∀ k,k<m→∃ s:aJ,s.Wf∧∀ j u,(l8 s)[j]? = some u→w.cell? ((a.add (k*3)).add j)=some u:=fun k hk=>by
   obtain ⟨cs',g1,g2⟩:=h3 k hk
   rw [aa8] at g1
   obtain ⟨s,hs,rfl⟩:=ahe g2
   obtain ⟨_,_,hat⟩:=World.cells?_some g1
   refine ⟨s,hs,fun j u hu=>?_⟩
   have hj:j<3:=(List.getElem?_eq_some_iff.1 hu).1
   rw [hat j hj]
   exact hu
  haveI:Inhabited aJ:=⟨⟨0,0,0⟩⟩
  obtain ⟨f,hf'⟩:=Go.Deep.choose_lt hone
  refine ⟨_,_,_,(List.range len).map f,hcs,⟨fun hne=>?_,by simp,h1,by unfold maxLen at h2;omega,fun e=>by cases e⟩,?_⟩
  ·have hpos:0<len:=by
    rcases Nat.eq_zero_or_pos len with e | e
    ·subst e;exact absurd rfl hne
    ·exact e
   obtain ⟨b,off,spot⟩:=a
   have h0:=(hf' 0 (by omega)).2 0 _ rfl
   have hs:spot=none:=by simpa [Addr.add] using World.cell?_spot h0
   subst hs
   refine ⟨b,off,rfl,fun k hk=>acr fun j u hu=>?_⟩
   have hk':k<len:=by simpa using hk
   rw [List.getElem_map,List.getElem_range] at hu
   have h4:=(hf' k (by omega)).2 j u hu
   rwa [add_plain,add_plain] at h4
  ·intro s hs
   obtain ⟨k,hk,rfl⟩:=List.mem_map.1 hs
   exact (hf' k (by have:=List.mem_range.1 hk;omega)).1
theorem agj {cs:List Value} {x:DataW H×List MemPlace} (h:DataW.trod enc Tryz.prog w base (fun _=>true) held fuel 39 cs=some x) :
  ∃ A n c l,cs=[.slice A n c]∧Row w A n c (eG l)∧l.length=n∧∀ s∈l,s<18446744073709551616:=by
 rcases Go.Deep.open_slice1 Tryz.underlying39 qQ h with ⟨hcs,_⟩ | ⟨a,len,cap,m,n,V,D,Pl,hcs,_,h1,h2,hm,_,h3⟩
 ·exact ⟨_,_,_,[],hcs,Row.none w,rfl,by simp⟩
 ·simp only [if_true] at hm
  subst hm
  have hone:∀ k,k<m→∃ s:Nat,s<18446744073709551616∧w.cell? (a.add k)=some (.int .u64 (s:Nat)):=fun k hk=>by
   obtain ⟨g1,g2⟩:=h3 k hk
   obtain ⟨n0,e0,_,w0⟩:=DataW.trod_int Tryz.underlying33 g2
   obtain ⟨m0,rfl,g0⟩:=lq w0
   injection e0 with e0
   exact ⟨m0,g0,by rw [g1,e0]⟩
  obtain ⟨f,hf'⟩:=Go.Deep.choose_lt hone
  refine ⟨_,_,_,(List.range len).map f,hcs,⟨fun hne=>?_,by simp [eG],h1,by unfold maxLen at h2;omega,fun e=>by cases e⟩,by simp,?_⟩
  ·have hpos:0<len:=by
    rcases Nat.eq_zero_or_pos len with e | e
    ·subst e;exact absurd rfl hne
    ·exact e
   obtain ⟨b,off,spot⟩:=a
   have h0:=(hf' 0 (by omega)).2
   have hs:spot=none:=by simpa [Addr.add] using World.cell?_spot h0
   subst hs
   refine ⟨b,off,rfl,fun k u hu=>?_⟩
   have hk:k<len:=by
    have:=(List.getElem?_eq_some_iff.1 hu).1
    simpa [eG] using this
   have h4:=(hf' k (by omega)).2
   rw [add_plain] at h4
   rw [h4]
   simp [eG,hk] at hu
   rw [← hu]
  ·intro s hs
   obtain ⟨k,hk,rfl⟩:=List.mem_map.1 hs
   exact (hf' k (by have:=List.mem_range.1 hk;omega)).1
def amo (w:World) (v:Value):Prop:=∃ p s,v=aM p s∧bP w p s∧p.Wf ∧ -9223372036854775808≤p.kind∧p.kind≤9223372036854775807 ∧ -9223372036854775808≤p.v∧p.v≤9223372036854775807
end
end Go.Proofs.YtpcmlopbkehffaaGreat
namespace Go.Proofs.YtpcmlopbkehffaaGreat
open Go.RowKit Ru Go.ChangeShapes Go.WideShapes
structure o9 {α:Type} (K:Nat) (P:World→α→List Value→Prop) (w:World) (A:Option Addr) (n c:Nat) (l:List α):Prop where
 holds:l≠[]→∃ g off,A=some ⟨g,off,none⟩∧∀ k (hk:k<l.length),∃ cs,P w l[k] cs∧∀ j u,cs[j]? = some u→w.cell? ⟨g,off+k*K+j,none⟩=some u
 len:l.length=n
 cap:n≤c
 max:c≤9223372036854775807
 nil:A=none→c=0
theorem o9.at_ {α:Type} {K:Nat} {P:World→α→List Value→Prop} {w:World} {A:Option Addr} {n c:Nat} {l:List α} (h:o9 K P w A n c l) {k:Nat} (hk:k<l.length) :
  ∃ g off cs,A=some ⟨g,off,none⟩∧P w l[k] cs∧∀ j u,cs[j]? = some u→w.cell? ⟨g,off+k*K+j,none⟩=some u:=by
 obtain ⟨g,off,e,h1⟩:=h.holds (by rintro rfl;simp at hk)
 obtain ⟨cs,h2,h3⟩:=h1 k hk
 exact ⟨g,off,cs,e,h2,h3⟩
section
variable {H:Type} {enc:TypeId×Value→H} {w:World} {base:Nat} {held:Bool} {fuel:Nat}
set_option maxRecDepth 100000 in
theorem aiq {α:Type} [Inhabited α] {T TS:TypeId} {K:Nat} {P:World→α→List Value→Prop} {Wf:α→Prop} (hT:Tryz.prog.underlying TS=some (.slice T)) (hK:Tryz.prog.cellsOf T=K) (hP:∀ w x cs,P w x cs→cs.length=K) (h0:0<K)
  (hc:∀ {fuel:Nat} {cs:List Value} {x:DataW H×List MemPlace},DataW.trod enc Tryz.prog w base (fun _=>true) held fuel T cs=some x→∃ a:α,Wf a∧P w a cs)
  {v:Value} {d:DataW H} {p:List MemPlace} {x:Reach} {r:Nat}
  (hv:Value.okWide Tryz.prog w x r TS v) (h:DataW.Trod enc Tryz.prog w base (fun _=>true) held TS v d p):∃ A n c l,v = .slice A n c∧o9 K P w A n c l∧∀ o∈l,Wf o:=by
 obtain ⟨a0,len0,cap0,rfl⟩:=okWide_slice hT hv
 obtain ⟨fuel,hf⟩:=h
 rcases Go.Deep.open_slice hT hf with ⟨hcs,_⟩ | ⟨a,len,cap,m,n,D,Pl,hcs,_,h1,h2,hm,_,h3⟩
 ·simp [Value.cells] at hcs
  obtain ⟨rfl,rfl,rfl⟩:=hcs
  exact ⟨_,_,_,[],rfl,⟨fun h=>absurd rfl h,rfl,Nat.le_refl _,by omega,fun _=>rfl⟩,by simp⟩
 ·simp [Value.cells] at hcs
  obtain ⟨rfl,rfl,rfl⟩:=hcs
  simp only [if_true] at hm
  subst hm
  have hone:∀ k,k<m→∃ o:α,Wf o∧∃ cs,P w o cs∧∀ j u,cs[j]? = some u→w.cell? ((a.add (k*K)).add j)=some u:=fun k hk=>by
   obtain ⟨cs',g1,g2⟩:=h3 k hk
   rw [hK] at g1
   obtain ⟨o,hw,hp⟩:=hc g2
   obtain ⟨_,_,hat⟩:=World.cells?_some g1
   refine ⟨o,hw,cs',hp,fun j u hu=>?_⟩
   have hj:j<K:=by
    have:=(List.getElem?_eq_some_iff.1 hu).1
    rwa [hP _ _ _ hp] at this
   rw [hat j hj]
   exact hu
  obtain ⟨f,hf'⟩:=Go.Deep.choose_lt hone
  refine ⟨_,_,_,(List.range len0).map f,rfl,⟨fun hne=>?_,by simp,h1,by unfold maxLen at h2;omega,fun e=>by cases e⟩,?_⟩
  ·have hpos:0<len0:=by
    rcases Nat.eq_zero_or_pos len0 with e | e
    ·subst e;exact absurd rfl hne
    ·exact e
   obtain ⟨b,off,spot⟩:=a
   obtain ⟨_,cs,hp,h4⟩:=hf' 0 (by omega)
   have hl:=hP _ _ _ hp
   have h4:=h4 0 (cs[0]'(by omega)) (List.getElem?_eq_getElem (by omega))
   have hs:spot=none:=by simpa [Addr.add] using World.cell?_spot h4
   subst hs
   refine ⟨b,off,rfl,fun k hk=>?_⟩
   have hk':k<len0:=by simpa using hk
   rw [List.getElem_map,List.getElem_range]
   obtain ⟨_,cs,hp,hcell⟩:=hf' k (by omega)
   refine ⟨cs,hp,fun j u hu=>?_⟩
   have:=hcell j u hu
   rwa [add_plain,add_plain] at this
  ·intro s hs
   obtain ⟨k,hk,rfl⟩:=List.mem_map.1 hs
   exact (hf' k (by have:=List.mem_range.1 hk;omega)).1
def vT (p:av):Prop:=p.Wf ∧ -9223372036854775808≤p.kind∧p.kind≤9223372036854775807 ∧ -9223372036854775808≤p.v∧p.v≤9223372036854775807
set_option maxRecDepth 100000 in
set_option maxHeartbeats 1000000 in
theorem aiD {cs:List Value} {x:DataW H×List MemPlace} (h:DataW.trod enc Tryz.prog w base (fun _=>true) held fuel 41 cs=some x) :
  ∃ (p:av) (s:aT),cs=(bL p s).toList∧bP w p s∧vT p:=by
 obtain ⟨xs,n,_,_,hlen,hxl,hf⟩:=DataW.trod_struct Tryz.underlying41 h
 rw [abb] at hlen
 obtain ⟨q0,q1,q2,q3,q4,q5,q6,q7,q8,q9,q10,rfl⟩:=afM hlen
 have hxl':xs.length=9:=hxl
 have h0:DataW.trod enc Tryz.prog w base (fun _=>true) held n 3 (([q0,q1,q2,q3,q4,q5,q6,q7,q8,q9,q10].drop 0).take (Tryz.prog.cellsOf 3))=xs[0]? := hf 0 _ rfl
 have h1:DataW.trod enc Tryz.prog w base (fun _=>true) held n 33 (([q0,q1,q2,q3,q4,q5,q6,q7,q8,q9,q10].drop 1).take (Tryz.prog.cellsOf 33))=xs[1]? := hf 1 _ rfl
 have h2:DataW.trod enc Tryz.prog w base (fun _=>true) held n 35 (([q0,q1,q2,q3,q4,q5,q6,q7,q8,q9,q10].drop 2).take (Tryz.prog.cellsOf 35))=xs[2]? := hf 2 _ rfl
 have h3:DataW.trod enc Tryz.prog w base (fun _=>true) held n 35 (([q0,q1,q2,q3,q4,q5,q6,q7,q8,q9,q10].drop 4).take (Tryz.prog.cellsOf 35))=xs[3]? := hf 3 _ rfl
 have h4:DataW.trod enc Tryz.prog w base (fun _=>true) held n 36 (([q0,q1,q2,q3,q4,q5,q6,q7,q8,q9,q10].drop 6).take (Tryz.prog.cellsOf 36))=xs[4]? := hf 4 _ rfl
 have h5:DataW.trod enc Tryz.prog w base (fun _=>true) held n 4 (([q0,q1,q2,q3,q4,q5,q6,q7,q8,q9,q10].drop 7).take (Tryz.prog.cellsOf 4))=xs[5]? := hf 5 _ rfl
 have h6:DataW.trod enc Tryz.prog w base (fun _=>true) held n 37 (([q0,q1,q2,q3,q4,q5,q6,q7,q8,q9,q10].drop 8).take (Tryz.prog.cellsOf 37))=xs[6]? := hf 6 _ rfl
 have h7:DataW.trod enc Tryz.prog w base (fun _=>true) held n 38 (([q0,q1,q2,q3,q4,q5,q6,q7,q8,q9,q10].drop 9).take (Tryz.prog.cellsOf 38))=xs[7]? := hf 7 _ rfl
 have h8:DataW.trod enc Tryz.prog w base (fun _=>true) held n 39 (([q0,q1,q2,q3,q4,q5,q6,q7,q8,q9,q10].drop 10).take (Tryz.prog.cellsOf 39))=xs[8]? := hf 8 _ rfl
 clear hf
 rw [tY] at h0
 rw [qQ] at h1
 rw [aa6] at h2 h3
 rw [afb] at h4
 rw [aa7] at h5
 rw [ae9] at h6
 rw [ae8] at h7
 rw [ae6] at h8
 rw [List.getElem?_eq_getElem (by omega)] at h0 h1 h2 h3 h4 h5 h6 h7 h8
 obtain ⟨n0,e0,_,w0⟩:=DataW.trod_int Tryz.underlying3 h0
 obtain ⟨n1,e1,_,w1⟩:=DataW.trod_int Tryz.underlying33 h1
 obtain ⟨b1,b2,g1,g2,e2⟩:=aaW h2
 obtain ⟨b3,b4,g3,g4,e3⟩:=aaW h3
 obtain ⟨n4,e4,_,w4⟩:=DataW.trod_int Tryz.underlying36 h4
 obtain ⟨b5,e5,_⟩:=DataW.trod_bool Tryz.underlying4 h5
 obtain ⟨A1,m1,c1,l1,e6,r1,f1⟩:=alf h6
 obtain ⟨A2,m2,c2,l2,e7,r2,f2⟩:=ahf h7
 obtain ⟨A3,m3,c3,l3,e8,r3,r4,f3⟩:=agj h8
 obtain ⟨n1',rfl,g0⟩:=lq w1
 have i0 : -9223372036854775808≤n0∧n0≤9223372036854775807:=by simpa [Lit.wf,IntKind.min,IntKind.max,IntKind.bits,IntKind.signed] using w0
 have i4 : -9223372036854775808≤n4∧n4≤9223372036854775807:=by simpa [Lit.wf,IntKind.min,IntKind.max,IntKind.bits,IntKind.signed] using w4
 simp at e0 e1 e2 e3 e4 e5 e6 e7 e8
 obtain rfl:=r1.len
 obtain rfl:=r2.len
 obtain rfl:=r4
 exact ⟨⟨n0,n1',b1,b2,b3,b4,n4,b5,l1,l2,l3⟩,⟨A1,c1,A2,c2,A3,c3⟩,by rw [e0,e1,e2.1,e2.2,e3.1,e3.2,e4,e5,e6,e7,e8];rfl,⟨r1,r2,r3⟩,⟨⟨g0,g1,g2,g3,g4,f1,f2,f3⟩,i0.1,i0.2,i4.1,i4.2⟩⟩
def PkP (w:World) (p:av) (cs:List Value):Prop:=∃ s,cs=(bL p s).toList∧bP w p s
def PksV (w:World) (v:Value):Prop:=∃ A n c l,v = .slice A n c∧o9 11 PkP w A n c l∧∀ o∈l,vT o
end
end Go.Proofs.YtpcmlopbkehffaaGreat
namespace Go.Proofs.YtpcmlopbkehffaaGreat
open Go.RowKit Ru Go.ChangeShapes Go.WideShapes Dsk
namespace Rp
section
variable {H:Type} {enc:TypeId×Value→H} {w:World} {base:Nat} {held:Bool} {fuel:Nat}
structure OpD where
 kind:Int
 n : Int
 p : av
 keep:List Int
structure OpD.Wf (o:OpD):Prop where
 n1 : -9223372036854775808≤o.n
 n2:o.n≤9223372036854775807
 p : vT o.p
def OpP (w:World) (o:OpD) (cs:List Value):Prop:=∃ s Ak ck,cs=[.int .i64 o.kind,.int .i64 o.n]++(bL o.p s).toList++[.slice Ak o.keep.length ck]∧bP w o.p s∧Row w Ak o.keep.length ck (jT o.keep)
def vR (w:World) (v:Value):Prop:=∃ A n c l,v = .slice A n c∧o9 14 OpP w A n c l∧∀ o∈l,o.Wf
theorem aa9:Tryz.prog.cellsOf 44=14:=by kernel_rfl
theorem ae7:Tryz.prog.cellsOf 42=1:=by kernel_rfl
theorem af2 {cs:List Value} (h:cs.length=14):∃ q0 q1 q2 q3 q4 q5 q6 q7 q8 q9 q10 q11 q12 q13,cs=[q0,q1,q2,q3,q4,q5,q6,q7,q8,q9,q10,q11,q12,q13]:=by
 match cs,h with
 | [a,b,c,d,e,f,g,i,j,k,l,m,n,o],_=>exact ⟨a,b,c,d,e,f,g,i,j,k,l,m,n,o,rfl⟩
theorem ags {cs:List Value} {x:DataW H×List MemPlace} (h:DataW.trod enc Tryz.prog w base (fun _=>true) held fuel 42 cs=some x) :
  ∃ A n c l,cs=[.slice A n c]∧Row w A n c (jT l):=by
 rcases Go.Deep.open_slice1 Tryz.underlying42 tY h with ⟨hcs,_⟩ | ⟨a,len,cap,m,n,V,D,Pl,hcs,_,h1,h2,hm,_,h3⟩
 ·exact ⟨_,_,_,[],hcs,Row.none w⟩
 ·simp only [if_true] at hm
  subst hm
  have hone:∀ k,k<m→∃ s:Int,w.cell? (a.add k)=some (.int .i64 s):=fun k hk=>by
   obtain ⟨g1,g2⟩:=h3 k hk
   obtain ⟨n0,e0,_,w0⟩:=DataW.trod_int Tryz.underlying3 g2
   injection e0 with e0
   exact ⟨n0,by rw [g1,e0]⟩
  obtain ⟨f,hf'⟩:=Go.Deep.choose_lt hone
  refine ⟨_,_,_,(List.range len).map f,hcs,⟨fun hne=>?_,by simp [jT],h1,by unfold maxLen at h2;omega,fun e=>by cases e⟩⟩
  have hpos:0<len:=by
   rcases Nat.eq_zero_or_pos len with e | e
   ·subst e;exact absurd rfl hne
   ·exact e
  obtain ⟨b,off,spot⟩:=a
  have h0:=hf' 0 (by omega)
  have hs:spot=none:=by simpa [Addr.add] using World.cell?_spot h0
  subst hs
  refine ⟨b,off,rfl,fun k u hu=>?_⟩
  have hk:k<len:=by
   have:=(List.getElem?_eq_some_iff.1 hu).1
   simpa [jT] using this
  have h4:=hf' k (by omega)
  rw [add_plain] at h4
  rw [h4]
  simp [jT,hk] at hu
  rw [← hu]
set_option maxRecDepth 100000 in
theorem ail {cs:List Value} {x:DataW H×List MemPlace} (h:DataW.trod enc Tryz.prog w base (fun _=>true) held fuel 44 cs=some x):∃ o:OpD,o.Wf∧OpP w o cs:=by
 obtain ⟨xs,n,_,_,hlen,hxl,hf⟩:=DataW.trod_struct Tryz.underlying44 h
 rw [aa9] at hlen
 obtain ⟨q0,q1,q2,q3,q4,q5,q6,q7,q8,q9,q10,q11,q12,q13,rfl⟩:=af2 hlen
 have hxl':xs.length=4:=hxl
 have h0:DataW.trod enc Tryz.prog w base (fun _=>true) held n 3 (([q0,q1,q2,q3,q4,q5,q6,q7,q8,q9,q10,q11,q12,q13].drop 0).take (Tryz.prog.cellsOf 3))=xs[0]? := hf 0 _ rfl
 have h1:DataW.trod enc Tryz.prog w base (fun _=>true) held n 3 (([q0,q1,q2,q3,q4,q5,q6,q7,q8,q9,q10,q11,q12,q13].drop 1).take (Tryz.prog.cellsOf 3))=xs[1]? := hf 1 _ rfl
 have h2:DataW.trod enc Tryz.prog w base (fun _=>true) held n 41 (([q0,q1,q2,q3,q4,q5,q6,q7,q8,q9,q10,q11,q12,q13].drop 2).take (Tryz.prog.cellsOf 41))=xs[2]? := hf 2 _ rfl
 have h3:DataW.trod enc Tryz.prog w base (fun _=>true) held n 42 (([q0,q1,q2,q3,q4,q5,q6,q7,q8,q9,q10,q11,q12,q13].drop 13).take (Tryz.prog.cellsOf 42))=xs[3]? := hf 3 _ rfl
 clear hf
 rw [tY] at h0 h1
 rw [abb] at h2
 rw [ae7] at h3
 rw [List.getElem?_eq_getElem (by omega)] at h0 h1 h2 h3
 obtain ⟨n0,e0,_,w0⟩:=DataW.trod_int Tryz.underlying3 h0
 obtain ⟨n1,e1,_,w1⟩:=DataW.trod_int Tryz.underlying3 h1
 obtain ⟨p,s,e2,s2,f2⟩:=aiD h2
 obtain ⟨A4,m4,c4,l4,e4,s4⟩:=ags h3
 have i1 : -9223372036854775808≤n1∧n1≤9223372036854775807:=by simpa [Lit.wf,IntKind.min,IntKind.max,IntKind.bits,IntKind.signed] using w1
 have hl4:=s4.len
 rw [xE] at hl4
 subst hl4
 simp at e0 e1 e4
 refine ⟨⟨n0,n1,p,l4⟩,⟨i1.1,i1.2,f2⟩,s,A4,c4,?_,s2,s4⟩
 have e3:[q0,q1,q2,q3,q4,q5,q6,q7,q8,q9,q10,q11,q12,q13]=[q0,q1]++[q2,q3,q4,q5,q6,q7,q8,q9,q10,q11,q12]++[q13]:=rfl
 have e5:[q2,q3,q4,q5,q6,q7,q8,q9,q10,q11,q12]=(bL p s).toList:=e2
 rw [e3,e5,e0,e1,e4]
set_option maxRecDepth 100000 in
theorem aio {v:Value} {d:DataW H} {p:List MemPlace} {x:Reach} {r:Nat}
  (hv:Value.okWide Tryz.prog w x r 22 v) (h:DataW.Trod enc Tryz.prog w base (fun _=>true) held 22 v d p):vR w v:=by
 haveI:Inhabited OpD:=⟨⟨0,0,⟨0,0,0,0,0,0,0,false,[],[],[]⟩,[]⟩⟩
 exact aiq (K:=14) (P:=OpP) (Wf:=OpD.Wf) Tryz.underlying22 aa9 (fun w x cs ⟨s,Ak,ck,e,_⟩=>by rw [e];rfl) (by decide) (fun h=>ail h) hv h
end
end Rp
end Go.Proofs.YtpcmlopbkehffaaGreat
