/-
  What the reference's only answers: a packet that has nothing but what its kind has use for.
-/
import Derived.Test.YtpcmlopbkehffaaGreatOGBF
import Derived.Deep.RegionHeld3
import Derived.BigQuiet
set_option linter.unusedSimpArgs false
set_option linter.unusedVariables false
namespace Go.Proofs.YtpcmlopbkehffaaGreat
open Go.RowKit Ru
def aX (p:av):av :=
 if p.kind=1 then ⟨p.kind,p.trace,0,0,0,0,0,false,p.spans,[],[]⟩ else
 if p.kind=2 then ⟨p.kind,p.trace,0,0,0,0,0,false,p.spans,[],[]⟩ else
 if p.kind=3 then ⟨p.kind,0,0,0,0,0,0,false,[],p.members,[]⟩ else
 if p.kind=4 then ⟨p.kind,p.trace,p.bn,p.aZ,0,0,0,false,[],[],[]⟩ else
 if p.kind=5 then ⟨p.kind,p.trace,p.bn,p.aZ,p.sn,p.bM,p.v,p.ok,[],[],[]⟩ else
 if p.kind=6 then ⟨p.kind,p.trace,p.bn,p.aZ,0,0,p.v,false,[],[],[]⟩ else
 if p.kind=7 then ⟨p.kind,p.trace,p.bn,p.aZ,p.sn,p.bM,0,p.ok,[],[],[]⟩ else
 if p.kind=8 then ⟨p.kind,p.trace,0,0,0,0,p.v,false,[],[],[]⟩ else
 if p.kind=9 then ⟨p.kind,p.trace,p.bn,p.aZ,0,0,0,false,p.spans,[],[]⟩ else
 if p.kind=10 then ⟨p.kind,p.trace,0,0,0,0,0,false,[],[],p.ids⟩ else
 ⟨p.kind,p.trace,0,0,0,0,0,false,[],[],[]⟩
def bQ (k:Int) (s:aT):aT :=
 if k=1 then ⟨s.a1,s.c1,none,0,none,0⟩ else
 if k=2 then ⟨s.a1,s.c1,none,0,none,0⟩ else
 if k=3 then ⟨none,0,s.a2,s.c2,none,0⟩ else
 if k=4 then ⟨none,0,none,0,none,0⟩ else
 if k=5 then ⟨none,0,none,0,none,0⟩ else
 if k=6 then ⟨none,0,none,0,none,0⟩ else
 if k=7 then ⟨none,0,none,0,none,0⟩ else
 if k=8 then ⟨none,0,none,0,none,0⟩ else
 if k=9 then ⟨s.a1,s.c1,none,0,none,0⟩ else
 if k=10 then ⟨none,0,none,0,s.a3,s.c3⟩ else
 ⟨none,0,none,0,none,0⟩
theorem yE {p:av} (s:aT) (h:p.kind=1):aX p=⟨1,p.trace,0,0,0,0,0,false,p.spans,[],[]⟩∧bQ p.kind s=⟨s.a1,s.c1,none,0,none,0⟩:=by
 unfold aX bQ
 rw [h]
 simp
theorem yG {p:av} (s:aT) (h:p.kind=2):aX p=⟨2,p.trace,0,0,0,0,0,false,p.spans,[],[]⟩∧bQ p.kind s=⟨s.a1,s.c1,none,0,none,0⟩:=by
 unfold aX bQ
 rw [h]
 simp
theorem yH {p:av} (s:aT) (h:p.kind=3):aX p=⟨3,0,0,0,0,0,0,false,[],p.members,[]⟩∧bQ p.kind s=⟨none,0,s.a2,s.c2,none,0⟩:=by
 unfold aX bQ
 rw [h]
 simp
theorem yI {p:av} (s:aT) (h:p.kind=4):aX p=⟨4,p.trace,p.bn,p.aZ,0,0,0,false,[],[],[]⟩∧bQ p.kind s=⟨none,0,none,0,none,0⟩:=by
 unfold aX bQ
 rw [h]
 simp
theorem yJ {p:av} (s:aT) (h:p.kind=5):aX p=⟨5,p.trace,p.bn,p.aZ,p.sn,p.bM,p.v,p.ok,[],[],[]⟩∧bQ p.kind s=⟨none,0,none,0,none,0⟩:=by
 unfold aX bQ
 rw [h]
 simp
theorem yK {p:av} (s:aT) (h:p.kind=6):aX p=⟨6,p.trace,p.bn,p.aZ,0,0,p.v,false,[],[],[]⟩∧bQ p.kind s=⟨none,0,none,0,none,0⟩:=by
 unfold aX bQ
 rw [h]
 simp
theorem yL {p:av} (s:aT) (h:p.kind=7):aX p=⟨7,p.trace,p.bn,p.aZ,p.sn,p.bM,0,p.ok,[],[],[]⟩∧bQ p.kind s=⟨none,0,none,0,none,0⟩:=by
 unfold aX bQ
 rw [h]
 simp
theorem yM {p:av} (s:aT) (h:p.kind=8):aX p=⟨8,p.trace,0,0,0,0,p.v,false,[],[],[]⟩∧bQ p.kind s=⟨none,0,none,0,none,0⟩:=by
 unfold aX bQ
 rw [h]
 simp
theorem yN {p:av} (s:aT) (h:p.kind=9):aX p=⟨9,p.trace,p.bn,p.aZ,0,0,0,false,p.spans,[],[]⟩∧bQ p.kind s=⟨s.a1,s.c1,none,0,none,0⟩:=by
 unfold aX bQ
 rw [h]
 simp
theorem yF {p:av} (s:aT) (h:p.kind=10):aX p=⟨10,p.trace,0,0,0,0,0,false,[],[],p.ids⟩∧bQ p.kind s=⟨none,0,none,0,s.a3,s.c3⟩:=by
 unfold aX bQ
 rw [h]
 simp
theorem yO {p:av} (s:aT) (h:¬ (1≤p.kind∧p.kind≤10)):aX p=⟨p.kind,p.trace,0,0,0,0,0,false,[],[],[]⟩∧bQ p.kind s=⟨none,0,none,0,none,0⟩:=by
 unfold aX bQ
 rw [if_neg (show ¬ p.kind=1 by omega),if_neg (show ¬ p.kind=1 by omega)]
 rw [if_neg (show ¬ p.kind=2 by omega),if_neg (show ¬ p.kind=2 by omega)]
 rw [if_neg (show ¬ p.kind=3 by omega),if_neg (show ¬ p.kind=3 by omega)]
 rw [if_neg (show ¬ p.kind=4 by omega),if_neg (show ¬ p.kind=4 by omega)]
 rw [if_neg (show ¬ p.kind=5 by omega),if_neg (show ¬ p.kind=5 by omega)]
 rw [if_neg (show ¬ p.kind=6 by omega),if_neg (show ¬ p.kind=6 by omega)]
 rw [if_neg (show ¬ p.kind=7 by omega),if_neg (show ¬ p.kind=7 by omega)]
 rw [if_neg (show ¬ p.kind=8 by omega),if_neg (show ¬ p.kind=8 by omega)]
 rw [if_neg (show ¬ p.kind=9 by omega),if_neg (show ¬ p.kind=9 by omega)]
 rw [if_neg (show ¬ p.kind=10 by omega),if_neg (show ¬ p.kind=10 by omega)]
 exact ⟨rfl,rfl⟩
theorem kQ {w:World} {p:av} {s:aT} (h:bP w p s):bP w (aX p) (bQ p.kind s):=by
 have n1:bW w none 0 0 []:=⟨fun h=>absurd rfl h,rfl,Nat.le_refl _,by omega,fun _=>rfl⟩
 have n2:eO w none 0 0 []:=eO.none w
 have n3:Row w none 0 0 (eG []):=Row.none w
 by_cases hk:1≤p.kind∧p.kind≤10
 ·rcases rH hk with e | e | e | e | e | e | e | e | e | e
  ·rw [(yE s e).1,(yE s e).2]
   exact ⟨h.r1,n2,n3⟩
  ·rw [(yG s e).1,(yG s e).2]
   exact ⟨h.r1,n2,n3⟩
  ·rw [(yH s e).1,(yH s e).2]
   exact ⟨n1,h.r2,n3⟩
  ·rw [(yI s e).1,(yI s e).2]
   exact ⟨n1,n2,n3⟩
  ·rw [(yJ s e).1,(yJ s e).2]
   exact ⟨n1,n2,n3⟩
  ·rw [(yK s e).1,(yK s e).2]
   exact ⟨n1,n2,n3⟩
  ·rw [(yL s e).1,(yL s e).2]
   exact ⟨n1,n2,n3⟩
  ·rw [(yM s e).1,(yM s e).2]
   exact ⟨n1,n2,n3⟩
  ·rw [(yN s e).1,(yN s e).2]
   exact ⟨h.r1,n2,n3⟩
  ·rw [(yF s e).1,(yF s e).2]
   exact ⟨n1,n2,h.r3⟩
 ·rw [(yO s hk).1,(yO s hk).2]
  exact ⟨n1,n2,n3⟩
def fQ (w:World) (p:av) (s:aT) (e:Ending) (w':World):Prop:=e = .returned (aM (aX p) (bQ p.kind s))∧Below w.heap.size w w'
theorem kN {w w':World} {p:av} {s:aT} {v:Value} (h:aM (aX p) (bQ p.kind s)=v) (hb:Below w.heap.size w w'):fQ w p s (.returned v) w':=⟨by rw [h],hb⟩
set_option maxRecDepth 100000 in
set_option maxHeartbeats 8000000 in
theorem ah9 (p:av) (s:aT) (w:World) (hk:p.kind=1):Calls Tryz.prog 66 #[aM p s] w (fQ w p s):=by
 have Hk:=aj (yE s hk)
 obtain ⟨k,tr,bn,bd,sn,sd,v,ok,l1,l2,l3⟩:=p
 obtain ⟨a1,c1,a2,c2,a3,c3⟩:=s
 simp only at hk
 subst hk
 go_enter Tryz.func66,Tryz.ntmps66
 go_wp2_with fail
 exact bodyPost_ret (v := .agg #[.int .i64 1,.int .u64 (tr:Nat),.int .u64 0,.int .u64 0,.int .u64 0,.int .u64 0,.int .i64 0,.bool false,.slice a1 l1.length c1,.slice none 0 0,.slice none 0 0]) (by simp [results,Tryz.results66,go_sem]) rfl (kN (by rw [Hk.out.1,Hk.out.2];rfl) (by repeat (first | exact Below.refl _ _ | apply Below.drew | refine Below.setCell ?_ (by dsimp only;omega) _ | refine Below.alloc ?_ (Nat.le_refl _) _ | refine Below.alloc ?_ (by simp only [World.size_alloc];omega) _)))
set_option maxRecDepth 100000 in
set_option maxHeartbeats 8000000 in
theorem aia (p:av) (s:aT) (w:World) (hk:p.kind=2):Calls Tryz.prog 66 #[aM p s] w (fQ w p s):=by
 have Hk:=aj (yG s hk)
 obtain ⟨k,tr,bn,bd,sn,sd,v,ok,l1,l2,l3⟩:=p
 obtain ⟨a1,c1,a2,c2,a3,c3⟩:=s
 simp only at hk
 subst hk
 go_enter Tryz.func66,Tryz.ntmps66
 go_wp2_with fail
 exact bodyPost_ret (v := .agg #[.int .i64 2,.int .u64 (tr:Nat),.int .u64 0,.int .u64 0,.int .u64 0,.int .u64 0,.int .i64 0,.bool false,.slice a1 l1.length c1,.slice none 0 0,.slice none 0 0]) (by simp [results,Tryz.results66,go_sem]) rfl (kN (by rw [Hk.out.1,Hk.out.2];rfl) (by repeat (first | exact Below.refl _ _ | apply Below.drew | refine Below.setCell ?_ (by dsimp only;omega) _ | refine Below.alloc ?_ (Nat.le_refl _) _ | refine Below.alloc ?_ (by simp only [World.size_alloc];omega) _)))
set_option maxRecDepth 100000 in
set_option maxHeartbeats 8000000 in
theorem aib (p:av) (s:aT) (w:World) (hk:p.kind=3):Calls Tryz.prog 66 #[aM p s] w (fQ w p s):=by
 have Hk:=aj (yH s hk)
 obtain ⟨k,tr,bn,bd,sn,sd,v,ok,l1,l2,l3⟩:=p
 obtain ⟨a1,c1,a2,c2,a3,c3⟩:=s
 simp only at hk
 subst hk
 go_enter Tryz.func66,Tryz.ntmps66
 go_wp2_with fail
 exact bodyPost_ret (v := .agg #[.int .i64 3,.int .u64 0,.int .u64 0,.int .u64 0,.int .u64 0,.int .u64 0,.int .i64 0,.bool false,.slice none 0 0,.slice a2 l2.length c2,.slice none 0 0]) (by simp [results,Tryz.results66,go_sem]) rfl (kN (by rw [Hk.out.1,Hk.out.2];rfl) (by repeat (first | exact Below.refl _ _ | apply Below.drew | refine Below.setCell ?_ (by dsimp only;omega) _ | refine Below.alloc ?_ (Nat.le_refl _) _ | refine Below.alloc ?_ (by simp only [World.size_alloc];omega) _)))
set_option maxRecDepth 100000 in
set_option maxHeartbeats 8000000 in
theorem aic (p:av) (s:aT) (w:World) (hk:p.kind=4):Calls Tryz.prog 66 #[aM p s] w (fQ w p s):=by
 have Hk:=aj (yI s hk)
 obtain ⟨k,tr,bn,bd,sn,sd,v,ok,l1,l2,l3⟩:=p
 obtain ⟨a1,c1,a2,c2,a3,c3⟩:=s
 simp only at hk
 subst hk
 go_enter Tryz.func66,Tryz.ntmps66
 go_wp2_with fail
 exact bodyPost_ret (v := .agg #[.int .i64 4,.int .u64 (tr:Nat),.int .u64 (bn:Nat),.int .u64 (bd:Nat),.int .u64 0,.int .u64 0,.int .i64 0,.bool false,.slice none 0 0,.slice none 0 0,.slice none 0 0]) (by simp [results,Tryz.results66,go_sem]) rfl (kN (by rw [Hk.out.1,Hk.out.2];rfl) (by repeat (first | exact Below.refl _ _ | apply Below.drew | refine Below.setCell ?_ (by dsimp only;omega) _ | refine Below.alloc ?_ (Nat.le_refl _) _ | refine Below.alloc ?_ (by simp only [World.size_alloc];omega) _)))
set_option maxRecDepth 100000 in
set_option maxHeartbeats 8000000 in
theorem aie (p:av) (s:aT) (w:World) (hk:p.kind=5):Calls Tryz.prog 66 #[aM p s] w (fQ w p s):=by
 have Hk:=aj (yJ s hk)
 obtain ⟨k,tr,bn,bd,sn,sd,v,ok,l1,l2,l3⟩:=p
 obtain ⟨a1,c1,a2,c2,a3,c3⟩:=s
 simp only at hk
 subst hk
 go_enter Tryz.func66,Tryz.ntmps66
 go_wp2_with fail
 go_region
 go_wp2_with fail
 exact bodyPost_ret (v := .agg #[.int .i64 5,.int .u64 (tr:Nat),.int .u64 (bn:Nat),.int .u64 (bd:Nat),.int .u64 (sn:Nat),.int .u64 (sd:Nat),.int .i64 v,.bool ok,.slice none 0 0,.slice none 0 0,.slice none 0 0]) (by simp [results,Tryz.results66,go_sem]) rfl (kN (by rw [Hk.out.1,Hk.out.2];rfl) (by repeat (first | exact Below.refl _ _ | apply Below.drew | refine Below.setCell ?_ (by dsimp only;omega) _ | refine Below.alloc ?_ (Nat.le_refl _) _ | refine Below.alloc ?_ (by simp only [World.size_alloc];omega) _)))
set_option maxRecDepth 100000 in
set_option maxHeartbeats 8000000 in
theorem aif (p:av) (s:aT) (w:World) (hk:p.kind=6):Calls Tryz.prog 66 #[aM p s] w (fQ w p s):=by
 have Hk:=aj (yK s hk)
 obtain ⟨k,tr,bn,bd,sn,sd,v,ok,l1,l2,l3⟩:=p
 obtain ⟨a1,c1,a2,c2,a3,c3⟩:=s
 simp only at hk
 subst hk
 go_enter Tryz.func66,Tryz.ntmps66
 go_wp2_with fail
 go_region
 go_wp2_with fail
 exact bodyPost_ret (v := .agg #[.int .i64 6,.int .u64 (tr:Nat),.int .u64 (bn:Nat),.int .u64 (bd:Nat),.int .u64 0,.int .u64 0,.int .i64 v,.bool false,.slice none 0 0,.slice none 0 0,.slice none 0 0]) (by simp [results,Tryz.results66,go_sem]) rfl (kN (by rw [Hk.out.1,Hk.out.2];rfl) (by repeat (first | exact Below.refl _ _ | apply Below.drew | refine Below.setCell ?_ (by dsimp only;omega) _ | refine Below.alloc ?_ (Nat.le_refl _) _ | refine Below.alloc ?_ (by simp only [World.size_alloc];omega) _)))
set_option maxRecDepth 100000 in
set_option maxHeartbeats 8000000 in
theorem aii (p:av) (s:aT) (w:World) (hk:p.kind=7):Calls Tryz.prog 66 #[aM p s] w (fQ w p s):=by
 have Hk:=aj (yL s hk)
 obtain ⟨k,tr,bn,bd,sn,sd,v,ok,l1,l2,l3⟩:=p
 obtain ⟨a1,c1,a2,c2,a3,c3⟩:=s
 simp only at hk
 subst hk
 go_enter Tryz.func66,Tryz.ntmps66
 go_wp2_with fail
 go_region
 go_wp2_with fail
 exact bodyPost_ret (v := .agg #[.int .i64 7,.int .u64 (tr:Nat),.int .u64 (bn:Nat),.int .u64 (bd:Nat),.int .u64 (sn:Nat),.int .u64 (sd:Nat),.int .i64 0,.bool ok,.slice none 0 0,.slice none 0 0,.slice none 0 0]) (by simp [results,Tryz.results66,go_sem]) rfl (kN (by rw [Hk.out.1,Hk.out.2];rfl) (by repeat (first | exact Below.refl _ _ | apply Below.drew | refine Below.setCell ?_ (by dsimp only;omega) _ | refine Below.alloc ?_ (Nat.le_refl _) _ | refine Below.alloc ?_ (by simp only [World.size_alloc];omega) _)))
set_option maxRecDepth 100000 in
set_option maxHeartbeats 8000000 in
theorem aij (p:av) (s:aT) (w:World) (hk:p.kind=8):Calls Tryz.prog 66 #[aM p s] w (fQ w p s):=by
 have Hk:=aj (yM s hk)
 obtain ⟨k,tr,bn,bd,sn,sd,v,ok,l1,l2,l3⟩:=p
 obtain ⟨a1,c1,a2,c2,a3,c3⟩:=s
 simp only at hk
 subst hk
 go_enter Tryz.func66,Tryz.ntmps66
 go_wp2_with fail
 exact bodyPost_ret (v := .agg #[.int .i64 8,.int .u64 (tr:Nat),.int .u64 0,.int .u64 0,.int .u64 0,.int .u64 0,.int .i64 v,.bool false,.slice none 0 0,.slice none 0 0,.slice none 0 0]) (by simp [results,Tryz.results66,go_sem]) rfl (kN (by rw [Hk.out.1,Hk.out.2];rfl) (by repeat (first | exact Below.refl _ _ | apply Below.drew | refine Below.setCell ?_ (by dsimp only;omega) _ | refine Below.alloc ?_ (Nat.le_refl _) _ | refine Below.alloc ?_ (by simp only [World.size_alloc];omega) _)))
set_option maxRecDepth 100000 in
set_option maxHeartbeats 8000000 in
theorem aik (p:av) (s:aT) (w:World) (hk:p.kind=9):Calls Tryz.prog 66 #[aM p s] w (fQ w p s):=by
 have Hk:=aj (yN s hk)
 obtain ⟨k,tr,bn,bd,sn,sd,v,ok,l1,l2,l3⟩:=p
 obtain ⟨a1,c1,a2,c2,a3,c3⟩:=s
 simp only at hk
 subst hk
 go_enter Tryz.func66,Tryz.ntmps66
 go_wp2_with fail
 go_region
 go_wp2_with fail
 exact bodyPost_ret (v := .agg #[.int .i64 9,.int .u64 (tr:Nat),.int .u64 (bn:Nat),.int .u64 (bd:Nat),.int .u64 0,.int .u64 0,.int .i64 0,.bool false,.slice a1 l1.length c1,.slice none 0 0,.slice none 0 0]) (by simp [results,Tryz.results66,go_sem]) rfl (kN (by rw [Hk.out.1,Hk.out.2];rfl) (by repeat (first | exact Below.refl _ _ | apply Below.drew | refine Below.setCell ?_ (by dsimp only;omega) _ | refine Below.alloc ?_ (Nat.le_refl _) _ | refine Below.alloc ?_ (by simp only [World.size_alloc];omega) _)))
set_option maxRecDepth 100000 in
set_option maxHeartbeats 8000000 in
theorem ah8 (p:av) (s:aT) (w:World) (hk:p.kind=10):Calls Tryz.prog 66 #[aM p s] w (fQ w p s):=by
 have Hk:=aj (yF s hk)
 obtain ⟨k,tr,bn,bd,sn,sd,v,ok,l1,l2,l3⟩:=p
 obtain ⟨a1,c1,a2,c2,a3,c3⟩:=s
 simp only at hk
 subst hk
 go_enter Tryz.func66,Tryz.ntmps66
 go_wp2_with fail
 exact bodyPost_ret (v := .agg #[.int .i64 10,.int .u64 (tr:Nat),.int .u64 0,.int .u64 0,.int .u64 0,.int .u64 0,.int .i64 0,.bool false,.slice none 0 0,.slice none 0 0,.slice a3 l3.length c3]) (by simp [results,Tryz.results66,go_sem]) rfl (kN (by rw [Hk.out.1,Hk.out.2];rfl) (by repeat (first | exact Below.refl _ _ | apply Below.drew | refine Below.setCell ?_ (by dsimp only;omega) _ | refine Below.alloc ?_ (Nat.le_refl _) _ | refine Below.alloc ?_ (by simp only [World.size_alloc];omega) _)))
set_option maxRecDepth 100000 in
set_option maxHeartbeats 8000000 in
theorem ah7 (p:av) (s:aT) (w:World) (hk:¬ (1≤p.kind∧p.kind≤10)):Calls Tryz.prog 66 #[aM p s] w (fQ w p s):=by
 have Hk:=aj (yO s hk)
 obtain ⟨k,tr,bn,bd,sn,sd,v,ok,l1,l2,l3⟩:=p
 obtain ⟨a1,c1,a2,c2,a3,c3⟩:=s
 simp only at hk
 have e1:(k==1)=false:=by rw [beq_eq_false_iff_ne];omega
 have e2:(k==2)=false:=by rw [beq_eq_false_iff_ne];omega
 have e3:(k==3)=false:=by rw [beq_eq_false_iff_ne];omega
 have e4:(k==4)=false:=by rw [beq_eq_false_iff_ne];omega
 have e5:(k==5)=false:=by rw [beq_eq_false_iff_ne];omega
 have e6:(k==6)=false:=by rw [beq_eq_false_iff_ne];omega
 have e7:(k==7)=false:=by rw [beq_eq_false_iff_ne];omega
 have e8:(k==8)=false:=by rw [beq_eq_false_iff_ne];omega
 have e9:(k==9)=false:=by rw [beq_eq_false_iff_ne];omega
 have e10:(k==10)=false:=by rw [beq_eq_false_iff_ne];omega
 clear hk
 go_enter Tryz.func66,Tryz.ntmps66
 go_wp2_with fail
 exact bodyPost_ret (v := .agg #[.int .i64 k,.int .u64 (tr:Nat),.int .u64 0,.int .u64 0,.int .u64 0,.int .u64 0,.int .i64 0,.bool false,.slice none 0 0,.slice none 0 0,.slice none 0 0]) (by simp [results,Tryz.results66,go_sem]) rfl (kN (by rw [Hk.out.1,Hk.out.2];rfl) (by repeat (first | exact Below.refl _ _ | apply Below.drew | refine Below.setCell ?_ (by dsimp only;omega) _ | refine Below.alloc ?_ (Nat.le_refl _) _ | refine Below.alloc ?_ (by simp only [World.size_alloc];omega) _)))
theorem kP (p:av) (s:aT) (w:World):Calls Tryz.prog 66 #[aM p s] w (fQ w p s):=by
 by_cases hk:1≤p.kind∧p.kind≤10
 ·rcases rH hk with e | e | e | e | e | e | e | e | e | e
  ·exact ah9 p s w e
  ·exact aia p s w e
  ·exact aib p s w e
  ·exact aic p s w e
  ·exact aie p s w e
  ·exact aif p s w e
  ·exact aii p s w e
  ·exact aij p s w e
  ·exact aik p s w e
  ·exact ah8 p s w e
 ·exact ah7 p s w hk
end Go.Proofs.YtpcmlopbkehffaaGreat
namespace Go.Proofs.YtpcmlopbkehffaaGreat
open Go.RowKit Ru
set_option linter.unusedSimpArgs false
attribute [local go_sem] undef
def kr (v:Int):Bool:=decide (1≤v)&&decide (v≤3)
def dA (p:av):Bool :=
 if p.kind=1∨p.kind=2 then iq p.trace p.spans else
 if p.kind=3 then jK p.members else
 if p.kind=4 then decide (p.bn≠0) else
 if p.kind=5 then decide (p.bn≠0)&&((decide (p.v=0)||(kr p.v&&isB p.sn p.bM))&&(if p.ok then decide (p.v≠0) || !isB p.sn p.bM else decide (p.v=0)&&isB p.sn p.bM)) else
 if p.kind=6 then decide (p.bn≠0)&&kr p.v else
 if p.kind=7 then decide (p.bn≠0)&&(p.ok == !isB p.sn p.bM) else
 if p.kind=8 then kr p.v else
 if p.kind=9 then decide (p.bn≠0)&&iq p.trace p.spans else
 if p.kind=10 then jL p.ids else false
def qL (p:av):Bool:=cu p (aX p)&&((p.kind==3)||((p.trace:Int) != 0))
def bZ (p:av):Bool:=qL p&&dA p
theorem kG (a b:Nat) (w:World):(binOp .eql 35 (.agg #[.int .u64 (a:Nat),.int .u64 (b:Nat)]) (.agg #[.int .u64 0,.int .u64 0])).run Tryz.prog w = .ok (.bool (!isB a b)) w:=by
 rw [run_eql_struct,aaX]
 rfl
abbrev PIn (w1:World) (g:Nat) (p:av) (s:aT) (W:World):Prop :=
 Below w1.heap.size w1 W∧W.cell? ⟨g,0,none⟩=some (.int .i64 p.kind)∧W.cell? ⟨g,1,none⟩=some (.int .u64 (p.trace:Nat))∧W.cell? ⟨g,2,none⟩=some (.int .u64 (p.bn:Nat))∧W.cell? ⟨g,3,none⟩=some (.int .u64 (p.aZ:Nat))∧W.cell? ⟨g,4,none⟩=some (.int .u64 (p.sn:Nat))∧W.cell? ⟨g,5,none⟩=some (.int .u64 (p.bM:Nat))∧W.cell? ⟨g,6,none⟩=some (.int .i64 p.v)∧W.cell? ⟨g,7,none⟩=some (.bool p.ok)∧W.cell? ⟨g,8,none⟩=some (.slice s.a1 p.spans.length s.c1)∧W.cell? ⟨g,9,none⟩=some (.slice s.a2 p.members.length s.c2)∧W.cell? ⟨g,10,none⟩=some (.slice s.a3 p.ids.length s.c3)
theorem aI {w1 W W':World} {g:Nat} {p:av} {s:aT} (hg:g<w1.heap.size) (h:PIn w1 g p s W) (hb:Below W.heap.size W W'):PIn w1 g p s W':=by
 obtain ⟨h0,a0,a1,a2,a3,a4,a5,a6,a7,a8,a9,a10⟩:=h
 have k:∀ o',W'.cell? ⟨g,o',none⟩=W.cell? ⟨g,o',none⟩:=fun o'=>hb.cell (p:=⟨g,o',none⟩) (Nat.lt_of_lt_of_le hg h0.size)
 refine ⟨h0.trans (hb.mono h0.size),?_,?_,?_,?_,?_,?_,?_,?_,?_,?_,?_⟩
 all_goals rw [k];assumption
theorem jc {W:World} {g:Nat} {p:av} {s:aT} (h:gB W g p s):PIn W g p s W :=
 ⟨Below.refl _ _,h.cell 0 _ rfl,h.cell 1 _ rfl,h.cell 2 _ rfl,h.cell 3 _ rfl,h.cell 4 _ rfl,h.cell 5 _ rfl,h.cell 6 _ rfl,h.cell 7 _ rfl,h.cell 8 _ rfl,h.cell 9 _ rfl,h.cell 10 _ rfl⟩
end Go.Proofs.YtpcmlopbkehffaaGreat
namespace Go.Proofs.YtpcmlopbkehffaaGreat
open Go.RowKit Ru
theorem iB {α:Type} {f:α→α→Bool} (h:∀ a,f a a=true):∀ l:List α,eqF f l l=true
 | []=>rfl
 | a::l=>by rw [eqF,h a,iB h l];rfl
theorem nM {α:Type} (f:α→α→Bool) (a:α) (l:List α):eqF f (a::l) []=false:=rfl
theorem nN {α:Type} (f:α→α→Bool):eqF f [] []=true:=rfl
theorem ql (m:aJ):je m m=true:=by simp [je]
theorem pG (n:Nat):eqN n n=true:=by simp [eqN]
theorem yc:jV []=true:=rfl
theorem zy:eB []=true:=rfl
theorem zJ (t:Nat):jg t []=true:=rfl
theorem nP (n:Nat):gu false n 16=decide (n=0):=rfl
theorem nQ (n:Nat):gu true n 16=inF n:=rfl
theorem uh (n:Nat):((n:Int) != 0)=decide (n≠0):=by
 by_cases h:n=0 <;> simp [h]
theorem zm (k:Int) (hk:k=1∨k=2∨k=9) (tr bn bd sn sd:Nat) (v:Int) (ok:Bool) (l1:List ay) (l2:List aJ) (l3:List Nat):bZ ⟨k,tr,bn,bd,sn,sd,v,ok,l1,l2,l3⟩=dF ⟨k,tr,bn,bd,sn,sd,v,ok,l1,l2,l3⟩:=by
 have h1:=iB qj l1
 rcases hk with rfl | rfl | rfl
 all_goals
  cases l2 <;> cases l3
  all_goals
   simp only [bZ,qL,dA,cu,nA,aX,dF,l9,aV,kM,mM,lD,lF,lQ,isB,kK,nP,nQ,yc,zy,iq,eqB,h1,nM,nN,uh]
   generalize jg tr l1=g
 all_goals
  rw [Bool.eq_iff_iff]
  simp [nP,nQ,nM,nN,iB qj,iB ql,iB pG]
  try grind
theorem ajz (tr bn bd sn sd:Nat) (v:Int) (ok:Bool) (l1:List ay) (l2:List aJ) (l3:List Nat):bZ ⟨3,tr,bn,bd,sn,sd,v,ok,l1,l2,l3⟩=dF ⟨3,tr,bn,bd,sn,sd,v,ok,l1,l2,l3⟩:=by
 have h1:=iB ql l2
 cases l1 <;> cases l3
 all_goals
  simp only [bZ,qL,dA,cu,nA,aX,dF,l9,aV,kM,mM,lD,lF,lQ,isB,kK,nP,nQ,zJ,zy,jK,eqB,h1,nM,nN,uh]
  generalize jV l2=g
 all_goals
  rw [Bool.eq_iff_iff]
  simp [nP,nQ,nM,nN,iB qj,iB ql,iB pG]
  try grind
theorem ajy (tr bn bd sn sd:Nat) (v:Int) (ok:Bool) (l1:List ay) (l2:List aJ) (l3:List Nat):bZ ⟨10,tr,bn,bd,sn,sd,v,ok,l1,l2,l3⟩=dF ⟨10,tr,bn,bd,sn,sd,v,ok,l1,l2,l3⟩:=by
 have h1:=iB pG l3
 cases l1 <;> cases l2
 all_goals
  simp only [bZ,qL,dA,cu,nA,aX,dF,l9,aV,kM,mM,lD,lF,lQ,isB,kK,nP,nQ,zJ,yc,jL,eqB,h1,nM,nN,uh]
  generalize eB l3=g
 all_goals
  rw [Bool.eq_iff_iff]
  simp [nP,nQ,nM,nN,iB qj,iB ql,iB pG]
  try grind
theorem sw (k:Int) (hk:k=4∨k=5∨k=6∨k=7∨k=8) (tr bn bd sn sd:Nat) (v:Int) (ok:Bool) (l1:List ay) (l2:List aJ) (l3:List Nat):bZ ⟨k,tr,bn,bd,sn,sd,v,ok,l1,l2,l3⟩=dF ⟨k,tr,bn,bd,sn,sd,v,ok,l1,l2,l3⟩:=by
 rcases hk with rfl | rfl | rfl | rfl | rfl
 all_goals
  cases l1 <;> cases l2 <;> cases l3
  all_goals
   cases ok
   all_goals
    simp only [bZ,qL,dA,cu,nA,aX,dF,l9,aV,kM,mM,lD,lF,lQ,isB,kK,nP,nQ,zJ,yc,zy,kr,eqB,nM,nN,uh]
 all_goals
  rw [Bool.eq_iff_iff]
  simp [nP,nQ,nM,nN,iB qj,iB ql,iB pG]
  try grind
theorem ajx (p:av):bZ p=dF p:=by
 obtain ⟨k,tr,bn,bd,sn,sd,v,ok,l1,l2,l3⟩:=p
 by_cases hk:1≤k∧k≤10
 ·rcases rH hk with e | e | e | e | e | e | e | e | e | e
  ·exact zm k (.inl e) ..
  ·exact zm k (.inr (.inl e)) ..
  ·subst e;exact ajz ..
  ·exact sw k (by omega) ..
  ·exact sw k (by omega) ..
  ·exact sw k (by omega) ..
  ·exact sw k (by omega) ..
  ·exact sw k (by omega) ..
  ·exact zm k (.inr (.inr e)) ..
  ·subst e;exact ajy ..
 ·have h1:dA ⟨k,tr,bn,bd,sn,sd,v,ok,l1,l2,l3⟩=false:=by
   unfold dA
   simp only
   rw [if_neg (by omega),if_neg (by omega),if_neg (by omega),if_neg (by omega),if_neg (by omega),if_neg (by omega),if_neg (by omega),if_neg (by omega),if_neg (by omega)]
  unfold bZ dF
  rw [h1,Bool.and_false]
  simp only
  rw [ac3 hk]
  rfl
end Go.Proofs.YtpcmlopbkehffaaGreat
