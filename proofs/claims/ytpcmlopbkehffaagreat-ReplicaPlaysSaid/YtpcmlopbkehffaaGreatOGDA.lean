/-
  What a register answers, by the program and by the document; a register as the other's; the document's Right.
-/
import Derived.Test.YtpcmlopbkehffaaGreatOGAC
import Derived.Test.YtpcmlopbkehffaaGreatOGBD
import Derived.Test.YtpcmlopbkehffaaGreatOGBF
import Derived.Deep.CutRange
import Derived.Lib.QuietBelow
set_option linter.unusedSimpArgs false
set_option linter.unusedVariables false
namespace Go.Proofs.YtpcmlopbkehffaaGreat
open Go.RowKit Rg Bl
namespace Re
abbrev noS:aT:=⟨none,0,none,0,none,0⟩
def eZ (r:aF) (trace:Nat) (b:aY) (ok took:Bool):av :=
 ⟨if took then 7 else 5,trace,b.pos,b.id,if ok then (if took then 0 else r.t.pos) else r.p.pos,if ok then (if took then 0 else r.t.id) else r.p.id,if ok && !took then r.v else 0,ok,[],[],[]⟩
set_option maxRecDepth 20000 in
set_option maxHeartbeats 4000000 in
theorem aeF (r:aF) (trace:Nat) (b:aY) (ok took:Bool) (W:World):Calls Tryz.prog 36 #[aK r,.int .u64 (trace:Nat),iE b,.bool ok,.bool took] W (bT W.heap.size W (aM (eZ r trace b ok took) noS)):=by
 cases ok
 ·cases took
  ·go_enter Tryz.func36,Tryz.ntmps36
   go_wp2_with fail
   exact bodyPost_ret (v:=aM (eZ r trace b false false) noS) (by simp [results,Tryz.results36,go_sem,eZ]) rfl (bH rfl (by repeat (first | exact Below.refl _ _ | apply Below.drew | refine Below.setCell ?_ (by simp;try omega) _ | refine Below.alloc ?_ (by simp;try omega) _)))
  ·go_enter Tryz.func36,Tryz.ntmps36
   go_wp2_with fail
   exact bodyPost_ret (v:=aM (eZ r trace b false true) noS) (by simp [results,Tryz.results36,go_sem,eZ]) rfl (bH rfl (by repeat (first | exact Below.refl _ _ | apply Below.drew | refine Below.setCell ?_ (by simp;try omega) _ | refine Below.alloc ?_ (by simp;try omega) _)))
 ·cases took
  ·go_enter Tryz.func36,Tryz.ntmps36
   go_wp2_with fail
   go_region
   go_wp2_with fail
   exact bodyPost_ret (v:=aM (eZ r trace b true false) noS) (by simp [results,Tryz.results36,go_sem,eZ]) rfl (bH rfl (by repeat (first | exact Below.refl _ _ | apply Below.drew | refine Below.setCell ?_ (by simp;try omega) _ | refine Below.alloc ?_ (by simp;try omega) _)))
  ·go_enter Tryz.func36,Tryz.ntmps36
   go_wp2_with fail
   exact bodyPost_ret (v:=aM (eZ r trace b true true) noS) (by simp [results,Tryz.results36,go_sem,eZ]) rfl (bH rfl (by repeat (first | exact Below.refl _ _ | apply Below.drew | refine Below.setCell ?_ (by simp;try omega) _ | refine Below.alloc ?_ (by simp;try omega) _)))
set_option maxRecDepth 20000 in
set_option maxHeartbeats 4000000 in
theorem ade (r:aF) (trace:Nat) (b:aY) (ok took:Bool) (W:World):Calls Tryz.prog 43 #[aK r,.int .u64 (trace:Nat),iE b,.bool ok,.bool took] W (bT W.heap.size W (aM (eZ r trace b ok took) noS)):=by
 cases ok
 ·cases took
  ·go_enter Tryz.func43,Tryz.ntmps43
   go_wp2_with fail
   exact bodyPost_ret (v:=aM (eZ r trace b false false) noS) (by simp [results,Tryz.results43,go_sem,eZ]) rfl (bH rfl (by repeat (first | exact Below.refl _ _ | apply Below.drew | refine Below.setCell ?_ (by simp;try omega) _ | refine Below.alloc ?_ (by simp;try omega) _)))
  ·go_enter Tryz.func43,Tryz.ntmps43
   go_wp2_with fail
   exact bodyPost_ret (v:=aM (eZ r trace b false true) noS) (by simp [results,Tryz.results43,go_sem,eZ]) rfl (bH rfl (by repeat (first | exact Below.refl _ _ | apply Below.drew | refine Below.setCell ?_ (by simp;try omega) _ | refine Below.alloc ?_ (by simp;try omega) _)))
 ·cases took
  ·go_enter Tryz.func43,Tryz.ntmps43
   go_wp2_with fail
   exact bodyPost_ret (v:=aM (eZ r trace b true false) noS) (by simp [results,Tryz.results43,go_sem,eZ]) rfl (bH rfl (by repeat (first | exact Below.refl _ _ | apply Below.drew | refine Below.setCell ?_ (by simp;try omega) _ | refine Below.alloc ?_ (by simp;try omega) _)))
  ·go_enter Tryz.func43,Tryz.ntmps43
   go_wp2_with fail
   exact bodyPost_ret (v:=aM (eZ r trace b true true) noS) (by simp [results,Tryz.results43,go_sem,eZ]) rfl (bH rfl (by repeat (first | exact Below.refl _ _ | apply Below.drew | refine Below.setCell ?_ (by simp;try omega) _ | refine Below.alloc ?_ (by simp;try omega) _)))
set_option maxRecDepth 20000 in
set_option maxHeartbeats 4000000 in
theorem aeN (r:aF) (W:World):Calls Tryz.prog 20 #[aK r] W (bT W.heap.size W (aK r)):=by
 go_enter Tryz.func20,Tryz.ntmps20
 go_wp2_with fail
 exact bodyPost_ret (v:=aK r) (by simp [results,Tryz.results20,go_sem]) rfl (bH rfl (by repeat (first | exact Below.refl _ _ | apply Below.drew | refine Below.setCell ?_ (by simp;try omega) _ | refine Below.alloc ?_ (by simp;try omega) _)))
end Re
end Go.Proofs.YtpcmlopbkehffaaGreat
namespace Go.Proofs.YtpcmlopbkehffaaGreat
open Go.RowKit Rg Bl Go.ChangeShapes Go.WideShapes
namespace Re
section
variable {H:Type} {enc:TypeId×Value→H} {w:World} {base:Nat} {spare:Nat→Bool} {held:Bool} {fuel:Nat}
def Wf (r:aF):Prop:=Bl.Wf r.p∧Bl.Wf r.t ∧ -9223372036854775808≤r.v∧r.v≤9223372036854775807
def RegV (_w:World) (v:Value):Prop:=∃ r:aF,Wf r∧v=aK r
end
set_option maxRecDepth 100000 in
theorem adn (T:TypeId) (hT:T=54∨T=60) (a b:aF) (w:World):(Op.equalIn 10000 T (aK a) (aK b)).run Tryz.prog w = .ok (dH a b) w:=by
 rcases hT with rfl | rfl
 ·rw [run_equalIn_agg w 9999 54 _ _ (by kernel_rfl) (by kernel_rfl)]
  simp [Program.fieldsOf,Tryz.underlying54,Tryz.underlying35,Op.eqFields,part,go_sem]
  simp only [Int.ofNat_inj]
  unfold dH fP
  repeat' split
  all_goals simp_all
 ·rw [run_equalIn_agg w 9999 60 _ _ (by kernel_rfl) (by kernel_rfl)]
  simp [Program.fieldsOf,Tryz.underlying60,Tryz.underlying35,Op.eqFields,part,go_sem]
  simp only [Int.ofNat_inj]
  unfold dH fP
  repeat' split
  all_goals simp_all
theorem ajX (a b:aF) (w:World):(binOp .eql 54 (aK a) (aK b)).run Tryz.prog w = .ok (.bool (dH a b)) w:=by
 rw [run_eql_struct,adn _ (.inl rfl)]
 rfl
theorem nW (a b:aF) (w:World):(binOp .neq 54 (aK a) (aK b)).run Tryz.prog w = .ok (.bool (!dH a b)) w:=by
 rw [run_neq_struct,adn _ (.inl rfl)]
 rfl
end Re
end Go.Proofs.YtpcmlopbkehffaaGreat
namespace Go.Proofs.YtpcmlopbkehffaaGreat
open Go.RowKit Rg Bl
namespace Re
end Re
end Go.Proofs.YtpcmlopbkehffaaGreat
namespace Go.Proofs.YtpcmlopbkehffaaGreat
open Go.RowKit Rg Bl
namespace Re
abbrev R5 (W:World) (g:Nat) (r:aF):Prop:=W.cell? ⟨g,0,none⟩=some (.int .u64 (r.p.pos:Nat))∧W.cell? ⟨g,1,none⟩=some (.int .u64 (r.p.id:Nat))∧W.cell? ⟨g,2,none⟩=some (.int .u64 (r.t.pos:Nat))∧W.cell? ⟨g,3,none⟩=some (.int .u64 (r.t.id:Nat))∧W.cell? ⟨g,4,none⟩=some (.int .i64 r.v)
abbrev B2 (W:World) (g:Nat) (b:aY):Prop:=W.cell? ⟨g,0,none⟩=some (.int .u64 (b.pos:Nat))∧W.cell? ⟨g,1,none⟩=some (.int .u64 (b.id:Nat))
theorem jE {W:World} {g:Nat} {T:TypeId} {r:aF} (h:Whole W g T (aQ r)):R5 W g r:=⟨h.cell 0 _ rfl,h.cell 1 _ rfl,h.cell 2 _ rfl,h.cell 3 _ rfl,h.cell 4 _ rfl⟩
theorem aje {W W':World} {g:Nat} {r:aF} (h:R5 W g r) (hb:Below W.heap.size W W'):R5 W' g r:=by
 obtain ⟨a,b,c,d,e⟩:=h
 exact ⟨by rw [hb.cell (lt_of_cell a)];exact a,by rw [hb.cell (lt_of_cell b)];exact b,by rw [hb.cell (lt_of_cell c)];exact c,by rw [hb.cell (lt_of_cell d)];exact d,by rw [hb.cell (lt_of_cell e)];exact e⟩
theorem ad7 {w1 w':World} {cs:Array Value} {T:TypeId} (hb:Below (w1.alloc (.cells cs T)).heap.size (w1.alloc (.cells cs T)) w'):Whole w' w1.heap.size T cs:=(aP w1 T cs).below hb (aP w1 T cs).lt
theorem al8 {w1 w':World} {cs:Array Value} {T:TypeId} (hb:Below (w1.alloc (.cells cs T)).drew.heap.size (w1.alloc (.cells cs T)).drew w'):Whole w' w1.heap.size T cs:=(Whole.drew (aP w1 T cs)).below hb (Whole.drew (aP w1 T cs)).lt
theorem al6 {w1 w':World} {g:Nat} {cs:Array Value} {T:TypeId} (h:Whole w1 g T cs) (hb:Below w1.heap.size w1 w'):Whole w' g T cs:=h.below hb h.lt
theorem jA {a b c:World} (h:Below a.heap.size a b) (k:Below b.heap.size b c):Below a.heap.size a c:=h.trans (k.mono h.size)
theorem oF {a b c:World} (h:Below a.heap.size a b) (k:Below b.drew.heap.size b.drew c):Below a.heap.size a c:=(Below.drew h).trans (k.mono h.size)
theorem afc {a b c:World} {o:Obj} (h:Below a.heap.size a b) (k:Below (b.alloc o).heap.size (b.alloc o) c):Below a.heap.size a c:=(h.alloc h.size o).trans (k.mono (h.alloc h.size o).size)
theorem afd {a b c:World} {o:Obj} (h:Below a.heap.size a b) (k:Below (b.alloc o).drew.heap.size (b.alloc o).drew c):Below a.heap.size a c:=(Below.drew (h.alloc h.size o)).trans (k.mono (h.alloc h.size o).size)
theorem afe {a b c:World} {o:Obj} (h:Below a.heap.size a b) (k:Below (b.drew.alloc o).heap.size (b.drew.alloc o) c):Below a.heap.size a c:=((Below.drew h).alloc h.size o).trans (k.mono (h.alloc h.size o).size)
abbrev RbIn (w1:World) (g:Nat) (r:aF) (h:Nat) (b:aY) (W:World):Prop:=Below w1.heap.size w1 W∧R5 W g r∧B2 W h b
def aah (w1:World) (T:TypeId) (x:aF) (k:Bool) (v v':Value) (W:World):Prop:=∃ g,v = .pointer (some ⟨g,0,none⟩)∧v' = .bool k∧w1.heap.size≤g∧Whole W g T (aQ x)∧Below w1.heap.size w1 W
theorem ab3 {w1 W:World} {T:TypeId} {x:aF} {k k':Bool} {g:Nat} (h0:k=k') (h:w1.heap.size≤g) (hw:Whole W g T (aQ x)) (hb:Below w1.heap.size w1 W):aah w1 T x k (.pointer (some ⟨g,0,none⟩)) (.bool k') W:=⟨g,rfl,by rw [h0],h,hw,hb⟩
abbrev StIn (w1:World) (g:Nat) (r:aF) (h:Nat) (b:aY) (gx gy:Nat) (x:aF) (gp gv:Nat) (q:aF) (W:World):Prop:=RbIn w1 g r h b W∧R5 W gx x∧R5 W gy x∧R5 W gp q∧R5 W gv q
end Re
end Go.Proofs.YtpcmlopbkehffaaGreat
