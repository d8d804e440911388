/-
  Compact.
-/
import Derived.Test.YthjhofmjhmnddaaGreatMGAO
import Derived.Test.YthjhofmjhmnddaaGreatMGAQ
import Derived.Test.YthjhofmjhmnddaaGreatMGBF
import Derived.Test.YthjhofmjhmnddaaGreatMGDA
import Derived.Test.YthjhofmjhmnddaaGreatMGDI
import Derived.Deep.RegionHeld3
import Derived.Deep.Slices
import Derived.Deep.DrawnRows
import Derived.OpenShut
set_option linter.unusedSimpArgs false
set_option linter.unusedVariables false
namespace Go.Proofs.YthjhofmjhmnddaaGreat
open Go.RowKit Rg Bl Re Wl Dsk Fm Vw
namespace Rp
theorem RDownL.down {d : DiskD} {most : Int} {R S os1 : List OneD} {N : Nat} (h : RDownL d most R os1 N) (hS : ∀ j, j ≤ os1.length → toldR R (os1.take j) = R ∨ toldR R (os1.take j) = S) : RDown d most R S N := by
 obtain ⟨hd, base, M, c, os, s, h1, h2, h3, h4, h5, h6⟩ := h
 refine ⟨hd, base, M, c, os ++ os1, s, h1, h2, h3, h4, fun t t1 t2 => ?_⟩
 obtain ⟨j, hj, e⟩ := tells_app (os1 := os1) h5 h6 t1 t2
 rw [e]
 exact hS j hj
theorem recsL_map_len {L : List FS} {os : List OneD} (h : recsL L = os.map recO) : (recsL L).length = os.length := by rw [h, List.length_map]
def CompPost (B : Nat) (w0 W0 : World) (X0 E0 : Nat → Prop) (gr gl gd bm : Nat) (most : Int) (L : List FS) (R : List OneD) (N : Nat) (d : DiskD) (z : Int → Prop) (e : Ending) (w' : World) : Prop :=
 ∃ (k : Int) (d' : DiskD) (L' : List FS), e = .returned (.int .i64 k) ∧ Rm d d' z k ∧
   ((k = 0 ∧ RepS B w0 W0 X0 E0 gr gl gd bm d' most L' R false (N + R.length) w' ∧ RUp d' most L' R (N + R.length) ∧ R.length ≤ (recsL L').length ∧ (recsL L').length ≤ R.length + (recsL L).length) ∨
    (k = 9 ∧ RepS B w0 W0 X0 E0 gr gl gd bm d' most L' R false (N + R.length) w' ∧ RUp d' most L' R (N + R.length)) ∨
    (k = 10 ∧ RepS B w0 W0 X0 E0 gr gl gd bm d' most L' R true (N + R.length) w' ∧ RDown d' most R R (N + R.length)))
section
variable {B : Nat} {w0 w w' : World} {gr gl gd bm : Nat} {X F E : Nat → Prop} {d d' : DiskD} {most : Int} {L L' : List FS} {R R' : List OneD} {dn dn' : Bool} {N N' : Nat}
theorem RepS.trans {W1 W2 : World} (hb : Below w.heap.size w W1) (hS : RepS B w0 W1 X E gr gl gd bm d most L R dn N W2) : RepS B w0 w X E gr gl gd bm d most L R dn N W2 := by
 obtain ⟨X5, F5, E5, r1, r2, r3, r4, r5, r6⟩ := hS
 have hz := hb.size
 refine ⟨X5, F5, E5, r1, (Tn.of_below hb).trans r2 (fun q hq => .inl hq), fun q hq => ?_, r4, fun q hq => ?_, r6⟩
 ·rcases r3 q hq with h1 | h1
  ·exact .inl h1
  ·right; omega
 ·rcases r5 q hq with h1 | h1
  ·exact .inl h1
  ·right; omega
set_option maxRecDepth 100000 in
set_option maxHeartbeats 8000000 in
theorem compact_dn (h : RepB B w0 w gr gl gd bm X F E d most L R dn N) (hd : dn = true ∨ d.down = true) :
  Calls Tryz.prog 16 #[.pointer (some ⟨gr, 0, none⟩)] w (fun e w' => e = .returned (.int .i64 10) ∧ RepS B w0 w X E gr gl gd bm d most L R true N w') := by
 have HD := hid_ hd
 have H := hid_ h
 have HNo := hid_ (rnone_any h)
 have HUp := hid_ (up_any h)
 clear h hd
 go_enter Tryz.func16, Tryz.ntmps16
 go_wp2_with fail
 (with_reducible refine Calls.mono HNo.out ?_)
 rintro e w1 ⟨rfl, rfl⟩
 go_wp2_with fail
 (with_reducible refine Calls.mono HUp.out ?_)
 rintro e w1 (⟨h8, h9, -⟩ | ⟨-, rfl, rfl⟩)
 ·exact absurd HD.out (by rw [h8, h9]; simp)
 ·go_wp2_with fail
  go_ret
  have h9 := H.out.noted true
  exact ⟨rfl, X, F, E, h9.1, h9.2, fun q hq => .inl hq, fun q hq => hq, fun q hq => .inl hq, fun q hq => hq⟩
end
end Rp
end Go.Proofs.YthjhofmjhmnddaaGreat
/-
 Appends as steps of a region that draws its order; small rows that stay where others grow.
-/
namespace Go.Proofs.YthjhofmjhmnddaaGreat
open Go.RowKit
namespace Enc
variable {α : Type} {E : Enc α} {e : TypeId}
theorem step_rows {w : World} {ops : Array Oper} {o : Oper} {a : Act} {K : Act → World → Prop} {Q : Exit → Act → World → Prop} {F : Prop} (hgd : Region.wanted o (yielded ops a.tmps) = true) (s x : Operand) (t : TypeId)
  (ho : o.op = .call { callee := .builtin .append, args := #[s, x], argTypes := #[t, t] })
  (z : Value) (by_ : Nat) (ht : Tryz.prog.underlying t = some (.slice e)) (hinfo : (Tryz.prog.info? e).map (fun i => (i.zero, i.size, i.bytes)) = some (some z, E.K, by_)) (hz : z.cells.size = E.K)
  (B : Nat) (A0 : Option Addr) (n0 c0 : Nat) (l0 : List α) (hs : a.eval s = .slice A0 n0 c0) (hown : E.Own e B w A0 n0 c0 l0)
  (A : Option Addr) (m c : Nat) (l : List α) (hx : a.eval x = .slice A m c) (hl : E.Row w A m c l)
  (N : Nat) (ys : List α) (hN : n0 + m = N) (hys : l0 ++ l = ys) (hroom : N * by_ ≤ 140737488355328) (hlen : N ≤ 1000000000000) (hB : B ≤ w.heap.size)
  (h : ∀ A' c' w', E.Own e B w' A' N c' ys → Below B w w' → w.grownBy w' (Value.slice A0 n0 c0).ownBlock → K (a.put o.dst (.slice A' N c')) w') :
  if Region.wanted o (yielded ops a.tmps) = true then Oper.wp Tryz.prog o a w K Q else F := by
 subst hys
 rw [if_pos hgd]
 obtain ⟨i0, hi0, hz0, hz1, hz2⟩ := info_parts hinfo
 obtain ⟨A', c', w', hrun, h2, h3, _⟩ := run_app (P := Tryz.prog) w B t o.type e i0 _ E.K by_ ht hi0 hz0 hz1 hz2 hz E.pos (.slice A0 n0 c0) n0 (E.all l0) hown A m c (E.all l)
  (by rw [all_length, hl.len]) hl.holds hl.nil (E.all_one l) N (E.all (l0 ++ l)) hN (E.all_append l0 l).symm (by unfold maxLen; omega) hroom hB
 unfold Oper.wp execOp
 simp only [ho, resolve, invoke, builtin, Sem.run_bind, Sem.run_pure, Result.andThen_ok, List.map_toArray, List.map_cons, List.map_nil, hs, hx, hrun]
 exact h A' c' w' h2 ((Below.refl B w).grown h3 hB (own_from hown)) h3
theorem own_empty (w : World) (T : TypeId) (hT : T = e) (B : Nat) (hB : B ≤ w.heap.size) : E.Own e B (w.alloc (.cells #[] T)) (some ⟨w.heap.size, 0, .none⟩) 0 0 [] := by
 subst hT
 exact own_litK w [] #[] rfl 0 rfl (by rw [Nat.zero_mul]; omega) B hB
theorem own_empty_at (w : World) (g : Nat) (T : TypeId) (hT : T = e) (B : Nat) (hB : B ≤ w.heap.size) (h : g = w.heap.size) : E.Own e B (w.alloc (.cells #[] T)) (some ⟨g, 0, .none⟩) 0 0 [] := by
 subst h
 exact own_empty w T hT B hB
theorem Own.alloc {B : Nat} {w : World} {A : Option Addr} {n c : Nat} {l : List α} (h : E.Own e B w A n c l) (o : Obj) : E.Own e B (w.alloc o) A n c l := h.later ((Below.refl _ _).alloc (Nat.le_refl _) o)
theorem Row.place {w : World} {A A' : Option Addr} {n c c' : Nat} {ss : List α} (h : E.Row w A n c ss) (e1 : A = A') (e2 : c = c') : E.Row w A' n c' ss := by subst e1 e2; exact h
theorem lit_kept {W W' : World} {gl : Nat} {s : α} {row : Option Nat} (h : E.Row W (some ⟨gl, 0, .none⟩) 1 1 [s]) (hg : W.grownBy W' row) (hne : some gl ≠ row) : E.Row W' (some ⟨gl, 0, .none⟩) 1 1 [s] := by
 refine ⟨fun hx => ?_, rfl, Nat.le_refl _, by omega, fun e => by cases e⟩
 obtain ⟨b, off, e, hc⟩ := h.holds hx
 cases e
 refine ⟨gl, 0, rfl, fun k u hu => ?_⟩
 have h1 := hc k u hu
 rw [World.cell?_of_block (hg.block gl (lt_of_cell h1) hne)]
 exact h1
end Enc
end Go.Proofs.YthjhofmjhmnddaaGreat
/-
 Registers of traces as the document has them: rows of them, which are the same, a replica's.
-/
namespace Go.Proofs.YthjhofmjhmnddaaGreat
open Go.RowKit Rg Bl Re Wl Dsk Fm Vw
attribute [local go_sem ↓] Go.wp_at_zero Go.wp_at_succ
namespace Rp
def cfO (o : OneD) : List Value := [.int .u64 (o.trace : Nat), .int .u64 (o.r.p.pos : Nat), .int .u64 (o.r.p.id : Nat), .int .u64 (o.r.t.pos : Nat), .int .u64 (o.r.t.id : Nat), .int .i64 o.r.v]
def oneE : Enc OneD := ⟨cfO, 6, fun _ => rfl, by decide, fun p u hu => by
 simp [cfO] at hu
 rcases hu with rfl | rfl | rfl | rfl | rfl | rfl <;> rfl⟩
abbrev oneVal (o : OneD) : Value := .agg #[.int .u64 (o.trace : Nat), .int .u64 (o.r.p.pos : Nat), .int .u64 (o.r.p.id : Nat), .int .u64 (o.r.t.pos : Nat), .int .u64 (o.r.t.id : Nat), .int .i64 o.r.v]
theorem info_one : (Tryz.prog.info? 118).map (fun i => (i.zero, i.size, i.bytes)) = some (some (.agg #[.int .u64 0, .int .u64 0, .int .u64 0, .int .u64 0, .int .u64 0, .int .i64 0]), oneE.K, 48) := by kernel_rfl
abbrev OwnO := oneE.Own 118
def sameO (a b : OneD) : Bool := decide (a.trace = b.trace) && sameR a.r b.r
theorem sameO_iff (a b : OneD) : sameO a b = true ↔ a = b := by
 obtain ⟨t, r⟩ := a
 obtain ⟨u, s⟩ := b
 unfold sameO
 rw [Bool.and_eq_true, decide_eq_true_eq, sameR_iff]
 constructor
 ·rintro ⟨rfl, rfl⟩; rfl
 ·intro h; injection h with h1 h2; exact ⟨h1, h2⟩
theorem sameOs_iff : ∀ a b : List OneD, eqF sameO a b = true ↔ a = b
 | [], [] => by simp [eqF]
 | [], _ :: _ => by simp [eqF]
 | _ :: _, [] => by simp [eqF]
 | a :: l, b :: m => by
   rw [eqF, Bool.and_eq_true, sameO_iff, sameOs_iff l m, List.cons.injEq]
theorem sameOs_self (a : List OneD) : eqF sameO a a = true := (sameOs_iff a a).2 rfl
set_option maxRecDepth 100000 in
theorem one_equalIn (a b : OneD) (w : World) : (Op.equalIn 10000 118 (oneVal a) (oneVal b)).run Tryz.prog w = .ok (sameO a b) w := by
 rw [run_equalIn_agg w 9999 118 _ _ (by kernel_rfl) (by kernel_rfl)]
 simp [Program.fieldsOf, Tryz.underlying118, Tryz.underlying64, Tryz.underlying35, Op.eqFields, part, go_sem]
 simp only [Int.ofNat_inj]
 unfold sameO sameR sameB
 repeat' split
 all_goals simp_all
theorem one_neq (a b : OneD) (w : World) : (binOp .neq 118 (oneVal a) (oneVal b)).run Tryz.prog w = .ok (.bool (!sameO a b)) w := by
 rw [run_neq_struct, one_equalIn]
 rfl
abbrev C6 (W : World) (b off : Nat) (o : OneD) : Prop := W.cell? ⟨b, off, none⟩ = some (.int .u64 (o.trace : Nat)) ∧ W.cell? ⟨b, off + 1, none⟩ = some (.int .u64 (o.r.p.pos : Nat)) ∧ W.cell? ⟨b, off + 2, none⟩ = some (.int .u64 (o.r.p.id : Nat)) ∧ W.cell? ⟨b, off + 3, none⟩ = some (.int .u64 (o.r.t.pos : Nat)) ∧ W.cell? ⟨b, off + 4, none⟩ = some (.int .u64 (o.r.t.id : Nat)) ∧ W.cell? ⟨b, off + 5, none⟩ = some (.int .i64 o.r.v)
theorem one_at {w : World} {A : Option Addr} {n c : Nat} {l : List OneD} (h : oneE.Row w A n c l) {k : Nat} (hk : k < l.length) : ∃ b off, A = some ⟨b, off, none⟩ ∧ C6 w b (off + k * 6) l[k] := by
 obtain ⟨b, off, e, -, h1⟩ := h.at_ hk
 exact ⟨b, off, e, h1 0 _ rfl, h1 1 _ rfl, h1 2 _ rfl, h1 3 _ rfl, h1 4 _ rfl, h1 5 _ rfl⟩
set_option maxRecDepth 20000 in
set_option maxHeartbeats 4000000 in
theorem onesame_any (A A' : Option Addr) (n n' c c' : Nat) (ss ts : List OneD) (w : World) (h1 : oneE.Row w A n c ss) (h2 : oneE.Row w A' n' c' ts) :
  Calls Tryz.prog 17 #[.slice A n c, .slice A' n' c'] w (RetB w.heap.size w (.bool (eqF sameO ss ts))) := by
 obtain rfl := h1.len
 obtain rfl := h2.len
 have hle := Nat.le_trans h1.cap h1.max
 have hle2 := Nat.le_trans h2.cap h2.max
 have H1 := hid_ h1
 have H2 := hid_ h2
 clear h1 h2
 by_cases hl : ss.length = ts.length
 rotate_left
 ·have Hf := hid_ (eqF_len sameO ss ts hl)
  have e1 : ((ss.length : Int) != (ts.length : Int)) = true := by rw [bne_iff_ne]; omega
  clear hl
  go_enter Tryz.func17, Tryz.ntmps17
  go_wp2_with fail
  go_ret
  exact retB_mk (by rw [Hf.out]; rfl) (Below.refl _ _)
 have e1 : ((ss.length : Int) != (ts.length : Int)) = false := by rw [bne_eq_false_iff_eq]; omega
 have Hl := hid_ hl
 have kn := fun (a b : OneD) (w : World) => one_neq a b w
 have hl1 : ss.length ≤ ts.length := by omega
 have hl2 : ts.length ≤ ss.length := by omega
 clear hl
 go_enter Tryz.func17, Tryz.ntmps17
 go_wp2_with fail
 go_loopw [5] (fun vi wr => ∃ k : Nat, k ≤ ss.length ∧ vi = .int .i64 (k : Nat) ∧ Hid (∀ j (hj : j < ss.length) (hj2 : j < ts.length), j < k → sameO ss[j] ts[j] = true) ∧ Hid (Below w.heap.size w wr)) (fun vi _ => ss.length - (intOf vi).toNat)
 case atStart => exact ⟨0, Nat.zero_le _, rfl, hid_ (fun j _ _ h => absurd h (by omega)), hid_ (Below.refl _ _)⟩
 case round =>
  obtain ⟨k, hk, rfl, Hg, Hw⟩ := hrel
  by_cases hlt : k < ss.length
  ·have hlt2 : k < ts.length := by omega
   obtain ⟨b, off, rfl, a0, a1, a2, a3, a4, a5⟩ := one_at (H1.out.below Hw.out) hlt
   obtain ⟨b', off', rfl, d0, d1, d2, d3, d4, d5⟩ := one_at (H2.out.below Hw.out) hlt2
   have x1 : (k : Int) < (ss.length : Int) := by omega
   have x3 : (k : Int) < (ts.length : Int) := by omega
   have x2 : (0 : Int) ≤ (k : Int) := by omega
   have Hn := hid_ (fun (h : sameO ss[k] ts[k] = true) => show ∀ j (hj : j < ss.length) (hj2 : j < ts.length), j < k + 1 → sameO ss[j] ts[j] = true from fun j hj hj2 h2 => by
    by_cases e : j = k
    ·subst e; exact h
    ·exact Hg.out j hj hj2 (by omega))
   have Hb := hid_ (fun (h : sameO ss[k] ts[k] = false) => eqF_bad sameO ss ts k hlt hlt2 h)
   generalize ss[k] = s at *
   generalize ts[k] = t at *
   have kq := fun w => kn s t w
   cases hq : sameO s t
   ·have Hf := hid_ (Hb.out hq)
    rw [hq] at kq
    clear hq Hn Hb kn
    go_wp2_with fail
    go_quiet (fail)
    go_wp2_with fail
    go_ret
    exact retB_mk (by rw [Hf.out]; rfl) (below_drewN Hw.out _)
   ·have Hn2 := hid_ (Hn.out hq)
    rw [hq] at kq
    clear hq Hn Hb kn
    go_wp2_with fail
    go_quiet (fail)
    go_wp2_with fail
    go_roundw
    case rel => exact ⟨k + 1, by omega, by go_num, Hn2, hid_ (below_drewN Hw.out _)⟩
    case measure => simp [intOf] <;> omega
  ·obtain rfl : k = ss.length := by omega
   have Hf := hid_ (eqF_good sameO ss ts Hl.out fun j hj hj2 => Hg.out j hj hj2 hj)
   go_wp2_with fail
   go_ret
   exact retB_mk (by rw [Hf.out]; rfl) Hw.out
theorem one_new_at (w : World) (g : Nat) (o : OneD) (T : TypeId) (h : g = w.heap.size) : oneE.Row (w.alloc (.cells #[.int .u64 (o.trace : Nat), .int .u64 (o.r.p.pos : Nat), .int .u64 (o.r.p.id : Nat), .int .u64 (o.r.t.pos : Nat), .int .u64 (o.r.t.id : Nat), .int .i64 o.r.v] T)) (some ⟨g, 0, none⟩) 1 1 [o] := by
 subst h
 exact Enc.row_new (E := oneE) w o _ rfl T
abbrev NumOne (w1 : World) (g o x : Nat) (W : World) : Prop := Below w1.heap.size w1 W ∧ W.cell? ⟨g, o, none⟩ = some (.int .u64 (x : Nat))
theorem numOne_of {w1 W : World} {g o x : Nat} (h : NumOne w1 g o x w1) (hb : Below w1.heap.size w1 W) : NumOne w1 g o x W := ⟨hb, by rw [hb.cell (lt_of_cell h.2)]; exact h.2⟩
theorem row_tn {α : Type} {E : Enc α} {w w' : World} {Q : Nat → Prop} {A : Option Addr} {n c : Nat} {ss : List α} (h : E.Row w A n c ss) (t : Tn Q w w') (hA : ∀ a, A = some a → ss ≠ [] → ¬ Q a.block) : E.Row w' A n c ss := by
 refine ⟨fun hne => ?_, h.len, h.cap, h.max, h.nil⟩
 obtain ⟨b, off, e, hc⟩ := h.holds hne
 refine ⟨b, off, e, fun k u hu => ?_⟩
 have h1 := hc k u hu
 have hss : ss ≠ [] := by rintro rfl; exact hne rfl
 have hk := t.block b (lt_of_cell h1) (hA _ e hss)
 rw [World.cell?_of_block hk]
 exact h1
theorem cells11 {w : World} {g : Nat} {T : TypeId} {a0 a1 a2 a3 a4 a5 a6 a7 a8 a9 a10 : Value} (h : Whole w g T #[a0, a1, a2, a3, a4, a5, a6, a7, a8, a9, a10]) : w.cell? ⟨g, 0, none⟩ = some a0 ∧ w.cell? ⟨g, 1, none⟩ = some a1 ∧ w.cell? ⟨g, 2, none⟩ = some a2 ∧ w.cell? ⟨g, 3, none⟩ = some a3 ∧ w.cell? ⟨g, 4, none⟩ = some a4 ∧ w.cell? ⟨g, 5, none⟩ = some a5 ∧ w.cell? ⟨g, 6, none⟩ = some a6 ∧ w.cell? ⟨g, 7, none⟩ = some a7 ∧ w.cell? ⟨g, 8, none⟩ = some a8 ∧ w.cell? ⟨g, 9, none⟩ = some a9 ∧ w.cell? ⟨g, 10, none⟩ = some a10 := ⟨h.cell 0 _ rfl, h.cell 1 _ rfl, h.cell 2 _ rfl, h.cell 3 _ rfl, h.cell 4 _ rfl, h.cell 5 _ rfl, h.cell 6 _ rfl, h.cell 7 _ rfl, h.cell 8 _ rfl, h.cell 9 _ rfl, h.cell 10 _ rfl⟩
def AllPost (w : World) (R : List OneD) (e : Ending) (w' : World) : Prop := ∃ A c, e = .returned (.slice A R.length c) ∧ oneE.Row w' A R.length c R ∧ (∀ a, A = some a → R ≠ [] → w.heap.size ≤ a.block) ∧ Below w.heap.size w w'
section
variable {B : Nat} {w0 w w' : World} {gr gl gd bm : Nat} {X F E : Nat → Prop} {d d' : DiskD} {most : Int} {L L' : List FS} {R R' : List OneD} {dn dn' : Bool} {N N' : Nat}
set_option maxRecDepth 100000 in
set_option maxHeartbeats 8000000 in
theorem all_any (h : RepB B w0 w gr gl gd bm X F E d most L R dn N) (hR : Rise R) (hz : NonZ R) (hok : ∀ o ∈ R, o.Ok) (hM : R.length ≤ Ns.maxR) : Calls Tryz.prog 18 #[.pointer (some ⟨gr, 0, none⟩)] w (AllPost w R) := by
 have H := hid_ h
 have HT := hid_ (traces_any h hR hz hM)
 have hN := Nat.le_trans hM Ns.maxR_le
 have HR := hid_ (And.intro hR hok)
 clear h hR hz hok
 go_enter Tryz.func18, Tryz.ntmps18
 go_wp2_with fail
 (with_reducible refine Calls.mono HT.out ?_)
 rintro e w1 ⟨A, c, rfl, hrow, -, hb1⟩
 have HB1 := hid_ hb1
 have HRow := hid_ hrow
 have hcp := hrow.cap
 have hmx := hrow.max
 have H1 := hid_ (H.out.later hb1)
 clear hb1 hrow HT
 go_wp2_with fail
 have hRi : (R.length : Int) ≤ 1000000 := by omega
 go_loopw [3, 5] (fun vo vi wr => ∃ (i : Nat) (A4 : Option Addr) (c4 : Nat), i ≤ R.length ∧ vi = .int .i64 (i : Nat) ∧ vo = .slice A4 i c4 ∧ Hid (OwnO w1.heap.size wr A4 i c4 (R.take i)) ∧ Hid (Below w1.heap.size w1 wr)) (fun _ vi _ => R.length - (intOf vi).toNat)
 case atStart => exact ⟨0, none, 0, Nat.zero_le _, rfl, rfl, hid_ (Enc.Own.none _ _), hid_ (Below.refl _ _)⟩
 case round =>
  obtain ⟨i, A4, c4, hi, rfl, rfl, HO, HB⟩ := hrel
  by_cases hlt : i < R.length
  ·obtain ⟨b, off, hA, hc⟩ := numT_at (HRow.out.below HB.out) (k := i) (by rw [List.length_map]; exact hlt)
   rw [List.getElem_map] at hc
   subst hA
   obtain ⟨b', off', hA', hc1⟩ := numT_at HRow.out (k := i) (by rw [List.length_map]; exact hlt)
   cases hA'
   rw [List.getElem_map] at hc1
   have Hr := hid_ (H1.out.later HB.out)
   have hg := get_mem HR.out.1 (List.getElem_mem hlt)
   have ht1 := (HR.out.2 _ (List.getElem_mem hlt)).t1
   have HTk := hid_ (show R.take i ++ [R[i]] = R.take (i + 1) from (List.take_succ_eq_append_getElem hlt).symm)
   have HRg := hid_ (fun (W : World) (hb : Below wr.heap.size wr W) => reg_any (Hr.out.later hb) (t := R[i].trace) ht1)
   rw [hg] at HRg
   have HK := hid_ hlt
   generalize R[i] = o at *
   have HBk := hid_ (fun (W : World) => back_any o.r W)
   have x1 : (i : Int) < (R.length : Int) := by omega
   have x2 : (0 : Int) ≤ (i : Int) := by omega
   have S0 : NumOne w1 b (off + i) o.trace w1 := ⟨Below.refl _ _, hc1⟩
   have HS0 := hid_ S0
   have HBr := hid_ (Below.refl wr.heap.size wr)
   have SW : NumOne w1 b (off + i) o.trace wr := numOne_of S0 HB.out
   have hnb : i + 1 ≤ 1000001 := by omega
   have HRz := hid_ (show (i + 1) * 48 ≤ 140737488355328 ∧ i + 1 ≤ 1000000000000 by omega)
   clear hlt hi hg ht1
   go_wp2_with fail
   go_region_held3 (NumOne w1 b (off + i) o.trace) (first | (with_reducible assumption) | (with_reducible exact numOne_of HS0.out (chain0 HB.out hcb)) | (with_reducible exact numOne_of HS0.out (Below.alloc (chain0 HB.out hcb) (Below.size (chain0 HB.out hcb)) _)) | (with_reducible exact numOne_of HS0.out h6) | (with_reducible exact numOne_of HS0.out (Below.drew HB.out)) | fail)
    (first
    | (go_at_call 19; (first | (with_reducible refine Calls.mono (HRg.out _ HBr.out) ?_) | (with_reducible refine Calls.mono (HRg.out _ (Below.drew HBr.out)) ?_)); rintro e w' ⟨rfl, hcn⟩; (first | (with_reducible have hcb := chain0 HBr.out hcn) | (with_reducible have hcb := chainD HBr.out hcn)))
    | (go_at_call 24; (with_reducible refine Calls.mono (HBk.out _) ?_); rintro e w' ⟨rfl, hcn⟩; (first | (with_reducible have hcb := chain0 hcb hcn) | (with_reducible have hcb := chainD hcb hcn)))
    | (refine Enc.step_rows (E := oneE) (e := 118) (by rfl) (.tmp 14) (.tmp 27) 32 (by rfl) _ 48 Tryz.underlying32 info_one rfl w1.heap.size A4 i c4 (R.take i) (by rfl) ?_ _ 1 1 [o] (by rfl) ?_ (i + 1) (R.take (i + 1)) (by rfl) HTk.out HRz.out.1 HRz.out.2 ?_ ?_; (exact (HO.out.later hcb).alloc _); (exact one_new_at _ _ o _ rfl); (exact Below.size (Below.alloc (chain0 HB.out hcb) (Below.size (chain0 HB.out hcb)) _)); (intro A6 c6 w6 ho6 hb6 hg6; have h6 := (Below.alloc (chain0 HB.out hcb) (Below.size (chain0 HB.out hcb)) _).trans hb6))
    | fail)
   all_goals
    have HO6 := hid_ ho6
    have HB6 := hid_ h6
    clear ho6 hb6 hg6 h6 hcb hcn
    go_wp2_with fail
    go_roundw
   case rel => exact ⟨i + 1, A6, c6, by have := HK.out; omega, by go_num, rfl, HO6, HB6⟩
   case measure => have := HK.out; simp [intOf]; omega
  ·obtain rfl : i = R.length := by omega
   have HO2 := hid_ (show OwnO w1.heap.size wr A4 R.length c4 R by have := HO.out; rwa [List.take_length] at this)
   have x1 : ¬ (R.length : Int) < (R.length : Int) := by omega
   clear hlt hi
   go_wp2_with fail
   go_ret
   exact ⟨A4, c4, rfl, HO2.out.row, fun a ea hne => by
    obtain ⟨g, eg, hg, -⟩ := HO2.out.place (List.length_pos_iff.2 hne)
    rw [ea] at eg
    injection eg with eg
    rw [eg]
    exact Nat.le_trans HB1.out.size hg, HB1.out.trans (HB.out.mono HB1.out.size)⟩
end
end Rp
end Go.Proofs.YthjhofmjhmnddaaGreat
