/-
  A replica and its disk in a law's hands.
-/
import Derived.Test.YthjhofmjhmnddaaGreatMGAB
import Derived.Test.YthjhofmjhmnddaaGreatMGAP
import Derived.Test.YthjhofmjhmnddaaGreatMGBE
import Derived.Test.YthjhofmjhmnddaaGreatMGBL
import Derived.Test.YthjhofmjhmnddaaGreatMGDF
import Derived.Test.YthjhofmjhmnddaaGreatMGDG
set_option linter.unusedSimpArgs false
set_option linter.unusedVariables false
namespace Go.Proofs.YthjhofmjhmnddaaGreat
open Go.RowKit Rg Bl Re Wl Dsk Fm Vw
namespace Rp
structure Mv (X E : Nat → Prop) (w : World) (X' E' : Nat → Prop) (w' : World) : Prop where
 tn : Tn E w w'
 e1 : ∀ q, E' q → E q ∨ w.heap.size ≤ q
 x2 : ∀ q, X q → X' q
 x1 : ∀ q, X' q → X q ∨ w.heap.size ≤ q
 e2 : ∀ q, E q → E' q
theorem Mv.refl (X E : Nat → Prop) (w : World) : Mv X E w X E w := ⟨Tn.refl _ _, fun _ h => .inl h, fun _ h => h, fun _ h => .inl h, fun _ h => h⟩
theorem Mv.trans {X E X1 E1 X2 E2 : Nat → Prop} {w w1 w2 : World} (h : Mv X E w X1 E1 w1) (k : Mv X1 E1 w1 X2 E2 w2) : Mv X E w X2 E2 w2 := by
 have hz := h.tn.size
 refine ⟨h.tn.trans k.tn h.e1, fun q hq => ?_, fun q hq => k.x2 q (h.x2 q hq), fun q hq => ?_, fun q hq => k.e2 q (h.e2 q hq)⟩
 ·rcases k.e1 q hq with h1 | h1
  ·exact h.e1 q h1
  ·right; omega
 ·rcases k.x1 q hq with h1 | h1
  ·exact h.x1 q h1
  ·right; omega
theorem Mv.later {X E X1 E1 : Nat → Prop} {w w1 w2 : World} (h : Mv X E w X1 E1 w1) (k : Below w1.heap.size w1 w2) : Mv X E w X1 E1 w2 := ⟨h.tn.then_below k, h.e1, h.x2, h.x1, h.e2⟩
theorem Mv.of_below {X E : Nat → Prop} {w w1 : World} (k : Below w.heap.size w w1) : Mv X E w X E w1 := (Mv.refl X E w).later k
structure RpU (wa w : World) (gr gd : Nat) (X E : Nat → Prop) (d : DiskD) (most : Int) (L : List FS) (R : List OneD) (N : Nat) : Prop where
 rep : ∃ gl bm F, RepB wa.heap.size wa w gr gl gd bm X F E d most L R false N
 up : RUp d most L R N
structure RpD (wa w : World) (gr gd : Nat) (X E : Nat → Prop) (d : DiskD) (most : Int) (R S : List OneD) (N : Nat) : Prop where
 rep : ∃ gl bm F L, RepB wa.heap.size wa w gr gl gd bm X F E d most L R true N
 down : RDown d most R S N
 fa : Rise R ∧ NonZ R ∧ (∀ o ∈ R, o.Ok) ∧ R.length ≤ 1000000
section
variable {wa w w' : World} {gr gd : Nat} {X E X' E' : Nat → Prop} {d d' : DiskD} {most : Int} {L L' : List FS} {R R' S : List OneD} {N N' : Nat}
theorem RUp.len (h : RUp d most L R N) : R.length ≤ 1000000 := by
 have hr := h.recs_len
 obtain ⟨base, hl, -⟩ := h.logok
 have hb := hl.big
 obtain ⟨base, c, os, s, h1, h2, h3, h4, h5, h6, h7, h8⟩ := h
 have e := h7 os.length h6 (Nat.le_refl _)
 rw [List.take_length] at e
 have := told_len [] os
 rw [e] at this
 have := recsL_map_len h4
 simp at *
 omega
theorem RpU.later (h : RpU wa w gr gd X E d most L R N) (k : Below w.heap.size w w') : RpU wa w' gr gd X E d most L R N := by
 obtain ⟨gl, bm, F, h1⟩ := h.rep
 exact ⟨⟨gl, bm, F, h1.later k⟩, h.up⟩
theorem RpD.later (h : RpD wa w gr gd X E d most R S N) (k : Below w.heap.size w w') : RpD wa w' gr gd X E d most R S N := by
 obtain ⟨gl, bm, F, L, h1⟩ := h.rep
 exact ⟨⟨gl, bm, F, L, h1.later k⟩, h.down, h.fa⟩
theorem RpU.below (h : RpU wa w gr gd X E d most L R N) : Below wa.heap.size wa w := by
 obtain ⟨gl, bm, F, h1⟩ := h.rep
 exact h1.lg.below
theorem RpD.below (h : RpD wa w gr gd X E d most R S N) : Below wa.heap.size wa w := by
 obtain ⟨gl, bm, F, L, h1⟩ := h.rep
 exact h1.lg.below
theorem RpU.elt (h : RpU wa w gr gd X E d most L R N) : ∀ q, E q → q < w.heap.size ∧ wa.heap.size ≤ q := by
 obtain ⟨gl, bm, F, h1⟩ := h.rep
 exact fun q hq => ⟨h1.elt q hq, h1.own q hq⟩
theorem up_of {gl bm : Nat} (h : RepS wa.heap.size wa w X E gr gl gd bm d' most L' R' false N' w') (hu : RUp d' most L' R' N') : ∃ X' E', Mv X E w X' E' w' ∧ RpU wa w' gr gd X' E' d' most L' R' N' := by
 obtain ⟨X', F', E', k, k1, k2, k3, k4, k5⟩ := h
 exact ⟨X', E', ⟨k1, k2, k3, k4, k5⟩, ⟨_, _, _, k⟩, hu⟩
theorem down_of {gl bm : Nat} (h : RepS wa.heap.size wa w X E gr gl gd bm d' most L' R true N' w') (hu : RDown d' most R S N') (fa : Rise R ∧ NonZ R ∧ (∀ o ∈ R, o.Ok) ∧ R.length ≤ 1000000) : ∃ X' E', Mv X E w X' E' w' ∧ RpD wa w' gr gd X' E' d' most R S N' := by
 obtain ⟨X', F', E', k, k1, k2, k3, k4, k5⟩ := h
 exact ⟨X', E', ⟨k1, k2, k3, k4, k5⟩, ⟨_, _, _, _, k⟩, hu, fa⟩
def HandL (wa w : World) (gr gd : Nat) (X E : Nat → Prop) (d : DiskD) (most : Int) (L : List FS) (R : List OneD) (p : PackD) (N : Nat) (e : Ending) (w' : World) : Prop :=
 ∃ (k : Int) (q : PackD) (X' E' : Nat → Prop) (d' : DiskD) (L' : List FS), e = .returned (.tuple #[packVal q noS, .int .i64 k]) ∧ Mv X E w X' E' w' ∧ d'.room = d.room ∧ d'.armed = d.armed ∧ (d.armed = false → k ≠ 10) ∧ (askP p = true → k = if sameR (handX R p) (getR R p.trace) then 0 else (appendL d most L (recO ⟨p.trace, handX R p⟩)).1) ∧
  ((k = 6 ∧ askP p = false ∧ q = zeroP ∧ d' = d ∧ RpU wa w' gr gd X' E' d' most L' R (N + 2)) ∨
   (k = 0 ∧ askP p = true ∧ q = ansR R p ∧ RpU wa w' gr gd X' E' d' most L' (nextR R p) (N + 2)) ∨
   (k = 9 ∧ askP p = true ∧ q = zeroP ∧ RpU wa w' gr gd X' E' d' most L' R (N + 2)) ∨
   (k = 10 ∧ askP p = true ∧ q = zeroP ∧ nextR R p = putR R p.trace (handX R p) ∧ RpD wa w' gr gd X' E' d' most R (nextR R p) (N + 2)))
theorem RpU.handle (h : RpU wa w gr gd X E d most L R N) (p : PackD) (s : PackS) (hp : PackIn w p s) (hw : p.Wf) (hm : p.spans.length ≤ 1000 ∧ p.members.length ≤ 1000 ∧ p.ids.length ≤ 1000) (hN : N + 2 ≤ 1000000) :
  Calls Tryz.prog 13 #[.pointer (some ⟨gr, 0, none⟩), packVal p s] w (HandL wa w gr gd X E d most L R p N) := by
 obtain ⟨gl, bm, F, h1⟩ := h.rep
 have hu := h.up
 have hfa := hu.facts
 have hlen := hu.len
 rcases hr : askP p with _ | _
 ·refine Calls.mono (handle_no h1 p s hp hw hm hr) ?_
  rintro e w' ⟨rfl, hb⟩
  exact ⟨6, zeroP, X, E, d, L, rfl, Mv.of_below hb, rfl, rfl, fun _ => by decide, fun h => absurd (hr.symm.trans h) (by decide), .inl ⟨rfl, hr, rfl, rfl, ⟨_, _, _, (h1.later hb).more (by omega)⟩, hu.grow (by omega) hN⟩⟩
 ·refine Calls.mono (handle_up h1 hu p s hp hw hm hr hN (fun k => k = if sameR (handX R p) (getR R p.trace) then 0 else (appendL d most L (recO ⟨p.trace, handX R p⟩)).1) rfl) ?_
  rintro e w' ⟨k, q, d', L', rfl, ⟨m1, m2, m3, m4⟩, hc⟩
  rcases hc with ⟨rfl, rfl, hS, hU⟩ | ⟨rfl, rfl, hS, hU⟩ | ⟨rfl, rfl, hS, hsm, os1, ho, hU⟩
  ·obtain ⟨X', E', mv, hu'⟩ := up_of hS hU
   exact ⟨0, _, X', E', d', L', rfl, mv, m1, m2, m3, fun _ => m4, .inr (.inl ⟨rfl, hr, rfl, hu'⟩)⟩
  ·obtain ⟨X', E', mv, hu'⟩ := up_of hS hU
   exact ⟨9, _, X', E', d', L', rfl, mv, m1, m2, m3, fun _ => m4, .inr (.inr (.inl ⟨rfl, hr, rfl, hu'⟩))⟩
  ·have hnx : nextR R p = putR R p.trace (handX R p) := by
    unfold nextR keepR
    rw [hsm]
    rfl
   obtain ⟨X', E', mv, hu'⟩ := down_of (S := putR R p.trace (handX R p)) hS (hU.down (fun j hj => by
    rcases ho with rfl | rfl
    ·left; rw [List.take_nil]; rfl
    ·rcases j with _ | j
     ·left; rfl
     ·right
      rw [List.take_succ_cons, List.take_nil]
      rfl)) ⟨hfa.1, hfa.2.1, hfa.2.2, hlen⟩
   exact ⟨10, _, X', E', d', L', rfl, mv, m1, m2, m3, fun _ => m4, .inr (.inr (.inr ⟨rfl, hr, rfl, hnx, by rw [hnx]; exact hu'⟩))⟩
theorem RpD.handle (h : RpD wa w gr gd X E d most R S N) (p : PackD) (s : PackS) (hp : PackIn w p s) (hw : p.Wf) (hm : p.spans.length ≤ 1000 ∧ p.members.length ≤ 1000 ∧ p.ids.length ≤ 1000) :
  Calls Tryz.prog 13 #[.pointer (some ⟨gr, 0, none⟩), packVal p s] w (fun e w' => ∃ k X' E', e = .returned (.tuple #[packVal zeroP noS, .int .i64 k]) ∧ k = (if askP p then 10 else 6) ∧ Mv X E w X' E' w' ∧ RpD wa w' gr gd X' E' d most R S N) := by
 obtain ⟨gl, bm, F, L, h1⟩ := h.rep
 rcases hr : askP p with _ | _
 ·refine Calls.mono (handle_no h1 p s hp hw hm hr) ?_
  rintro e w' ⟨rfl, hb⟩
  exact ⟨6, X, E, rfl, rfl, Mv.of_below hb, h.later hb⟩
 ·refine Calls.mono (handle_dn h1 (.inl rfl) p s hp hw hm hr) ?_
  rintro e w' ⟨rfl, hS⟩
  obtain ⟨X', E', mv, hu'⟩ := down_of hS h.down h.fa
  exact ⟨10, X', E', rfl, rfl, mv, hu'⟩
theorem RpU.all (h : RpU wa w gr gd X E d most L R N) (hM : R.length ≤ Ns.maxR) : Calls Tryz.prog 18 #[.pointer (some ⟨gr, 0, none⟩)] w (AllPost w R) := by
 obtain ⟨gl, bm, F, h1⟩ := h.rep
 exact all_any h1 h.up.facts.1 h.up.facts.2.1 h.up.facts.2.2 hM
theorem RpD.all (h : RpD wa w gr gd X E d most R S N) (hM : R.length ≤ Ns.maxR) : Calls Tryz.prog 18 #[.pointer (some ⟨gr, 0, none⟩)] w (AllPost w R) := by
 obtain ⟨gl, bm, F, L, h1⟩ := h.rep
 exact all_any h1 h.fa.1 h.fa.2.1 h.fa.2.2.1 hM
theorem RpU.reg (h : RpU wa w gr gd X E d most L R N) {t : Nat} (ht : t < 18446744073709551616) : Calls Tryz.prog 19 #[.pointer (some ⟨gr, 0, none⟩), .int .u64 (t : Nat)] w (RetB w.heap.size w (regVal (getR R t))) := by
 obtain ⟨gl, bm, F, h1⟩ := h.rep
 exact reg_any h1 ht
theorem RpU.traces (h : RpU wa w gr gd X E d most L R N) (hM : R.length ≤ Ns.maxR) : Calls Tryz.prog 28 #[.pointer (some ⟨gr, 0, none⟩)] w (TrPost w R) := by
 obtain ⟨gl, bm, F, h1⟩ := h.rep
 exact traces_any h1 h.up.facts.1 h.up.facts.2.1 hM
def CompL (wa w : World) (gr gd : Nat) (X E : Nat → Prop) (d : DiskD) (most : Int) (L : List FS) (R : List OneD) (N : Nat) (e : Ending) (w' : World) : Prop :=
 ∃ (k : Int) (X' E' : Nat → Prop) (d' : DiskD) (L' : List FS), e = .returned (.int .i64 k) ∧ Mv X E w X' E' w' ∧ d'.room = d.room ∧ d'.armed = d.armed ∧ (d.armed = false → k ≠ 10) ∧
  ((k = 0 ∧ RpU wa w' gr gd X' E' d' most L' R (N + R.length) ∧ R.length ≤ (recsL L').length ∧ (recsL L').length ≤ R.length + (recsL L).length) ∨
   (k = 9 ∧ RpU wa w' gr gd X' E' d' most L' R (N + R.length)) ∨
   (k = 10 ∧ RpD wa w' gr gd X' E' d' most R R (N + R.length)))
theorem RpD.compact (h : RpD wa w gr gd X E d most R S N) : Calls Tryz.prog 16 #[.pointer (some ⟨gr, 0, none⟩)] w (fun e w' => ∃ X' E', e = .returned (.int .i64 10) ∧ Mv X E w X' E' w' ∧ RpD wa w' gr gd X' E' d most R S N) := by
 obtain ⟨gl, bm, F, L, h1⟩ := h.rep
 refine Calls.mono (compact_dn h1 (.inl rfl)) ?_
 rintro e w' ⟨rfl, hS⟩
 obtain ⟨X', E', mv, hu'⟩ := down_of hS h.down h.fa
 exact ⟨X', E', rfl, mv, hu'⟩
theorem Lay.arm {base c s : Nat} {M : List FS} (h : Lay d most base M c s N) {m : Int} (hm : m ≤ 9223372036854775807) : Lay (armD d m) most base M c s N := ⟨armD_ok h.ok hm, h.shp, h.rest, h.full, h.last, h.s0⟩
theorem RUp.arm (h : RUp d most L R N) {m : Int} (hm : m ≤ 9223372036854775807) : RUp (armD d m) most L R N := by
 obtain ⟨base, c, os, s, h1, h2, h3, h4, h5, h6, h7, h8⟩ := h
 exact ⟨base, c, os, s, Lay.arm h1 hm, h2, h3, h4, h5, h6, h7, h8⟩
theorem RDown.arm (h : RDown d most R S N) {m : Int} (hm : m ≤ 9223372036854775807) : RDown (armD d m) most R S N := by
 obtain ⟨hd, base, M, c, os, s, h1, h2⟩ := h
 exact ⟨hd, base, M, c, os, s, Lay.arm h1 hm, h2⟩
theorem RpU.arm (h : RpU wa w gr gd X E d most L R N) (m : Int) (hm : m ≤ 9223372036854775807) : Calls Tryz.prog 20 #[.pointer (some ⟨gd, 0, none⟩), .int .i64 m] w (fun e w' => ∃ X' E', e = .returned (.tuple #[]) ∧ Mv X E w X' E' w' ∧ RpU wa w' gr gd X' E' (armD d m) most L R N) := by
 obtain ⟨gl, bm, F, h1⟩ := h.rep
 obtain ⟨Qd, Pl, P, g, Af, cf, hlg, hf⟩ := h1.lg.lg
 refine Calls.mono (arm_any m hm gd Qd d w hlg.dk) ?_
 intro e w' k
 obtain ⟨he, Q', q1, q2, q3⟩ := k
 have kp : LgPost w gl gd X F (.tuple #[]) (armD d m) most L e w' := by
  refine ⟨he, _, (hlg.disk q1 q2 q3).upper ((hf.wide (F' := fun q => F q ∨ w.heap.size ≤ q) (fun q hq => .inl hq)).qd (fun q hq => (q3 q hq).imp (hf.d q) id)), q2.sub hf.d, fun q hq => ?_, fun q hq => .inl hq⟩
  rcases hq with h4 | h4
  ·exact .inl h4
  ·rcases q3 q h4 with h5 | h5
   ·exact .inl (hlg.dx q h5)
   ·exact .inr h5
 obtain ⟨rfl, X', F', E', r1, r2, r3, r4, r5, r6⟩ := h1.logged kp
 exact ⟨X', E', rfl, ⟨r2, r3, r4, r5, r6⟩, ⟨_, _, _, r1⟩, h.up.arm hm⟩
theorem RpD.arm (h : RpD wa w gr gd X E d most R S N) (m : Int) (hm : m ≤ 9223372036854775807) : Calls Tryz.prog 20 #[.pointer (some ⟨gd, 0, none⟩), .int .i64 m] w (fun e w' => ∃ X' E', e = .returned (.tuple #[]) ∧ Mv X E w X' E' w' ∧ RpD wa w' gr gd X' E' (armD d m) most R S N) := by
 obtain ⟨gl, bm, F, L, h1⟩ := h.rep
 obtain ⟨Qd, Pl, P, g, Af, cf, hlg, hf⟩ := h1.lg.lg
 refine Calls.mono (arm_any m hm gd Qd d w hlg.dk) ?_
 intro e w' k
 obtain ⟨he, Q', q1, q2, q3⟩ := k
 have kp : LgPost w gl gd X F (.tuple #[]) (armD d m) most L e w' := by
  refine ⟨he, _, (hlg.disk q1 q2 q3).upper ((hf.wide (F' := fun q => F q ∨ w.heap.size ≤ q) (fun q hq => .inl hq)).qd (fun q hq => (q3 q hq).imp (hf.d q) id)), q2.sub hf.d, fun q hq => ?_, fun q hq => .inl hq⟩
  rcases hq with h4 | h4
  ·exact .inl h4
  ·rcases q3 q h4 with h5 | h5
   ·exact .inl (hlg.dx q h5)
   ·exact .inr h5
 obtain ⟨rfl, X', F', E', r1, r2, r3, r4, r5, r6⟩ := h1.logged kp
 exact ⟨X', E', rfl, ⟨r2, r3, r4, r5, r6⟩, ⟨_, _, _, _, r1⟩, h.down.arm hm, h.fa⟩
structure CrD (wa w : World) (gd : Nat) (Q E : Nat → Prop) (w0 : World) (d : DiskD) : Prop where
 dk : DkB wa.heap.size wa w gd Q d
 tn : Tn E w0 w
 q1 : ∀ q, Q q → E q ∨ w0.heap.size ≤ q
theorem CrD.later {Q : Nat → Prop} {w0 : World} (h : CrD wa w gd Q E w0 d) (k : Below w.heap.size w w') : CrD wa w' gd Q E w0 d := ⟨h.dk.later k, h.tn.then_below k, h.q1⟩
theorem crash_rep {gl bm : Nat} {F : Nat → Prop} {dn : Bool} (h : RepB wa.heap.size wa w gr gl gd bm X F E d most L R dn N) (Ak : Option Addr) (nk ck : Nat) (keep : List Int) (hk : Row wa Ak nk ck (intVals keep)) :
  Calls Tryz.prog 21 #[.pointer (some ⟨gd, 0, none⟩), .slice Ak nk ck] w (fun e w' => e = .returned (.tuple #[]) ∧ ∃ Q, CrD wa w' gd Q E w (crashD d keep)) := by
 obtain ⟨Qd, Pl, P, g, Af, cf, hlg, hf⟩ := h.lg.lg
 have hB := h.lg.size
 refine Calls.mono (crash_any Ak nk ck keep gd Qd d w hlg.dk (hk.below h.lg.below) (fun a ea hne hq => ?_)) ?_
 ·have := h.lg.own _ (hf.d _ hq)
  have h9 := row_block hk ea hne
  omega
 ·intro e w' k
  obtain ⟨he, ⟨Q', k1, k2⟩, t⟩ := DkB.post ⟨hlg.dk, h.lg.below, fun q hq => h.lg.own q (hf.d q hq), h.lg.base⟩ k
  have t2 := t.sub (Q' := E) (fun q hq => h.fe q (hf.d q hq))
  exact ⟨he, Q', k1, t2, fun q hq => (k2 q hq).imp (fun h5 => h.fe q (hf.d q h5)) id⟩
theorem RpU.crash (h : RpU wa w gr gd X E d most L R N) (Ak : Option Addr) (nk ck : Nat) (keep : List Int) (hk : Row wa Ak nk ck (intVals keep)) :
  Calls Tryz.prog 21 #[.pointer (some ⟨gd, 0, none⟩), .slice Ak nk ck] w (fun e w' => e = .returned (.tuple #[]) ∧ ∃ Q, CrD wa w' gd Q E w (crashD d keep)) := by
 obtain ⟨gl, bm, F, h1⟩ := h.rep
 exact crash_rep h1 Ak nk ck keep hk
theorem RpD.crash (h : RpD wa w gr gd X E d most R S N) (Ak : Option Addr) (nk ck : Nat) (keep : List Int) (hk : Row wa Ak nk ck (intVals keep)) :
  Calls Tryz.prog 21 #[.pointer (some ⟨gd, 0, none⟩), .slice Ak nk ck] w (fun e w' => e = .returned (.tuple #[]) ∧ ∃ Q, CrD wa w' gd Q E w (crashD d keep)) := by
 obtain ⟨gl, bm, F, L, h1⟩ := h.rep
 exact crash_rep h1 Ak nk ck keep hk
def OpenL (wa w : World) (gd : Nat) (Q G0 : Nat → Prop) (most : Int) (R S : List OneD) (N room : Nat) (e : Ending) (w' : World) : Prop :=
 ∃ gr X E d L R', e = .returned (.tuple #[.pointer (some ⟨gr, 0, none⟩), .int .i64 0]) ∧ (R' = R ∨ R' = S) ∧ RpU wa w' gr gd X E d most L R' N ∧ d.armed = false ∧ d.room = room ∧ Tn Q w w' ∧ (∀ q, E q → Q q ∨ w.heap.size ≤ q) ∧ (∀ q, G0 q → X q)
theorem openL_of {Q G0 : Nat → Prop} {os : List OneD} {room : Nat} {e : Ending} (hR : toldR [] os = R ∨ toldR [] os = S) (h : OpenRep wa.heap.size wa w gd Q G0 most L (toldR [] os) N room e w') : OpenL wa w gd Q G0 most R S N room e w' := by
 obtain ⟨gr, gl, bm, X, F, E, d, rfl, h1, h2, h3, h4, h5, h6, h7, h8⟩ := h
 exact ⟨gr, X, E, d, L, _, rfl, hR, ⟨⟨_, _, _, h1⟩, h2⟩, h3, h4, h5, h6, h7⟩
theorem down_open {Q : Nat → Prop} {keep : List Int} (h : DkB wa.heap.size wa w gd Q (crashD d keep)) (hd : ∃ (base : Nat) (M : List FS) (c : Nat) (os : List OneD) (s : Nat), Lay d most base M c s N ∧ (M = [] → base = 0) ∧ recsL M = os.map recO ∧ (∀ o ∈ os, o.Ok) ∧ ∀ t, s ≤ t → t ≤ os.length → toldR [] (os.take t) = R ∨ toldR [] (os.take t) = S) (h64 : 64 ≤ most) (hmx : most ≤ 1048576) (G0 : Nat → Prop) (hG : ∀ q, G0 q → q < w.heap.size ∧ wa.heap.size ≤ q) :
  Calls Tryz.prog 12 #[.pointer (some ⟨gd, 0, none⟩), .int .i64 most] w (OpenL wa w gd Q G0 most R S N d.room) := by
 obtain ⟨base, M, c, os, s, h1, h2, h3, h4, h5⟩ := hd
 obtain ⟨b0, n, C, os', base', k1, k2, k3, k4, k5, k6, k7, k8⟩ := crash_open h1 h2 h3 h4 h5 keep h64
 have harm : (openD (crashD d keep) b0 n C).armed = false := by
  rcases n with _ | m
  ·rfl
  ·show (mendD (crashD d keep) (loadedS (rg b0 m) (C m))).armed = false
   unfold mendD
   split
   ·unfold removeD; split <;> rfl
   ·split
    ·rfl
    ·unfold cutD; split <;> rfl
 rw [← k8]
 exact Calls.mono (repopen_any h rfl h64 hmx k1 rfl rfl k2 k3 k5 k6 harm G0 (fun q hq => (hG q hq).1) (fun q hq => (hG q hq).2)) (fun e w' ho => openL_of k7 ho)
theorem RUp.tells (h : RUp d most L R N) : ∃ (base : Nat) (M : List FS) (c : Nat) (os : List OneD) (s : Nat), Lay d most base M c s N ∧ (M = [] → base = 0) ∧ recsL M = os.map recO ∧ (∀ o ∈ os, o.Ok) ∧ ∀ t, s ≤ t → t ≤ os.length → toldR [] (os.take t) = R ∨ toldR [] (os.take t) = R := by
 obtain ⟨base, c, os, s, h1, h2, h3, h4, h5, h6, h7, h8⟩ := h
 exact ⟨base, L, c, os, s, h1, h3, h4, h5, fun t t1 t2 => .inl (h7 t t1 t2)⟩
theorem fresh_open {Q : Nat → Prop} {room : Nat} (h : DkB wa.heap.size wa w gd Q (newD room)) (h64 : 64 ≤ most) (hmx : most ≤ 1048576) (G0 : Nat → Prop) (hG : ∀ q, G0 q → q < w.heap.size ∧ wa.heap.size ≤ q) :
  Calls Tryz.prog 12 #[.pointer (some ⟨gd, 0, none⟩), .int .i64 most] w (fun e w' => ∃ gr X E d, e = .returned (.tuple #[.pointer (some ⟨gr, 0, none⟩), .int .i64 0]) ∧ RpU wa w' gr gd X E d most [] [] 0 ∧ d.armed = false ∧ d.room = room ∧ Tn Q w w' ∧ (∀ q, E q → Q q ∨ w.heap.size ≤ q) ∧ (∀ q, G0 q → X q)) := by
 have hl : LogOk (newD room) most 0 [] 0 0 := LogOk.new h.dk.ok rfl rfl
 have ho := hl.open_
 refine Calls.mono (repopen_any (os := []) h rfl h64 hmx (hl.disk h64) ho.1 ho.2 hl (fun _ => rfl) rfl (by simp) rfl G0 (fun q hq => (hG q hq).1) (fun q hq => (hG q hq).2)) ?_
 rintro e w' ⟨gr, gl, bm, X, F, E, d, rfl, h1, h2, h3, h4, h5, h6, h7, h8⟩
 exact ⟨gr, X, E, d, rfl, ⟨⟨_, _, _, h1⟩, h2⟩, h3, h4, h5, h6, h7⟩
theorem again_open {Q : Nat → Prop} (h : DkB wa.heap.size wa w gd Q d) (hu : RUp d most L R N) (ha : d.armed = false) (h64 : 64 ≤ most) (hmx : most ≤ 1048576) (G0 : Nat → Prop) (hG : ∀ q, G0 q → q < w.heap.size ∧ wa.heap.size ≤ q) :
  Calls Tryz.prog 12 #[.pointer (some ⟨gd, 0, none⟩), .int .i64 most] w (fun e w' => ∃ gr X E d', e = .returned (.tuple #[.pointer (some ⟨gr, 0, none⟩), .int .i64 0]) ∧ RpU wa w' gr gd X E d' most L R N ∧ d'.armed = false ∧ d'.room = d.room ∧ Tn Q w w' ∧ (∀ q, E q → Q q ∨ w.heap.size ≤ q) ∧ (∀ q, G0 q → X q)) := by
 obtain ⟨base, hl, h0⟩ := hu.logok
 have ho := hl.open_
 have hup := hu.up
 obtain ⟨b1, c, os, s, u1, u2, u3, u4, u5, u6, u7, u8⟩ := hu
 have hR := u7 os.length u6 (Nat.le_refl _)
 rw [List.take_length] at hR
 refine Calls.mono (repopen_any (os := os) h hup h64 hmx (hl.disk h64) ho.1 ho.2 hl h0 u4 u5 ha G0 (fun q hq => (hG q hq).1) (fun q hq => (hG q hq).2)) ?_
 rintro e w' ⟨gr, gl, bm, X, F, E, d', rfl, h1, h2, h3, h4, h5, h6, h7, h8⟩
 rw [hR] at h1 h2
 exact ⟨gr, X, E, d', rfl, ⟨⟨_, _, _, h1⟩, h2⟩, h3, h4, h5, h6, h7⟩
theorem RpU.again (h : RpU wa w gr gd X E d most L R N) (ha : d.armed = false) (h64 : 64 ≤ most) (hmx : most ≤ 1048576) :
  Calls Tryz.prog 12 #[.pointer (some ⟨gd, 0, none⟩), .int .i64 most] w (fun e w' => ∃ gs X2 E2 d' Xr Er, e = .returned (.tuple #[.pointer (some ⟨gs, 0, none⟩), .int .i64 0]) ∧ RpU wa w' gs gd X2 E2 d' most L R N ∧ RpU wa w' gr gd Xr Er d' most L R N ∧ d'.armed = false ∧ Tn E w w') := by
 obtain ⟨gl, bm, F, h1⟩ := h.rep
 obtain ⟨Qd, Pl, P, g, Af, cf, hlg, hf⟩ := h1.lg.lg
 have hk : DkB wa.heap.size wa w gd Qd d := ⟨hlg.dk, h1.lg.below, fun q hq => h1.own q (h1.fe q (hf.d q hq)), h1.lg.base⟩
 refine Calls.mono (again_open hk h.up ha h64 hmx (fun _ => False) (fun q h => h.elim)) ?_
 rintro e w' ⟨gs, X2, E2, d', rfl, hu, ha2, -, ht, hE, -⟩
 obtain ⟨gl2, bm2, F2, h2⟩ := hu.rep
 obtain ⟨Q2, Pl2, P2, g2, Af2, cf2, hlg2, hf2⟩ := h2.lg.lg
 have q3 : ∀ q, Q2 q → Qd q ∨ w.heap.size ≤ q := fun q hq => hE q (h2.fe q (hf2.d q hq))
 have kp : LgPost w gl gd X F (.tuple #[]) d' most L (.returned (.tuple #[])) w' := by
  refine ⟨rfl, _, (hlg.disk hlg2.dk ht q3).upper ((hf.wide (F' := fun q => F q ∨ w.heap.size ≤ q) (fun q hq => .inl hq)).qd (fun q hq => (q3 q hq).imp (hf.d q) id)), ht.sub hf.d, fun q hq => ?_, fun q hq => .inl hq⟩
  rcases hq with h4 | h4
  ·exact .inl h4
  ·rcases q3 q h4 with h5 | h5
   ·exact .inl (hlg.dx q h5)
   ·exact .inr h5
 obtain ⟨-, X', F', E', r1, r2, r3, r4, r5, r6⟩ := h1.logged kp
 exact ⟨gs, X2, E2, d', X', E', rfl, hu, ⟨⟨_, _, _, r1⟩, hu.up⟩, ha2, r2⟩
theorem RUp.noF {N0 : Nat} (h : RUp d most [] [] N0) : d.F = noF := by
 obtain ⟨base, c, os, s, h1, -⟩ := h
 funext j
 exact h1.rest j (fun i hi => absurd hi (Nat.not_lt_zero i))
theorem fresh_append {N0 : Nat} (h : RUp d most [] [] N0) (o : OneD) (hr : 1000 ≤ d.room) : (appendL d most [] (recO o)).1 = if d.armed && decide (d.left ≤ 40) then 10 else if d.armed then (appendL d most [] (recO o)).1 else 0 := by
 have hl : (framed (headB 0) ++ framed (recO o)).length = 65 := by rw [framed_len2, recO_len]
 have e : (appendL d most [] (recO o)).1 = appK d ((0 : Nat) : Int) (framed (headB 0) ++ framed (recO o)).length := rfl
 rw [e, hl]
 unfold appK
 have hu : usedF d.F = 0 := by rw [h.noF]; exact used_noF
 rw [h.up, hu]
 have c1 : ¬ (((0 : Nat) : Int) < 0 ∨ (64 : Int) ≤ ((0 : Nat) : Int)) := by omega
 have c2 : ¬ d.room < 0 + 65 := by omega
 simp only [Bool.false_eq_true, if_false, if_neg c1, if_neg c2]
 unfold takeN
 rcases ha : d.armed with _ | _
 ·simp
 ·by_cases hle : d.left ≤ 40
  ·have h2 : min 65 d.left < 65 := by omega
   simp [hle]
   omega
  ·simp [hle]
theorem RpU.disk (h : RpU wa w gr gd X E d most L R N) : ∃ Q, DkB wa.heap.size wa w gd Q d ∧ ∀ q, Q q → E q := by
 obtain ⟨gl, bm, F, h1⟩ := h.rep
 obtain ⟨Qd, Pl, P, g, Af, cf, hlg, hf⟩ := h1.lg.lg
 exact ⟨Qd, ⟨hlg.dk, h1.lg.below, fun q hq => h1.own q (h1.fe q (hf.d q hq)), h1.lg.base⟩, fun q hq => h1.fe q (hf.d q hq)⟩
end
end Rp
end Go.Proofs.YthjhofmjhmnddaaGreat
/-
 The chapter's example; which packets are light.
-/
namespace Go.Proofs.YthjhofmjhmnddaaGreat
open Go.RowKit Rg Bl Re Wl Dsk Fm Vw
namespace Rp
theorem packIn_no (w : World) (p : PackD) (h1 : p.spans = []) (h2 : p.members = []) (h3 : p.ids = []) : PackIn w p noS :=
 ⟨by rw [h1]; exact ⟨fun h => absurd rfl h, rfl, Nat.le_refl _, (show (0 : Nat) ≤ 9223372036854775807 by omega), fun _ => rfl⟩, by rw [h2]; exact MemRow.none w, by rw [h3]; exact Row.none w⟩
theorem fresh_grant {p : PackD} (h : askP p = true) : handG [] p = true := by
 obtain ⟨h1, h2, h3⟩ := ask_has h
 have hl : lateB zeroR (balP p) = false := (late_iff _ _).2 ⟨h2, by unfold lessB; simp⟩
 show grantD zeroR (balP p) p.v = true
 unfold grantD
 rcases h3 with ⟨-, h3⟩ | ⟨-, h3⟩
 ·rw [if_pos h3, hl]; rfl
 ·rw [if_neg (by omega)]
  exact (takes_iff _ _ _).2 ⟨hl, h3, fun e => absurd (congrArg PtD.pos e) h2⟩
abbrev p0 : PackD := ⟨4, 5, 3, 1, 0, 0, 0, false, [], [], []⟩
theorem p0_ask : askP p0 = true := by decide
theorem p0_next : nextR [] p0 = [⟨5, ⟨⟨3, 1⟩, ⟨0, 0⟩, 0⟩⟩] := by rfl
theorem few_of {p : PackD} (h : Few p) : p.spans.length ≤ 1000 ∧ p.members.length ≤ 1000 ∧ p.ids.length ≤ 1000 := by
 obtain ⟨h1, h2, h3⟩ := h
 omega
theorem light_ok {p : PackD} (h : lightF p = true) : p.spans.length ≤ 1000 ∧ p.members.length ≤ 1000 ∧ p.ids.length ≤ 1000 := few_of (light_few h)
theorem p0_ans : ansR [] p0 = ⟨5, 5, 3, 1, 0, 0, 0, true, [], [], []⟩ := by rfl
theorem fld0 (a b c d e : Int) (w : World) : (Instr.field 54 (.agg #[.int .u64 a, .int .u64 b, .int .u64 c, .int .u64 d, .int .i64 e]) 0).run Tryz.prog w = .ok (.agg #[.int .u64 a, .int .u64 b]) w := by
 first | kernel_rfl | rfl | simp [go_sem]
abbrev AlIn (w1 : World) (g6 g5 : Nat) (W : World) : Prop := Below w1.heap.size w1 W ∧ W.cell? ⟨g6, 7, none⟩ = some (.bool true) ∧ W.cell? ⟨g6, 0, none⟩ = some (.int .i64 5) ∧ W.cell? ⟨g5, 0, none⟩ = some (.int .u64 3) ∧ W.cell? ⟨g5, 1, none⟩ = some (.int .u64 1)
theorem alIn_of {w1 W : World} {g6 g5 : Nat} (h : AlIn w1 g6 g5 w1) (hb : Below w1.heap.size w1 W) : AlIn w1 g6 g5 W := by
 obtain ⟨-, a, b, c, d⟩ := h
 exact ⟨hb, by rw [hb.cell (lt_of_cell a)]; exact a, by rw [hb.cell (lt_of_cell b)]; exact b, by rw [hb.cell (lt_of_cell c)]; exact c, by rw [hb.cell (lt_of_cell d)]; exact d⟩
set_option maxRecDepth 100000 in
set_option maxHeartbeats 4000000 in
theorem ralive_any (w : World) : Calls Tryz.prog 10 #[] w (RetB w.heap.size w (.bool true)) := by
 have HNw := hid_ (new_any 10000 (by decide) (by decide) w)
 rw [show ((10000 : Nat) : Int) = 10000 from rfl] at HNw
 go_enter Tryz.func10, Tryz.ntmps10
 go_wp2_with fail
 (with_reducible refine Calls.mono HNw.out ?_)
 rintro e w1 ⟨rfl, hd, hb1⟩
 have HDk := hid_ (show DkB w.heap.size w w1 w.heap.size (fun q => q = w.heap.size) (newD 10000) from ⟨hd, hb1, fun q hq => by omega, Nat.le_refl _⟩)
 have HOp := hid_ (fresh_open HDk.out (most := 256) (by decide) (by decide) (fun _ => False) (fun q h => h.elim))
 clear hd hb1
 generalize hgd : w.heap.size = gd at HOp HDk ⊢
 have HGd := hid_ hgd
 clear hgd
 go_wp2_with fail
 (with_reducible refine Calls.mono HOp.out ?_)
 rintro e w2 ⟨gr, X, E, d, rfl, hu, ha, hr, ht, hE, -⟩
 have HU := hid_ hu
 have HA := hid_ (And.intro ha hr)
 clear hu ha hr ht hE
 have hu3 := HU.out.later ((Below.refl w2.heap.size w2).alloc (Nat.le_refl _) (.cells #[.int .u64 3, .int .u64 1] 35))
 have HHa := hid_ (hu3.handle p0 noS (packIn_no _ _ rfl rfl rfl) (by constructor <;> simp) (by decide) (by decide))
 have HW3 := hid_ (whole_new w2 35 #[.int .u64 3, .int .u64 1])
 clear hu3
 go_wp2_with fail
 (with_reducible refine Calls.mono HHa.out ?_)
 rintro e w4 ⟨k, qa, X4, E4, d4, L4, rfl, mv4, ro4, ar4, h104, hk4, hcase⟩
 obtain ⟨rfl, rfl, hu4⟩ : k = 0 ∧ qa = ansR [] p0 ∧ RpU w w4 gr gd X4 E4 d4 256 L4 (nextR [] p0) (0 + 2) := by
  have e0 := hk4 p0_ask
  rw [show sameR (handX [] p0) (getR [] p0.trace) = false from by rfl, if_neg (by decide), fresh_append HU.out.up _ (by rw [HA.out.2]; decide), HA.out.1] at e0
  have e1 : k = 0 := e0
  subst e1
  rcases hcase with ⟨h9, -⟩ | ⟨-, -, h8, h9⟩ | ⟨h9, -⟩ | ⟨h9, -⟩
  ·cases h9
  ·exact ⟨rfl, h8, h9⟩
  ·cases h9
  ·cases h9
 rw [p0_ans]
 rw [p0_next] at hu4
 have HMv := hid_ mv4
 have HU4 := hid_ hu4
 have HW4 := hid_ (HW3.out.tn mv4.tn (fun hq => by have := (HU.out.elt _ hq).1; omega))
 clear hk4 hcase h104 mv4 hu4 HHa
 go_wp2_with fail
 have hb5 : Below w4.heap.size w4 (w4.alloc (.cells #[.int .i64 5, .int .u64 5, .int .u64 3, .int .u64 1, .int .u64 0, .int .u64 0, .int .i64 0, .bool true, .slice none 0 0, .slice none 0 0, .slice none 0 0] 41)) := (Below.refl _ _).alloc (Nat.le_refl _) _
 have HW5 := hid_ (HW4.out.below hb5 HW4.out.lt)
 have HQ5 := hid_ (whole_new w4 41 #[.int .i64 5, .int .u64 5, .int .u64 3, .int .u64 1, .int .u64 0, .int .u64 0, .int .i64 0, .bool true, .slice none 0 0, .slice none 0 0, .slice none 0 0])
 have HU5 := hid_ (HU4.out.later hb5)
 have HL4 := hid_ (HU4.out.elt)
 have HG2 := hid_ (show w2.heap.size < w4.heap.size from HW4.out.lt)
 have HE4 := hid_ (show ¬ E4 w2.heap.size from fun hq => by
  rcases HMv.out.e1 _ hq with h1 | h1
  ·have := (HU.out.elt _ h1).1; omega
  ·simp at h1; omega)
 obtain ⟨w5, hw5⟩ : ∃ w5 : World, w5 = w4.alloc (.cells #[.int .i64 5, .int .u64 5, .int .u64 3, .int .u64 1, .int .u64 0, .int .u64 0, .int .i64 0, .bool true, .slice none 0 0, .slice none 0 0, .slice none 0 0] 41) := ⟨_, rfl⟩
 rw [← hw5] at HW5 HQ5 HU5 hb5 ⊢
 have HCr := hid_ (HU5.out.crash none 0 0 [] (Row.none _))
 generalize hg6 : w4.heap.size = g6 at *
 generalize hg5 : w2.heap.size = g5 at *
 clear hw5 hb5 hg6 hg5
 (with_reducible refine Calls.mono HCr.out ?_)
 rintro e w6 ⟨rfl, Q6, hc6⟩
 have HOp6 := hid_ (down_open (R := [⟨5, ⟨⟨3, 1⟩, ⟨0, 0⟩, 0⟩⟩]) hc6.dk HU5.out.up.tells (by decide) (by decide) (fun _ => False) (fun q h => h.elim))
 have HC6 := hid_ hc6
 have HW6 := hid_ (HW5.out.tn hc6.tn HE4.out)
 have HQ6 := hid_ (HQ5.out.tn hc6.tn (fun hq => by have := (HL4.out _ hq).1; omega))
 clear hc6 HCr
 go_wp2_with fail
 (with_reducible refine Calls.mono HOp6.out ?_)
 rintro e w7 ⟨gr7, X7, E7, d7, L7, R7, rfl, hR7, hu7, -, -, ht7, hE7, -⟩
 obtain rfl : R7 = [⟨5, ⟨⟨3, 1⟩, ⟨0, 0⟩, 0⟩⟩] := hR7.elim id id
 have HU7 := hid_ hu7
 have HW7 := hid_ (HW6.out.tn ht7 (fun hq => by
  rcases HC6.out.q1 _ hq with h1 | h1
  ·exact HE4.out h1
  ·have := HW5.out.lt; omega))
 have HQ7 := hid_ (HQ6.out.tn ht7 (fun hq => by
  rcases HC6.out.q1 _ hq with h1 | h1
  ·have := (HL4.out _ h1).1; omega
  ·have := HQ5.out.lt; omega))
 have HRg := hid_ (fun (W : World) (hb : Below w7.heap.size w7 W) => show Calls Tryz.prog 19 #[.pointer (some ⟨gr7, 0, none⟩), .int .u64 5] W (RetB W.heap.size W (.agg #[.int .u64 3, .int .u64 1, .int .u64 0, .int .u64 0, .int .i64 0])) from (hu7.later hb).reg (t := 5) (by decide))
 have HTr := hid_ (fun (W : World) (hb : Below w7.heap.size w7 W) => (hu7.later hb).traces (by decide))
 have kb : ∀ w, (binOp .eql 35 (.agg #[.int .u64 3, .int .u64 1]) (.agg #[.int .u64 3, .int .u64 1])).run Tryz.prog w = .ok (.bool true) w := fun w => bal_eql ⟨3, 1⟩ ⟨3, 1⟩ w
 have kf := fun (w : World) => fld0 3 1 0 0 0 w
 have S0 : AlIn w7 g6 g5 w7 := ⟨Below.refl _ _, HQ7.out.cell 7 _ rfl, HQ7.out.cell 0 _ rfl, HW7.out.cell 0 _ rfl, HW7.out.cell 1 _ rfl⟩
 have HS0 := hid_ S0
 have HBr := hid_ (Below.refl w7.heap.size w7)
 have HBz := hid_ hu7.below
 clear hR7 hu7 ht7 hE7 HOp6
 go_wp2_with fail
 go_region_held3 (AlIn w7 g6 g5) (first | (with_reducible assumption) | (with_reducible exact alIn_of HS0.out hcb) | (with_reducible exact alIn_of HS0.out (Below.drew (Below.refl _ _))) | fail)
  (first
  | (go_at_call 19; (first | (with_reducible refine Calls.mono (HRg.out _ HBr.out) ?_) | (with_reducible refine Calls.mono (HRg.out _ (Below.drew HBr.out)) ?_)); rintro e w' ⟨rfl, hcn⟩; (first | (with_reducible have hcb := chain0 HBr.out hcn) | (with_reducible have hcb := chainD HBr.out hcn)))
  | (go_at_call 28; (first | (with_reducible refine Calls.mono (HTr.out _ hcb) ?_) | (with_reducible refine Calls.mono (HTr.out _ (Below.drew hcb)) ?_)); rintro e w' ⟨At, ct, rfl, -, -, hcn⟩; (first | (with_reducible have hcb := chain0 hcb hcn) | (with_reducible have hcb := chainD hcb hcn)))
  | fail)
 all_goals
  have hfin := HBz.out.trans (hcb.mono HBz.out.size)
  go_wp2_with fail
  go_ret
  exact retB_mk rfl hfin
end Rp
end Go.Proofs.YthjhofmjhmnddaaGreat
