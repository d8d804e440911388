/-
  The reference's truth and ballot; what stays of a row while another one grows.
-/
import Derived.Test.YtnpbokbfkdncmaaGreatZGC
import Derived.Test.YtnpbokbfkdncmaaGreatZGK
import Derived.Test.YtnpbokbfkdncmaaGreatZGL
import Derived.Deep.RegionHeld3
namespace Go.Proofs.YtnpbokbfkdncmaaGreat
set_option linter.unusedSimpArgs false
set_option linter.unusedVariables false
open Go.RowKit Ru
theorem step_bytesG {w : World} {ops : Array Oper} {o : Oper} {a : Act} {K : Act → World → Prop} {Q : Exit → Act → World → Prop} {E : Prop} (hgd : Region.wanted o (yielded ops a.tmps) = true) (s x : Operand)
    (ho : o.op = .call { callee := .builtin .append, args := #[s, x], argTypes := #[33, 33] })
    (B : Nat) (A0 : Option Addr) (n0 c0 : Nat) (l0 : List UInt8) (hs : a.eval s = .slice A0 n0 c0) (hown : Own B w A0 n0 c0 l0)
    (A : Option Addr) (m c : Nat) (l : List UInt8) (hx : a.eval x = .slice A m c) (hl : Sl w A m c l)
    (N : Nat) (ys : List UInt8) (hN : n0 + m = N) (hys : l0 ++ l = ys) (hroom : N ≤ 140737488355328) (hB : B ≤ w.heap.size)
    (h : ∀ A' c' w', Own B w' A' N c' ys → Below B w w' → w.grownBy w' (Value.slice A0 n0 c0).ownBlock →
      ((Value.slice A' N c').ownBlock = (Value.slice A0 n0 c0).ownBlock ∨ (Value.slice A' N c').ownBlock = some w.heap.size) → K (a.put o.dst (.slice A' N c')) w') :
    if Region.wanted o (yielded ops a.tmps) = true then Oper.wp Tryz.prog o a w K Q else E := by
  subst hys
  rw [if_pos hgd]
  obtain ⟨i0, hi0, hz0, hz1, hz2⟩ := info_parts info_u8
  obtain ⟨A', c', w', hrun, h2, h3, h4⟩ := run_app (P := Tryz.prog) w B 33 o.type 5 i0 _ 1 1 Tryz.underlying33 hi0 hz0 hz1 hz2 rfl (by omega) (.slice A0 n0 c0) n0 (bytes l0) hown A m c (bytes l)
    (by rw [bytes_length, hl.len]; omega) hl.holds hl.nil (bytes_one l) N (bytes (l0 ++ l)) hN (bytes_append l0 l).symm (by unfold maxLen; omega) (by omega) hB
  unfold Oper.wp execOp
  simp only [ho, resolve, invoke, builtin, Sem.run_bind, Sem.run_pure, Result.andThen_ok, List.map_toArray, List.map_cons, List.map_nil, hs, hx, hrun]
  exact h A' c' w' h2 ((Below.refl B w).grown h3 hB (own_from hown)) h3 h4
/-- A block that stands apart from a row's own block. -/
def Apart (w : World) (A : Option Addr) (n c g : Nat) : Prop := (Value.slice A n c).ownBlock ≠ some g ∧ g < w.heap.size
theorem Apart.size {w w' : World} {A : Option Addr} {n c g : Nat} (h : Apart w A n c g) (hs : w.heap.size ≤ w'.heap.size) : Apart w' A n c g := ⟨h.1, Nat.lt_of_lt_of_le h.2 hs⟩
theorem Apart.app {w w' : World} {A A' : Option Addr} {n c n' c' g : Nat} (h : Apart w A n c g) (hs : w.heap.size ≤ w'.heap.size)
    (hat : (Value.slice A' n' c').ownBlock = (Value.slice A n c).ownBlock ∨ (Value.slice A' n' c').ownBlock = some w.heap.size) : Apart w' A' n' c' g := by
  refine ⟨?_, Nat.lt_of_lt_of_le h.2 hs⟩
  rcases hat with e | e
  · rw [e]; exact h.1
  · rw [e]
    intro e2
    injection e2 with e2
    have := h.2
    omega
/-- A slice of bytes that is still wanted, while the row (A, n, c) grows. -/
structure Live (w : World) (A : Option Addr) (n c : Nat) (A1 : Option Addr) (m c1 : Nat) (l : List UInt8) : Prop where
  sl : Sl w A1 m c1 l
  ap : ∀ a, A1 = some a → l ≠ [] → Apart w A n c a.block
theorem Live.below {w w' : World} {A A1 : Option Addr} {n c m c1 : Nat} {l : List UInt8} (h : Live w A n c A1 m c1 l) (hb : Below w.heap.size w w') : Live w' A n c A1 m c1 l := ⟨h.sl.below hb, fun a e hne => (h.ap a e hne).size hb.size⟩
theorem Live.alloc {w : World} {A A1 : Option Addr} {n c m c1 : Nat} {l : List UInt8} (h : Live w A n c A1 m c1 l) (o : Obj) : Live (w.alloc o) A n c A1 m c1 l := h.below ((Below.refl _ _).alloc (Nat.le_refl _) _)
theorem Live.app {w w' : World} {A A' A1 : Option Addr} {n c n' c' m c1 : Nat} {l : List UInt8} (h : Live w A n c A1 m c1 l) (hg : w.grownBy w' (Value.slice A n c).ownBlock)
    (hat : (Value.slice A' n' c').ownBlock = (Value.slice A n c).ownBlock ∨ (Value.slice A' n' c').ownBlock = some w.heap.size) : Live w' A' n' c' A1 m c1 l := by
  refine ⟨⟨?_, h.sl.len, h.sl.cap, h.sl.max, h.sl.nil⟩, fun a e hne => (h.ap a e hne).app hg.size hat⟩
  intro hne
  obtain ⟨b, off, e, hc⟩ := h.sl.holds hne
  refine ⟨b, off, e, fun k u hu => hg.cell (hc k u hu) (fun e2 => ?_)⟩
  exact (h.ap ⟨b, off, Option.none⟩ e (by rintro rfl; exact hne rfl)).1 e2.symm
theorem Live.drew {w : World} {A A1 : Option Addr} {n c m c1 : Nat} {l : List UInt8} (h : Live w A n c A1 m c1 l) : Live w.drew A n c A1 m c1 l := h.below (Below.drew (Below.refl _ _))
theorem live_new {B : Nat} {W w1 : World} {A A1 : Option Addr} {n c m c1 : Nat} {pre l : List UInt8} (hO : Own B W A n c pre) (hb : Below W.heap.size W w1) (h1 : Own W.heap.size w1 A1 m c1 l) : Own B w1 A n c pre ∧ Live w1 A n c A1 m c1 l := by
  refine ⟨hO.later hb, h1.sl, fun a e hne => ?_⟩
  subst e
  have h2 := World.ownsRow.lt h1 a.block rfl
  refine ⟨fun e => ?_, h2.2⟩
  have h3 := (World.ownsRow.lt hO a.block e).2
  omega
theorem live_lit {B : Nat} {W : World} {A : Option Addr} {n c : Nat} {pre : List UInt8} (hO : Own B W A n c pre) (v X : Int) (h : v % 256 = X) (G : Nat) (hG : G = W.heap.size) : Own B (W.alloc (.cells #[.int .u8 X] 5)) A n c pre ∧ Live (W.alloc (.cells #[.int .u8 X] 5)) A n c (some ⟨G, 0, Option.none⟩) 1 1 [byteI v] := by
  subst hG
  exact live_new hO ((Below.refl _ _).alloc (Nat.le_refl _) _) (own_lit W [byteI v] _ (byte_lit h) 1 rfl (by omega) _ (Nat.le_refl _))
def tB (t : Bool) : Int := if t then 1 else 0
theorem live_litW {B : Nat} {W : World} {A : Option Addr} {n c : Nat} {pre : List UInt8} (hO : Own B W A n c pre) (v : Int) : Live (W.alloc (.cells #[.int .u8 (IntKind.u8.wrap v)] 5)) A n c (some ⟨W.heap.size, 0, Option.none⟩) 1 1 [byteI v] := (live_lit hO v _ (by simp [IntKind.wrap, IntKind.bits, IntKind.signed]) _ rfl).2
theorem reftruth_any (t : Bool) (w : World) : Calls Tryz.prog 52 #[.bool t] w fun e w' => e = .returned (.int .u8 (tB t)) ∧ w = w' := by
  cases t
  · go_enter Tryz.func52, Tryz.ntmps52
    go_wp2_with fail
    go_ret
    exact ⟨rfl, rfl⟩
  · go_enter Tryz.func52, Tryz.ntmps52
    go_wp2_with fail
    go_ret
    exact ⟨rfl, rfl⟩
abbrev BalIn (B : Nat) (w : World) (g : Nat) (a b : Nat) (W : World) : Prop :=
  Below B w W ∧ g < W.heap.size ∧ W.cell? ⟨g, 0, none⟩ = some (.int .u64 (a : Nat)) ∧ W.cell? ⟨g, 1, none⟩ = some (.int .u64 (b : Nat))
theorem balIn_keep {B : Nat} {w W W' : World} {g a b : Nat} (hB : B ≤ w.heap.size) (h : BalIn B w g a b W) (hb : Below W.heap.size W W') : BalIn B w g a b W' := by
  obtain ⟨h0, hg, a0, a1⟩ := h
  have k : ∀ o', W'.cell? ⟨g, o', none⟩ = W.cell? ⟨g, o', none⟩ := fun o' => hb.cell (p := ⟨g, o', none⟩) hg
  exact ⟨h0.trans (hb.mono (Nat.le_trans hB h0.size)), Nat.lt_of_lt_of_le hg hb.size, by rw [k]; exact a0, by rw [k]; exact a1⟩
theorem balIn_app {B : Nat} {w W W' : World} {g a b : Nat} {A : Option Addr} {n c : Nat} (h : BalIn B w g a b W) (hb : Below B W W') (hg : W.grownBy W' (Value.slice A n c).ownBlock) (hx : Apart W A n c g) : BalIn B w g a b W' := by
  obtain ⟨h0, hg0, a0, a1⟩ := h
  exact ⟨h0.trans hb, Nat.lt_of_lt_of_le hg0 hg.size, hg.cell a0 (fun e => hx.1 e.symm), hg.cell a1 (fun e => hx.1 e.symm)⟩
set_option maxRecDepth 100000 in
set_option maxHeartbeats 4000000 in
theorem refballot_any (B : Nat) (A : Option Addr) (n c : Nat) (pre : List UInt8) (bn bd : Nat) (w : World) (hown : Own B w A n c pre) (hB : B ≤ w.heap.size) (hn : n ≤ 1000000) (h1 : bn < 18446744073709551616) (h2 : bd < 18446744073709551616) :
    Calls Tryz.prog 51 #[.slice A n c, .agg #[.int .u64 (bn : Nat), .int .u64 (bd : Nat)]] w fun e w' => ∃ A' c', e = .returned (.slice A' (n + 16) c') ∧ Own B w' A' (n + 16) c' (pre ++ [bn, bd].flatMap eight) ∧ Below B w w' := by
  have Hn1 := hid_ h1
  have Hn2 := hid_ h2
  have HO := hid_ (hown.alloc (.cells #[.int .u64 (bn : Nat), .int .u64 (bd : Nat)] 24))
  have HX := hid_ (show Apart (w.alloc (.cells #[.int .u64 (bn : Nat), .int .u64 (bd : Nat)] 24)) A n c w.heap.size from ⟨fun e => by have := (World.ownsRow.lt hown _ e).2; omega, by simp⟩)
  have hS : BalIn B w w.heap.size bn bd (w.alloc (.cells #[.int .u64 (bn : Nat), .int .u64 (bd : Nat)] 24)) :=
    ⟨(Below.refl _ _).alloc hB _, by simp, (whole_new w _ _).cell 0 _ rfl, (whole_new w _ _).cell 1 _ rfl⟩
  clear hown h1 h2
  go_enter Tryz.func51, Tryz.ntmps51
  go_wp2_with fail
  generalize w.alloc (.cells #[.int .u64 (bn : Nat), .int .u64 (bd : Nat)] 24) = wb at *
  go_region_held3 (BalIn B w w.heap.size bn bd) (first | assumption | (refine balIn_keep hB (by assumption) (by assumption)) | (refine balIn_keep hB (by assumption) (Below.drew (Below.refl _ _))) | (refine balIn_keep hB (by assumption) (Below.alloc (Below.refl _ _) (Nat.le_refl _) _)))
    (first
      | (go_at_call 50; (with_reducible refine Calls.mono (refeight_any bn _ Hn1.out) ?_); rintro e w1 ⟨A1, c1, rfl, ho1, hb1⟩; (first | (have q1 := live_new HO.out hb1 ho1) | (have q1 := live_new HO.out.drew hb1 ho1) | (have q1 := live_new (HO.out.alloc _) hb1 ho1) | (have q1 := live_new (HO.out.drew.alloc _) hb1 ho1)); obtain ⟨o1, l1⟩ := q1; replace HO := hid_ o1; have L1 := hid_ l1; replace HX := hid_ (show Apart w1 _ _ _ _ from HX.out.size (by have := hb1.size; first | omega | (simp at this; omega))); (try (first | replace L2 := hid_ (L2.out.below hb1) | replace L2 := hid_ ((L2.out.alloc _).below hb1))); clear ho1 o1 l1)
      | (go_at_call 50; (with_reducible refine Calls.mono (refeight_any bd _ Hn2.out) ?_); rintro e w2 ⟨A2, c2, rfl, ho2, hb2⟩; (first | (have q2 := live_new HO.out hb2 ho2) | (have q2 := live_new HO.out.drew hb2 ho2) | (have q2 := live_new (HO.out.alloc _) hb2 ho2) | (have q2 := live_new (HO.out.drew.alloc _) hb2 ho2)); obtain ⟨o2, l2⟩ := q2; replace HO := hid_ o2; have L2 := hid_ l2; replace HX := hid_ (show Apart w2 _ _ _ _ from HX.out.size (by have := hb2.size; first | omega | (simp at this; omega))); (try (first | replace L1 := hid_ (L1.out.below hb2) | replace L1 := hid_ ((L1.out.alloc _).below hb2))); clear ho2 o2 l2)
      | (refine step_bytesG (by rfl) (.tmp 5) (.tmp 8) (by rfl) B A n c pre (by rfl) ?_ _ 8 _ (eight bn) (by rfl) ?_ (n + 8) (pre ++ eight bn) (by omega) (by rfl) (by omega) ?_ ?_; (first | exact HO.out | exact HO.out.drew | exact HO.out.alloc _ | exact HO.out.drew.alloc _); (first | exact L1.out.sl | exact (L1.out.alloc _).sl); (exact Nat.le_trans hB (Below.size (And.left (by assumption)))); (intro A3 c3 w3 hoz hbz hgz hatz); have hSz := balIn_app (by assumption) hbz hgz (HX.out.size (by simp)); replace HO := hid_ hoz; replace HX := hid_ ((HX.out.size (by simp)).app hgz.size hatz); (try (first | replace L2 := hid_ (L2.out.app hgz hatz) | replace L2 := hid_ ((L2.out.alloc _).app hgz hatz))); clear hoz hgz hatz)
      | (refine step_bytesG (by rfl) (.tmp 9) (.tmp 12) (by rfl) B A3 (n + 8) c3 (pre ++ eight bn) (by rfl) ?_ _ 8 _ (eight bd) (by rfl) ?_ (n + 16) (pre ++ eight bn ++ eight bd) (by omega) (by rfl) (by omega) ?_ ?_; (first | exact HO.out | exact HO.out.drew | exact HO.out.alloc _ | exact HO.out.drew.alloc _); (first | exact L2.out.sl | exact (L2.out.alloc _).sl); (exact Nat.le_trans hB (Below.size (And.left (by assumption)))); (intro A4 c4 w4 hoz hbz hgz hatz); have hSz := balIn_app (by assumption) hbz hgz (HX.out.size (by simp)); replace HO := hid_ hoz; replace HX := hid_ ((HX.out.size (by simp)).app hgz.size hatz); clear hoz hgz hatz)
      | fail)
  all_goals
    go_wp2_with fail
    go_ret
    refine ⟨A4, c4, rfl, ?_, And.left (by assumption)⟩
    have h := HO.out
    rw [List.append_assoc] at h
    simpa using h
end Go.Proofs.YtnpbokbfkdncmaaGreat
