/-
  What the reference's only answers: a packet that has nothing but what its kind has use for.
-/
import Derived.Test.YthjhofmjhmnddaaGreatMGBF
import Derived.Deep.RegionHeld3
import Derived.BigQuiet
set_option linter.unusedSimpArgs false
set_option linter.unusedVariables false
namespace Go.Proofs.YthjhofmjhmnddaaGreat
open Go.RowKit Ru
def onlyF (p : PackD) : PackD :=
 if p.kind = 1 then ⟨p.kind, p.trace, 0, 0, 0, 0, 0, false, p.spans, [], []⟩ else
 if p.kind = 2 then ⟨p.kind, p.trace, 0, 0, 0, 0, 0, false, p.spans, [], []⟩ else
 if p.kind = 3 then ⟨p.kind, 0, 0, 0, 0, 0, 0, false, [], p.members, []⟩ else
 if p.kind = 4 then ⟨p.kind, p.trace, p.bn, p.bnode, 0, 0, 0, false, [], [], []⟩ else
 if p.kind = 5 then ⟨p.kind, p.trace, p.bn, p.bnode, p.sn, p.snode, p.v, p.ok, [], [], []⟩ else
 if p.kind = 6 then ⟨p.kind, p.trace, p.bn, p.bnode, 0, 0, p.v, false, [], [], []⟩ else
 if p.kind = 7 then ⟨p.kind, p.trace, p.bn, p.bnode, p.sn, p.snode, 0, p.ok, [], [], []⟩ else
 if p.kind = 8 then ⟨p.kind, p.trace, 0, 0, 0, 0, p.v, false, [], [], []⟩ else
 if p.kind = 9 then ⟨p.kind, p.trace, p.bn, p.bnode, 0, 0, 0, false, p.spans, [], []⟩ else
 if p.kind = 10 then ⟨p.kind, p.trace, 0, 0, 0, 0, 0, false, [], [], p.ids⟩ else
 ⟨p.kind, p.trace, 0, 0, 0, 0, 0, false, [], [], []⟩
def onlyS (k : Int) (s : PackS) : PackS :=
 if k = 1 then ⟨s.a1, s.c1, none, 0, none, 0⟩ else
 if k = 2 then ⟨s.a1, s.c1, none, 0, none, 0⟩ else
 if k = 3 then ⟨none, 0, s.a2, s.c2, none, 0⟩ else
 if k = 4 then ⟨none, 0, none, 0, none, 0⟩ else
 if k = 5 then ⟨none, 0, none, 0, none, 0⟩ else
 if k = 6 then ⟨none, 0, none, 0, none, 0⟩ else
 if k = 7 then ⟨none, 0, none, 0, none, 0⟩ else
 if k = 8 then ⟨none, 0, none, 0, none, 0⟩ else
 if k = 9 then ⟨s.a1, s.c1, none, 0, none, 0⟩ else
 if k = 10 then ⟨none, 0, none, 0, s.a3, s.c3⟩ else
 ⟨none, 0, none, 0, none, 0⟩
theorem only_1 {p : PackD} (s : PackS) (h : p.kind = 1) : onlyF p = ⟨1, p.trace, 0, 0, 0, 0, 0, false, p.spans, [], []⟩ ∧ onlyS p.kind s = ⟨s.a1, s.c1, none, 0, none, 0⟩ := by
 unfold onlyF onlyS
 rw [h]
 simp
theorem only_2 {p : PackD} (s : PackS) (h : p.kind = 2) : onlyF p = ⟨2, p.trace, 0, 0, 0, 0, 0, false, p.spans, [], []⟩ ∧ onlyS p.kind s = ⟨s.a1, s.c1, none, 0, none, 0⟩ := by
 unfold onlyF onlyS
 rw [h]
 simp
theorem only_3 {p : PackD} (s : PackS) (h : p.kind = 3) : onlyF p = ⟨3, 0, 0, 0, 0, 0, 0, false, [], p.members, []⟩ ∧ onlyS p.kind s = ⟨none, 0, s.a2, s.c2, none, 0⟩ := by
 unfold onlyF onlyS
 rw [h]
 simp
theorem only_4 {p : PackD} (s : PackS) (h : p.kind = 4) : onlyF p = ⟨4, p.trace, p.bn, p.bnode, 0, 0, 0, false, [], [], []⟩ ∧ onlyS p.kind s = ⟨none, 0, none, 0, none, 0⟩ := by
 unfold onlyF onlyS
 rw [h]
 simp
theorem only_5 {p : PackD} (s : PackS) (h : p.kind = 5) : onlyF p = ⟨5, p.trace, p.bn, p.bnode, p.sn, p.snode, p.v, p.ok, [], [], []⟩ ∧ onlyS p.kind s = ⟨none, 0, none, 0, none, 0⟩ := by
 unfold onlyF onlyS
 rw [h]
 simp
theorem only_6 {p : PackD} (s : PackS) (h : p.kind = 6) : onlyF p = ⟨6, p.trace, p.bn, p.bnode, 0, 0, p.v, false, [], [], []⟩ ∧ onlyS p.kind s = ⟨none, 0, none, 0, none, 0⟩ := by
 unfold onlyF onlyS
 rw [h]
 simp
theorem only_7 {p : PackD} (s : PackS) (h : p.kind = 7) : onlyF p = ⟨7, p.trace, p.bn, p.bnode, p.sn, p.snode, 0, p.ok, [], [], []⟩ ∧ onlyS p.kind s = ⟨none, 0, none, 0, none, 0⟩ := by
 unfold onlyF onlyS
 rw [h]
 simp
theorem only_8 {p : PackD} (s : PackS) (h : p.kind = 8) : onlyF p = ⟨8, p.trace, 0, 0, 0, 0, p.v, false, [], [], []⟩ ∧ onlyS p.kind s = ⟨none, 0, none, 0, none, 0⟩ := by
 unfold onlyF onlyS
 rw [h]
 simp
theorem only_9 {p : PackD} (s : PackS) (h : p.kind = 9) : onlyF p = ⟨9, p.trace, p.bn, p.bnode, 0, 0, 0, false, p.spans, [], []⟩ ∧ onlyS p.kind s = ⟨s.a1, s.c1, none, 0, none, 0⟩ := by
 unfold onlyF onlyS
 rw [h]
 simp
theorem only_10 {p : PackD} (s : PackS) (h : p.kind = 10) : onlyF p = ⟨10, p.trace, 0, 0, 0, 0, 0, false, [], [], p.ids⟩ ∧ onlyS p.kind s = ⟨none, 0, none, 0, s.a3, s.c3⟩ := by
 unfold onlyF onlyS
 rw [h]
 simp
theorem only_none {p : PackD} (s : PackS) (h : ¬ (1 ≤ p.kind ∧ p.kind ≤ 10)) : onlyF p = ⟨p.kind, p.trace, 0, 0, 0, 0, 0, false, [], [], []⟩ ∧ onlyS p.kind s = ⟨none, 0, none, 0, none, 0⟩ := by
 unfold onlyF onlyS
 rw [if_neg (show ¬ p.kind = 1 by omega), if_neg (show ¬ p.kind = 1 by omega)]
 rw [if_neg (show ¬ p.kind = 2 by omega), if_neg (show ¬ p.kind = 2 by omega)]
 rw [if_neg (show ¬ p.kind = 3 by omega), if_neg (show ¬ p.kind = 3 by omega)]
 rw [if_neg (show ¬ p.kind = 4 by omega), if_neg (show ¬ p.kind = 4 by omega)]
 rw [if_neg (show ¬ p.kind = 5 by omega), if_neg (show ¬ p.kind = 5 by omega)]
 rw [if_neg (show ¬ p.kind = 6 by omega), if_neg (show ¬ p.kind = 6 by omega)]
 rw [if_neg (show ¬ p.kind = 7 by omega), if_neg (show ¬ p.kind = 7 by omega)]
 rw [if_neg (show ¬ p.kind = 8 by omega), if_neg (show ¬ p.kind = 8 by omega)]
 rw [if_neg (show ¬ p.kind = 9 by omega), if_neg (show ¬ p.kind = 9 by omega)]
 rw [if_neg (show ¬ p.kind = 10 by omega), if_neg (show ¬ p.kind = 10 by omega)]
 exact ⟨rfl, rfl⟩
theorem only_in {w : World} {p : PackD} {s : PackS} (h : PackIn w p s) : PackIn w (onlyF p) (onlyS p.kind s) := by
 have n1 : SpanRow w none 0 0 [] := ⟨fun h => absurd rfl h, rfl, Nat.le_refl _, by omega, fun _ => rfl⟩
 have n2 : MemRow w none 0 0 [] := MemRow.none w
 have n3 : Row w none 0 0 (idVals []) := Row.none w
 by_cases hk : 1 ≤ p.kind ∧ p.kind ≤ 10
 ·rcases kind_cases hk with e | e | e | e | e | e | e | e | e | e
  ·rw [(only_1 s e).1, (only_1 s e).2]
   exact ⟨h.r1, n2, n3⟩
  ·rw [(only_2 s e).1, (only_2 s e).2]
   exact ⟨h.r1, n2, n3⟩
  ·rw [(only_3 s e).1, (only_3 s e).2]
   exact ⟨n1, h.r2, n3⟩
  ·rw [(only_4 s e).1, (only_4 s e).2]
   exact ⟨n1, n2, n3⟩
  ·rw [(only_5 s e).1, (only_5 s e).2]
   exact ⟨n1, n2, n3⟩
  ·rw [(only_6 s e).1, (only_6 s e).2]
   exact ⟨n1, n2, n3⟩
  ·rw [(only_7 s e).1, (only_7 s e).2]
   exact ⟨n1, n2, n3⟩
  ·rw [(only_8 s e).1, (only_8 s e).2]
   exact ⟨n1, n2, n3⟩
  ·rw [(only_9 s e).1, (only_9 s e).2]
   exact ⟨h.r1, n2, n3⟩
  ·rw [(only_10 s e).1, (only_10 s e).2]
   exact ⟨n1, n2, h.r3⟩
 ·rw [(only_none s hk).1, (only_none s hk).2]
  exact ⟨n1, n2, n3⟩
def OnlyPost (w : World) (p : PackD) (s : PackS) (e : Ending) (w' : World) : Prop := e = .returned (packVal (onlyF p) (onlyS p.kind s)) ∧ Below w.heap.size w w'
theorem onlyPost_mk {w w' : World} {p : PackD} {s : PackS} {v : Value} (h : packVal (onlyF p) (onlyS p.kind s) = v) (hb : Below w.heap.size w w') : OnlyPost w p s (.returned v) w' := ⟨by rw [h], hb⟩
set_option maxRecDepth 100000 in
set_option maxHeartbeats 8000000 in
theorem only1_any (p : PackD) (s : PackS) (w : World) (hk : p.kind = 1) : Calls Tryz.prog 69 #[packVal p s] w (OnlyPost w p s) := by
 have Hk := hid_ (only_1 s hk)
 obtain ⟨k, tr, bn, bd, sn, sd, v, ok, l1, l2, l3⟩ := p
 obtain ⟨a1, c1, a2, c2, a3, c3⟩ := s
 simp only at hk
 subst hk
 go_enter Tryz.func69, Tryz.ntmps69
 go_wp2_with fail
 exact bodyPost_ret (v := .agg #[.int .i64 1, .int .u64 (tr : Nat), .int .u64 0, .int .u64 0, .int .u64 0, .int .u64 0, .int .i64 0, .bool false, .slice a1 l1.length c1, .slice none 0 0, .slice none 0 0]) (by simp [results, Tryz.results69, go_sem]) rfl (onlyPost_mk (by rw [Hk.out.1, Hk.out.2]; rfl) (by repeat (first | exact Below.refl _ _ | apply Below.drew | refine Below.setCell ?_ (by dsimp only; omega) _ | refine Below.alloc ?_ (Nat.le_refl _) _ | refine Below.alloc ?_ (by simp only [World.size_alloc]; omega) _)))
set_option maxRecDepth 100000 in
set_option maxHeartbeats 8000000 in
theorem only2_any (p : PackD) (s : PackS) (w : World) (hk : p.kind = 2) : Calls Tryz.prog 69 #[packVal p s] w (OnlyPost w p s) := by
 have Hk := hid_ (only_2 s hk)
 obtain ⟨k, tr, bn, bd, sn, sd, v, ok, l1, l2, l3⟩ := p
 obtain ⟨a1, c1, a2, c2, a3, c3⟩ := s
 simp only at hk
 subst hk
 go_enter Tryz.func69, Tryz.ntmps69
 go_wp2_with fail
 exact bodyPost_ret (v := .agg #[.int .i64 2, .int .u64 (tr : Nat), .int .u64 0, .int .u64 0, .int .u64 0, .int .u64 0, .int .i64 0, .bool false, .slice a1 l1.length c1, .slice none 0 0, .slice none 0 0]) (by simp [results, Tryz.results69, go_sem]) rfl (onlyPost_mk (by rw [Hk.out.1, Hk.out.2]; rfl) (by repeat (first | exact Below.refl _ _ | apply Below.drew | refine Below.setCell ?_ (by dsimp only; omega) _ | refine Below.alloc ?_ (Nat.le_refl _) _ | refine Below.alloc ?_ (by simp only [World.size_alloc]; omega) _)))
set_option maxRecDepth 100000 in
set_option maxHeartbeats 8000000 in
theorem only3_any (p : PackD) (s : PackS) (w : World) (hk : p.kind = 3) : Calls Tryz.prog 69 #[packVal p s] w (OnlyPost w p s) := by
 have Hk := hid_ (only_3 s hk)
 obtain ⟨k, tr, bn, bd, sn, sd, v, ok, l1, l2, l3⟩ := p
 obtain ⟨a1, c1, a2, c2, a3, c3⟩ := s
 simp only at hk
 subst hk
 go_enter Tryz.func69, Tryz.ntmps69
 go_wp2_with fail
 exact bodyPost_ret (v := .agg #[.int .i64 3, .int .u64 0, .int .u64 0, .int .u64 0, .int .u64 0, .int .u64 0, .int .i64 0, .bool false, .slice none 0 0, .slice a2 l2.length c2, .slice none 0 0]) (by simp [results, Tryz.results69, go_sem]) rfl (onlyPost_mk (by rw [Hk.out.1, Hk.out.2]; rfl) (by repeat (first | exact Below.refl _ _ | apply Below.drew | refine Below.setCell ?_ (by dsimp only; omega) _ | refine Below.alloc ?_ (Nat.le_refl _) _ | refine Below.alloc ?_ (by simp only [World.size_alloc]; omega) _)))
set_option maxRecDepth 100000 in
set_option maxHeartbeats 8000000 in
theorem only4_any (p : PackD) (s : PackS) (w : World) (hk : p.kind = 4) : Calls Tryz.prog 69 #[packVal p s] w (OnlyPost w p s) := by
 have Hk := hid_ (only_4 s hk)
 obtain ⟨k, tr, bn, bd, sn, sd, v, ok, l1, l2, l3⟩ := p
 obtain ⟨a1, c1, a2, c2, a3, c3⟩ := s
 simp only at hk
 subst hk
 go_enter Tryz.func69, Tryz.ntmps69
 go_wp2_with fail
 exact bodyPost_ret (v := .agg #[.int .i64 4, .int .u64 (tr : Nat), .int .u64 (bn : Nat), .int .u64 (bd : Nat), .int .u64 0, .int .u64 0, .int .i64 0, .bool false, .slice none 0 0, .slice none 0 0, .slice none 0 0]) (by simp [results, Tryz.results69, go_sem]) rfl (onlyPost_mk (by rw [Hk.out.1, Hk.out.2]; rfl) (by repeat (first | exact Below.refl _ _ | apply Below.drew | refine Below.setCell ?_ (by dsimp only; omega) _ | refine Below.alloc ?_ (Nat.le_refl _) _ | refine Below.alloc ?_ (by simp only [World.size_alloc]; omega) _)))
set_option maxRecDepth 100000 in
set_option maxHeartbeats 8000000 in
theorem only5_any (p : PackD) (s : PackS) (w : World) (hk : p.kind = 5) : Calls Tryz.prog 69 #[packVal p s] w (OnlyPost w p s) := by
 have Hk := hid_ (only_5 s hk)
 obtain ⟨k, tr, bn, bd, sn, sd, v, ok, l1, l2, l3⟩ := p
 obtain ⟨a1, c1, a2, c2, a3, c3⟩ := s
 simp only at hk
 subst hk
 go_enter Tryz.func69, Tryz.ntmps69
 go_wp2_with fail
 go_region
 go_wp2_with fail
 exact bodyPost_ret (v := .agg #[.int .i64 5, .int .u64 (tr : Nat), .int .u64 (bn : Nat), .int .u64 (bd : Nat), .int .u64 (sn : Nat), .int .u64 (sd : Nat), .int .i64 v, .bool ok, .slice none 0 0, .slice none 0 0, .slice none 0 0]) (by simp [results, Tryz.results69, go_sem]) rfl (onlyPost_mk (by rw [Hk.out.1, Hk.out.2]; rfl) (by repeat (first | exact Below.refl _ _ | apply Below.drew | refine Below.setCell ?_ (by dsimp only; omega) _ | refine Below.alloc ?_ (Nat.le_refl _) _ | refine Below.alloc ?_ (by simp only [World.size_alloc]; omega) _)))
set_option maxRecDepth 100000 in
set_option maxHeartbeats 8000000 in
theorem only6_any (p : PackD) (s : PackS) (w : World) (hk : p.kind = 6) : Calls Tryz.prog 69 #[packVal p s] w (OnlyPost w p s) := by
 have Hk := hid_ (only_6 s hk)
 obtain ⟨k, tr, bn, bd, sn, sd, v, ok, l1, l2, l3⟩ := p
 obtain ⟨a1, c1, a2, c2, a3, c3⟩ := s
 simp only at hk
 subst hk
 go_enter Tryz.func69, Tryz.ntmps69
 go_wp2_with fail
 go_region
 go_wp2_with fail
 exact bodyPost_ret (v := .agg #[.int .i64 6, .int .u64 (tr : Nat), .int .u64 (bn : Nat), .int .u64 (bd : Nat), .int .u64 0, .int .u64 0, .int .i64 v, .bool false, .slice none 0 0, .slice none 0 0, .slice none 0 0]) (by simp [results, Tryz.results69, go_sem]) rfl (onlyPost_mk (by rw [Hk.out.1, Hk.out.2]; rfl) (by repeat (first | exact Below.refl _ _ | apply Below.drew | refine Below.setCell ?_ (by dsimp only; omega) _ | refine Below.alloc ?_ (Nat.le_refl _) _ | refine Below.alloc ?_ (by simp only [World.size_alloc]; omega) _)))
set_option maxRecDepth 100000 in
set_option maxHeartbeats 8000000 in
theorem only7_any (p : PackD) (s : PackS) (w : World) (hk : p.kind = 7) : Calls Tryz.prog 69 #[packVal p s] w (OnlyPost w p s) := by
 have Hk := hid_ (only_7 s hk)
 obtain ⟨k, tr, bn, bd, sn, sd, v, ok, l1, l2, l3⟩ := p
 obtain ⟨a1, c1, a2, c2, a3, c3⟩ := s
 simp only at hk
 subst hk
 go_enter Tryz.func69, Tryz.ntmps69
 go_wp2_with fail
 go_region
 go_wp2_with fail
 exact bodyPost_ret (v := .agg #[.int .i64 7, .int .u64 (tr : Nat), .int .u64 (bn : Nat), .int .u64 (bd : Nat), .int .u64 (sn : Nat), .int .u64 (sd : Nat), .int .i64 0, .bool ok, .slice none 0 0, .slice none 0 0, .slice none 0 0]) (by simp [results, Tryz.results69, go_sem]) rfl (onlyPost_mk (by rw [Hk.out.1, Hk.out.2]; rfl) (by repeat (first | exact Below.refl _ _ | apply Below.drew | refine Below.setCell ?_ (by dsimp only; omega) _ | refine Below.alloc ?_ (Nat.le_refl _) _ | refine Below.alloc ?_ (by simp only [World.size_alloc]; omega) _)))
set_option maxRecDepth 100000 in
set_option maxHeartbeats 8000000 in
theorem only8_any (p : PackD) (s : PackS) (w : World) (hk : p.kind = 8) : Calls Tryz.prog 69 #[packVal p s] w (OnlyPost w p s) := by
 have Hk := hid_ (only_8 s hk)
 obtain ⟨k, tr, bn, bd, sn, sd, v, ok, l1, l2, l3⟩ := p
 obtain ⟨a1, c1, a2, c2, a3, c3⟩ := s
 simp only at hk
 subst hk
 go_enter Tryz.func69, Tryz.ntmps69
 go_wp2_with fail
 exact bodyPost_ret (v := .agg #[.int .i64 8, .int .u64 (tr : Nat), .int .u64 0, .int .u64 0, .int .u64 0, .int .u64 0, .int .i64 v, .bool false, .slice none 0 0, .slice none 0 0, .slice none 0 0]) (by simp [results, Tryz.results69, go_sem]) rfl (onlyPost_mk (by rw [Hk.out.1, Hk.out.2]; rfl) (by repeat (first | exact Below.refl _ _ | apply Below.drew | refine Below.setCell ?_ (by dsimp only; omega) _ | refine Below.alloc ?_ (Nat.le_refl _) _ | refine Below.alloc ?_ (by simp only [World.size_alloc]; omega) _)))
set_option maxRecDepth 100000 in
set_option maxHeartbeats 8000000 in
theorem only9_any (p : PackD) (s : PackS) (w : World) (hk : p.kind = 9) : Calls Tryz.prog 69 #[packVal p s] w (OnlyPost w p s) := by
 have Hk := hid_ (only_9 s hk)
 obtain ⟨k, tr, bn, bd, sn, sd, v, ok, l1, l2, l3⟩ := p
 obtain ⟨a1, c1, a2, c2, a3, c3⟩ := s
 simp only at hk
 subst hk
 go_enter Tryz.func69, Tryz.ntmps69
 go_wp2_with fail
 go_region
 go_wp2_with fail
 exact bodyPost_ret (v := .agg #[.int .i64 9, .int .u64 (tr : Nat), .int .u64 (bn : Nat), .int .u64 (bd : Nat), .int .u64 0, .int .u64 0, .int .i64 0, .bool false, .slice a1 l1.length c1, .slice none 0 0, .slice none 0 0]) (by simp [results, Tryz.results69, go_sem]) rfl (onlyPost_mk (by rw [Hk.out.1, Hk.out.2]; rfl) (by repeat (first | exact Below.refl _ _ | apply Below.drew | refine Below.setCell ?_ (by dsimp only; omega) _ | refine Below.alloc ?_ (Nat.le_refl _) _ | refine Below.alloc ?_ (by simp only [World.size_alloc]; omega) _)))
set_option maxRecDepth 100000 in
set_option maxHeartbeats 8000000 in
theorem only10_any (p : PackD) (s : PackS) (w : World) (hk : p.kind = 10) : Calls Tryz.prog 69 #[packVal p s] w (OnlyPost w p s) := by
 have Hk := hid_ (only_10 s hk)
 obtain ⟨k, tr, bn, bd, sn, sd, v, ok, l1, l2, l3⟩ := p
 obtain ⟨a1, c1, a2, c2, a3, c3⟩ := s
 simp only at hk
 subst hk
 go_enter Tryz.func69, Tryz.ntmps69
 go_wp2_with fail
 exact bodyPost_ret (v := .agg #[.int .i64 10, .int .u64 (tr : Nat), .int .u64 0, .int .u64 0, .int .u64 0, .int .u64 0, .int .i64 0, .bool false, .slice none 0 0, .slice none 0 0, .slice a3 l3.length c3]) (by simp [results, Tryz.results69, go_sem]) rfl (onlyPost_mk (by rw [Hk.out.1, Hk.out.2]; rfl) (by repeat (first | exact Below.refl _ _ | apply Below.drew | refine Below.setCell ?_ (by dsimp only; omega) _ | refine Below.alloc ?_ (Nat.le_refl _) _ | refine Below.alloc ?_ (by simp only [World.size_alloc]; omega) _)))
set_option maxRecDepth 100000 in
set_option maxHeartbeats 8000000 in
theorem only0_any (p : PackD) (s : PackS) (w : World) (hk : ¬ (1 ≤ p.kind ∧ p.kind ≤ 10)) : Calls Tryz.prog 69 #[packVal p s] w (OnlyPost w p s) := by
 have Hk := hid_ (only_none s hk)
 obtain ⟨k, tr, bn, bd, sn, sd, v, ok, l1, l2, l3⟩ := p
 obtain ⟨a1, c1, a2, c2, a3, c3⟩ := s
 simp only at hk
 have e1 : (k == 1) = false := by rw [beq_eq_false_iff_ne]; omega
 have e2 : (k == 2) = false := by rw [beq_eq_false_iff_ne]; omega
 have e3 : (k == 3) = false := by rw [beq_eq_false_iff_ne]; omega
 have e4 : (k == 4) = false := by rw [beq_eq_false_iff_ne]; omega
 have e5 : (k == 5) = false := by rw [beq_eq_false_iff_ne]; omega
 have e6 : (k == 6) = false := by rw [beq_eq_false_iff_ne]; omega
 have e7 : (k == 7) = false := by rw [beq_eq_false_iff_ne]; omega
 have e8 : (k == 8) = false := by rw [beq_eq_false_iff_ne]; omega
 have e9 : (k == 9) = false := by rw [beq_eq_false_iff_ne]; omega
 have e10 : (k == 10) = false := by rw [beq_eq_false_iff_ne]; omega
 clear hk
 go_enter Tryz.func69, Tryz.ntmps69
 go_wp2_with fail
 exact bodyPost_ret (v := .agg #[.int .i64 k, .int .u64 (tr : Nat), .int .u64 0, .int .u64 0, .int .u64 0, .int .u64 0, .int .i64 0, .bool false, .slice none 0 0, .slice none 0 0, .slice none 0 0]) (by simp [results, Tryz.results69, go_sem]) rfl (onlyPost_mk (by rw [Hk.out.1, Hk.out.2]; rfl) (by repeat (first | exact Below.refl _ _ | apply Below.drew | refine Below.setCell ?_ (by dsimp only; omega) _ | refine Below.alloc ?_ (Nat.le_refl _) _ | refine Below.alloc ?_ (by simp only [World.size_alloc]; omega) _)))
theorem only_any (p : PackD) (s : PackS) (w : World) : Calls Tryz.prog 69 #[packVal p s] w (OnlyPost w p s) := by
 by_cases hk : 1 ≤ p.kind ∧ p.kind ≤ 10
 ·rcases kind_cases hk with e | e | e | e | e | e | e | e | e | e
  ·exact only1_any p s w e
  ·exact only2_any p s w e
  ·exact only3_any p s w e
  ·exact only4_any p s w e
  ·exact only5_any p s w e
  ·exact only6_any p s w e
  ·exact only7_any p s w e
  ·exact only8_any p s w e
  ·exact only9_any p s w e
  ·exact only10_any p s w e
 ·exact only0_any p s w hk
end Go.Proofs.YthjhofmjhmnddaaGreat
/-
 What the reference's Right answers of a packet.
-/
namespace Go.Proofs.YthjhofmjhmnddaaGreat
open Go.RowKit Ru
set_option linter.unusedSimpArgs false
attribute [local go_sem] undef
def toldF (v : Int) : Bool := decide (1 ≤ v) && decide (v ≤ 3)
def restF (p : PackD) : Bool :=
 if p.kind = 1 ∨ p.kind = 2 then spansR p.trace p.spans else
 if p.kind = 3 then membersR p.members else
 if p.kind = 4 then decide (p.bn ≠ 0) else
 if p.kind = 5 then decide (p.bn ≠ 0) && ((decide (p.v = 0) || (toldF p.v && isB p.sn p.snode)) && (if p.ok then decide (p.v ≠ 0) || !isB p.sn p.snode else decide (p.v = 0) && isB p.sn p.snode)) else
 if p.kind = 6 then decide (p.bn ≠ 0) && toldF p.v else
 if p.kind = 7 then decide (p.bn ≠ 0) && (p.ok == !isB p.sn p.snode) else
 if p.kind = 8 then toldF p.v else
 if p.kind = 9 then decide (p.bn ≠ 0) && spansR p.trace p.spans else
 if p.kind = 10 then riseF p.ids else false
def baseF (p : PackD) : Bool := sameP p (onlyF p) && ((p.kind == 3) || ((p.trace : Int) != 0))
def refRightP (p : PackD) : Bool := baseF p && restF p
theorem ballot_zero (a b : Nat) (w : World) : (binOp .eql 35 (.agg #[.int .u64 (a : Nat), .int .u64 (b : Nat)]) (.agg #[.int .u64 0, .int .u64 0])).run Tryz.prog w = .ok (.bool (!isB a b)) w := by
 rw [run_eql_struct, ballot_equalIn]
 rfl
abbrev PIn (w1 : World) (g : Nat) (p : PackD) (s : PackS) (W : World) : Prop :=
 Below w1.heap.size w1 W ∧ W.cell? ⟨g, 0, none⟩ = some (.int .i64 p.kind) ∧ W.cell? ⟨g, 1, none⟩ = some (.int .u64 (p.trace : Nat)) ∧ W.cell? ⟨g, 2, none⟩ = some (.int .u64 (p.bn : Nat)) ∧ W.cell? ⟨g, 3, none⟩ = some (.int .u64 (p.bnode : Nat)) ∧ W.cell? ⟨g, 4, none⟩ = some (.int .u64 (p.sn : Nat)) ∧ W.cell? ⟨g, 5, none⟩ = some (.int .u64 (p.snode : Nat)) ∧ W.cell? ⟨g, 6, none⟩ = some (.int .i64 p.v) ∧ W.cell? ⟨g, 7, none⟩ = some (.bool p.ok) ∧ W.cell? ⟨g, 8, none⟩ = some (.slice s.a1 p.spans.length s.c1) ∧ W.cell? ⟨g, 9, none⟩ = some (.slice s.a2 p.members.length s.c2) ∧ W.cell? ⟨g, 10, none⟩ = some (.slice s.a3 p.ids.length s.c3)
theorem pIn_keep {w1 W W' : World} {g : Nat} {p : PackD} {s : PackS} (hg : g < w1.heap.size) (h : PIn w1 g p s W) (hb : Below W.heap.size W W') : PIn w1 g p s W' := by
 obtain ⟨h0, a0, a1, a2, a3, a4, a5, a6, a7, a8, a9, a10⟩ := h
 have k : ∀ o', W'.cell? ⟨g, o', none⟩ = W.cell? ⟨g, o', none⟩ := fun o' => hb.cell (p := ⟨g, o', none⟩) (Nat.lt_of_lt_of_le hg h0.size)
 refine ⟨h0.trans (hb.mono h0.size), ?_, ?_, ?_, ?_, ?_, ?_, ?_, ?_, ?_, ?_, ?_⟩
 all_goals rw [k]; assumption
theorem pIn_of {W : World} {g : Nat} {p : PackD} {s : PackS} (h : packBox W g p s) : PIn W g p s W :=
 ⟨Below.refl _ _, h.cell 0 _ rfl, h.cell 1 _ rfl, h.cell 2 _ rfl, h.cell 3 _ rfl, h.cell 4 _ rfl, h.cell 5 _ rfl, h.cell 6 _ rfl, h.cell 7 _ rfl, h.cell 8 _ rfl, h.cell 9 _ rfl, h.cell 10 _ rfl⟩
end Go.Proofs.YthjhofmjhmnddaaGreat
/-
 The reference's Right and the program's Right are one.
-/
namespace Go.Proofs.YthjhofmjhmnddaaGreat
open Go.RowKit Ru
theorem eqF_self {α : Type} {f : α → α → Bool} (h : ∀ a, f a a = true) : ∀ l : List α, eqF f l l = true
 | [] => rfl
 | a :: l => by rw [eqF, h a, eqF_self h l]; rfl
theorem eqF_cons_nil {α : Type} (f : α → α → Bool) (a : α) (l : List α) : eqF f (a :: l) [] = false := rfl
theorem eqF_nil_nil {α : Type} (f : α → α → Bool) : eqF f [] [] = true := rfl
theorem sameM_self (m : MemberD) : sameM m m = true := by simp [sameM]
theorem eqN_self (n : Nat) : eqN n n = true := by simp [eqN]
theorem membersF_nil : membersF [] = true := rfl
theorem risesF_nil : risesF [] = true := rfl
theorem spansF_nil (t : Nat) : spansF t [] = true := rfl
theorem length_no (n : Nat) : lengthF false n 16 = decide (n = 0) := rfl
theorem length_yes (n : Nat) : lengthF true n 16 = inF n := rfl
theorem decide_nat_int (n : Nat) : ((n : Int) != 0) = decide (n ≠ 0) := by
 by_cases h : n = 0 <;> simp [h]
theorem ref_right1 (k : Int) (hk : k = 1 ∨ k = 2 ∨ k = 9) (tr bn bd sn sd : Nat) (v : Int) (ok : Bool) (l1 : List SpanD) (l2 : List MemberD) (l3 : List Nat) : refRightP ⟨k, tr, bn, bd, sn, sd, v, ok, l1, l2, l3⟩ = rightP ⟨k, tr, bn, bd, sn, sd, v, ok, l1, l2, l3⟩ := by
 have h1 := eqF_self sameF_self l1
 rcases hk with rfl | rfl | rfl
 all_goals
  cases l2 <;> cases l3
  all_goals
   simp only [refRightP, baseF, restF, sameP, scalF, onlyF, rightP, noParts, partsF, numbersF, ballotF, vLeast, vMost, answerF, isB, listsF, length_no, length_yes, membersF_nil, risesF_nil, spansR, eqB, h1, eqF_cons_nil, eqF_nil_nil, decide_nat_int]
   generalize spansF tr l1 = g
 all_goals
  rw [Bool.eq_iff_iff]
  simp [length_no, length_yes, eqF_cons_nil, eqF_nil_nil, eqF_self sameF_self, eqF_self sameM_self, eqF_self eqN_self]
  try grind
theorem ref_right3 (tr bn bd sn sd : Nat) (v : Int) (ok : Bool) (l1 : List SpanD) (l2 : List MemberD) (l3 : List Nat) : refRightP ⟨3, tr, bn, bd, sn, sd, v, ok, l1, l2, l3⟩ = rightP ⟨3, tr, bn, bd, sn, sd, v, ok, l1, l2, l3⟩ := by
 have h1 := eqF_self sameM_self l2
 cases l1 <;> cases l3
 all_goals
  simp only [refRightP, baseF, restF, sameP, scalF, onlyF, rightP, noParts, partsF, numbersF, ballotF, vLeast, vMost, answerF, isB, listsF, length_no, length_yes, spansF_nil, risesF_nil, membersR, eqB, h1, eqF_cons_nil, eqF_nil_nil, decide_nat_int]
  generalize membersF l2 = g
 all_goals
  rw [Bool.eq_iff_iff]
  simp [length_no, length_yes, eqF_cons_nil, eqF_nil_nil, eqF_self sameF_self, eqF_self sameM_self, eqF_self eqN_self]
  try grind
theorem ref_right10 (tr bn bd sn sd : Nat) (v : Int) (ok : Bool) (l1 : List SpanD) (l2 : List MemberD) (l3 : List Nat) : refRightP ⟨10, tr, bn, bd, sn, sd, v, ok, l1, l2, l3⟩ = rightP ⟨10, tr, bn, bd, sn, sd, v, ok, l1, l2, l3⟩ := by
 have h1 := eqF_self eqN_self l3
 cases l1 <;> cases l2
 all_goals
  simp only [refRightP, baseF, restF, sameP, scalF, onlyF, rightP, noParts, partsF, numbersF, ballotF, vLeast, vMost, answerF, isB, listsF, length_no, length_yes, spansF_nil, membersF_nil, riseF, eqB, h1, eqF_cons_nil, eqF_nil_nil, decide_nat_int]
  generalize risesF l3 = g
 all_goals
  rw [Bool.eq_iff_iff]
  simp [length_no, length_yes, eqF_cons_nil, eqF_nil_nil, eqF_self sameF_self, eqF_self sameM_self, eqF_self eqN_self]
  try grind
theorem ref_right4 (k : Int) (hk : k = 4 ∨ k = 5 ∨ k = 6 ∨ k = 7 ∨ k = 8) (tr bn bd sn sd : Nat) (v : Int) (ok : Bool) (l1 : List SpanD) (l2 : List MemberD) (l3 : List Nat) : refRightP ⟨k, tr, bn, bd, sn, sd, v, ok, l1, l2, l3⟩ = rightP ⟨k, tr, bn, bd, sn, sd, v, ok, l1, l2, l3⟩ := by
 rcases hk with rfl | rfl | rfl | rfl | rfl
 all_goals
  cases l1 <;> cases l2 <;> cases l3
  all_goals
   cases ok
   all_goals
    simp only [refRightP, baseF, restF, sameP, scalF, onlyF, rightP, noParts, partsF, numbersF, ballotF, vLeast, vMost, answerF, isB, listsF, length_no, length_yes, spansF_nil, membersF_nil, risesF_nil, toldF, eqB, eqF_cons_nil, eqF_nil_nil, decide_nat_int]
 all_goals
  rw [Bool.eq_iff_iff]
  simp [length_no, length_yes, eqF_cons_nil, eqF_nil_nil, eqF_self sameF_self, eqF_self sameM_self, eqF_self eqN_self]
  try grind
theorem ref_right (p : PackD) : refRightP p = rightP p := by
 obtain ⟨k, tr, bn, bd, sn, sd, v, ok, l1, l2, l3⟩ := p
 by_cases hk : 1 ≤ k ∧ k ≤ 10
 ·rcases kind_cases hk with e | e | e | e | e | e | e | e | e | e
  ·exact ref_right1 k (.inl e) ..
  ·exact ref_right1 k (.inr (.inl e)) ..
  ·subst e; exact ref_right3 ..
  ·exact ref_right4 k (by omega) ..
  ·exact ref_right4 k (by omega) ..
  ·exact ref_right4 k (by omega) ..
  ·exact ref_right4 k (by omega) ..
  ·exact ref_right4 k (by omega) ..
  ·exact ref_right1 k (.inr (.inr e)) ..
  ·subst e; exact ref_right10 ..
 ·have h1 : restF ⟨k, tr, bn, bd, sn, sd, v, ok, l1, l2, l3⟩ = false := by
   unfold restF
   simp only
   rw [if_neg (by omega), if_neg (by omega), if_neg (by omega), if_neg (by omega), if_neg (by omega), if_neg (by omega), if_neg (by omega), if_neg (by omega), if_neg (by omega)]
  unfold refRightP rightP
  rw [h1, Bool.and_false]
  simp only
  rw [parts_none hk]
  rfl
end Go.Proofs.YthjhofmjhmnddaaGreat
