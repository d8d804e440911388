/-
  What the reference's only answers: a packet that has nothing but what its kind has use for.
-/
import Derived.Test.YtnpbokbfkdncmaaGreatZGI
namespace Go.Proofs.YtnpbokbfkdncmaaGreat
open Go.RowKit Ru

def onlyF (p : PackD) : PackD :=
  if p.kind = 1 then ⟨p.kind, p.trace, 0, 0, 0, 0, 0, false, p.spans, [], []⟩ else
  if p.kind = 2 then ⟨p.kind, p.trace, 0, 0, 0, 0, 0, false, p.spans, [], []⟩ else
  if p.kind = 3 then ⟨p.kind, 0, 0, 0, 0, 0, 0, false, [], p.members, []⟩ else
  if p.kind = 4 then ⟨p.kind, p.trace, p.bn, p.bnode, 0, 0, 0, false, [], [], []⟩ else
  if p.kind = 5 then ⟨p.kind, p.trace, p.bn, p.bnode, p.sn, p.snode, p.v, p.ok, [], [], []⟩ else
  if p.kind = 6 then ⟨p.kind, p.trace, p.bn, p.bnode, 0, 0, p.v, false, [], [], []⟩ else
  if p.kind = 7 then ⟨p.kind, p.trace, p.bn, p.bnode, p.sn, p.snode, 0, p.ok, [], [], []⟩ else
  if p.kind = 8 then ⟨p.kind, p.trace, 0, 0, 0, 0, p.v, false, [], [], []⟩ else
  if p.kind = 9 then ⟨p.kind, p.trace, p.bn, p.bnode, 0, 0, 0, false, p.spans, [], []⟩ else
  if p.kind = 10 then ⟨p.kind, p.trace, 0, 0, 0, 0, 0, false, [], [], p.ids⟩ else
  ⟨p.kind, p.trace, 0, 0, 0, 0, 0, false, [], [], []⟩
def onlyS (k : Int) (s : PackS) : PackS :=
  if k = 1 then ⟨s.a1, s.c1, none, 0, none, 0⟩ else
  if k = 2 then ⟨s.a1, s.c1, none, 0, none, 0⟩ else
  if k = 3 then ⟨none, 0, s.a2, s.c2, none, 0⟩ else
  if k = 4 then ⟨none, 0, none, 0, none, 0⟩ else
  if k = 5 then ⟨none, 0, none, 0, none, 0⟩ else
  if k = 6 then ⟨none, 0, none, 0, none, 0⟩ else
  if k = 7 then ⟨none, 0, none, 0, none, 0⟩ else
  if k = 8 then ⟨none, 0, none, 0, none, 0⟩ else
  if k = 9 then ⟨s.a1, s.c1, none, 0, none, 0⟩ else
  if k = 10 then ⟨none, 0, none, 0, s.a3, s.c3⟩ else
  ⟨none, 0, none, 0, none, 0⟩
theorem only_1 {p : PackD} (s : PackS) (h : p.kind = 1) : onlyF p = ⟨1, p.trace, 0, 0, 0, 0, 0, false, p.spans, [], []⟩ ∧ onlyS p.kind s = ⟨s.a1, s.c1, none, 0, none, 0⟩ := by
  unfold onlyF onlyS
  rw [h]
  simp
theorem only_2 {p : PackD} (s : PackS) (h : p.kind = 2) : onlyF p = ⟨2, p.trace, 0, 0, 0, 0, 0, false, p.spans, [], []⟩ ∧ onlyS p.kind s = ⟨s.a1, s.c1, none, 0, none, 0⟩ := by
  unfold onlyF onlyS
  rw [h]
  simp
theorem only_3 {p : PackD} (s : PackS) (h : p.kind = 3) : onlyF p = ⟨3, 0, 0, 0, 0, 0, 0, false, [], p.members, []⟩ ∧ onlyS p.kind s = ⟨none, 0, s.a2, s.c2, none, 0⟩ := by
  unfold onlyF onlyS
  rw [h]
  simp
theorem only_4 {p : PackD} (s : PackS) (h : p.kind = 4) : onlyF p = ⟨4, p.trace, p.bn, p.bnode, 0, 0, 0, false, [], [], []⟩ ∧ onlyS p.kind s = ⟨none, 0, none, 0, none, 0⟩ := by
  unfold onlyF onlyS
  rw [h]
  simp
theorem only_5 {p : PackD} (s : PackS) (h : p.kind = 5) : onlyF p = ⟨5, p.trace, p.bn, p.bnode, p.sn, p.snode, p.v, p.ok, [], [], []⟩ ∧ onlyS p.kind s = ⟨none, 0, none, 0, none, 0⟩ := by
  unfold onlyF onlyS
  rw [h]
  simp
theorem only_6 {p : PackD} (s : PackS) (h : p.kind = 6) : onlyF p = ⟨6, p.trace, p.bn, p.bnode, 0, 0, p.v, false, [], [], []⟩ ∧ onlyS p.kind s = ⟨none, 0, none, 0, none, 0⟩ := by
  unfold onlyF onlyS
  rw [h]
  simp
theorem only_7 {p : PackD} (s : PackS) (h : p.kind = 7) : onlyF p = ⟨7, p.trace, p.bn, p.bnode, p.sn, p.snode, 0, p.ok, [], [], []⟩ ∧ onlyS p.kind s = ⟨none, 0, none, 0, none, 0⟩ := by
  unfold onlyF onlyS
  rw [h]
  simp
theorem only_8 {p : PackD} (s : PackS) (h : p.kind = 8) : onlyF p = ⟨8, p.trace, 0, 0, 0, 0, p.v, false, [], [], []⟩ ∧ onlyS p.kind s = ⟨none, 0, none, 0, none, 0⟩ := by
  unfold onlyF onlyS
  rw [h]
  simp
theorem only_9 {p : PackD} (s : PackS) (h : p.kind = 9) : onlyF p = ⟨9, p.trace, p.bn, p.bnode, 0, 0, 0, false, p.spans, [], []⟩ ∧ onlyS p.kind s = ⟨s.a1, s.c1, none, 0, none, 0⟩ := by
  unfold onlyF onlyS
  rw [h]
  simp
theorem only_10 {p : PackD} (s : PackS) (h : p.kind = 10) : onlyF p = ⟨10, p.trace, 0, 0, 0, 0, 0, false, [], [], p.ids⟩ ∧ onlyS p.kind s = ⟨none, 0, none, 0, s.a3, s.c3⟩ := by
  unfold onlyF onlyS
  rw [h]
  simp
theorem only_none {p : PackD} (s : PackS) (h : ¬ (1 ≤ p.kind ∧ p.kind ≤ 10)) : onlyF p = ⟨p.kind, p.trace, 0, 0, 0, 0, 0, false, [], [], []⟩ ∧ onlyS p.kind s = ⟨none, 0, none, 0, none, 0⟩ := by
  unfold onlyF onlyS
  rw [if_neg (show ¬ p.kind = 1 by omega), if_neg (show ¬ p.kind = 1 by omega)]
  rw [if_neg (show ¬ p.kind = 2 by omega), if_neg (show ¬ p.kind = 2 by omega)]
  rw [if_neg (show ¬ p.kind = 3 by omega), if_neg (show ¬ p.kind = 3 by omega)]
  rw [if_neg (show ¬ p.kind = 4 by omega), if_neg (show ¬ p.kind = 4 by omega)]
  rw [if_neg (show ¬ p.kind = 5 by omega), if_neg (show ¬ p.kind = 5 by omega)]
  rw [if_neg (show ¬ p.kind = 6 by omega), if_neg (show ¬ p.kind = 6 by omega)]
  rw [if_neg (show ¬ p.kind = 7 by omega), if_neg (show ¬ p.kind = 7 by omega)]
  rw [if_neg (show ¬ p.kind = 8 by omega), if_neg (show ¬ p.kind = 8 by omega)]
  rw [if_neg (show ¬ p.kind = 9 by omega), if_neg (show ¬ p.kind = 9 by omega)]
  rw [if_neg (show ¬ p.kind = 10 by omega), if_neg (show ¬ p.kind = 10 by omega)]
  exact ⟨rfl, rfl⟩
theorem only_in {w : World} {p : PackD} {s : PackS} (h : PackIn w p s) : PackIn w (onlyF p) (onlyS p.kind s) := by
  have n1 : SpanRow w none 0 0 [] := ⟨fun h => absurd rfl h, rfl, Nat.le_refl _, by omega, fun _ => rfl⟩
  have n2 : MemRow w none 0 0 [] := MemRow.none w
  have n3 : Row w none 0 0 (idVals []) := Row.none w
  by_cases hk : 1 ≤ p.kind ∧ p.kind ≤ 10
  · rcases kind_cases hk with e | e | e | e | e | e | e | e | e | e
    · rw [(only_1 s e).1, (only_1 s e).2]
      exact ⟨h.r1, n2, n3⟩
    · rw [(only_2 s e).1, (only_2 s e).2]
      exact ⟨h.r1, n2, n3⟩
    · rw [(only_3 s e).1, (only_3 s e).2]
      exact ⟨n1, h.r2, n3⟩
    · rw [(only_4 s e).1, (only_4 s e).2]
      exact ⟨n1, n2, n3⟩
    · rw [(only_5 s e).1, (only_5 s e).2]
      exact ⟨n1, n2, n3⟩
    · rw [(only_6 s e).1, (only_6 s e).2]
      exact ⟨n1, n2, n3⟩
    · rw [(only_7 s e).1, (only_7 s e).2]
      exact ⟨n1, n2, n3⟩
    · rw [(only_8 s e).1, (only_8 s e).2]
      exact ⟨n1, n2, n3⟩
    · rw [(only_9 s e).1, (only_9 s e).2]
      exact ⟨h.r1, n2, n3⟩
    · rw [(only_10 s e).1, (only_10 s e).2]
      exact ⟨n1, n2, h.r3⟩
  · rw [(only_none s hk).1, (only_none s hk).2]
    exact ⟨n1, n2, n3⟩
def OnlyPost (w : World) (p : PackD) (s : PackS) (e : Ending) (w' : World) : Prop := e = .returned (packVal (onlyF p) (onlyS p.kind s)) ∧ Below w.heap.size w w'
theorem onlyPost_mk {w w' : World} {p : PackD} {s : PackS} {v : Value} (h : packVal (onlyF p) (onlyS p.kind s) = v) (hb : Below w.heap.size w w') : OnlyPost w p s (.returned v) w' := ⟨by rw [h], hb⟩
set_option maxRecDepth 100000 in
set_option maxHeartbeats 8000000 in
theorem only1_any (p : PackD) (s : PackS) (w : World) (hk : p.kind = 1) : Calls Tryz.prog 46 #[packVal p s] w (OnlyPost w p s) := by
  have Hk := hid_ (only_1 s hk)
  obtain ⟨k, tr, bn, bd, sn, sd, v, ok, l1, l2, l3⟩ := p
  obtain ⟨a1, c1, a2, c2, a3, c3⟩ := s
  simp only at hk
  subst hk
  go_enter Tryz.func46, Tryz.ntmps46
  go_wp2_with fail
  exact bodyPost_ret (v := .agg #[.int .i64 1, .int .u64 (tr : Nat), .int .u64 0, .int .u64 0, .int .u64 0, .int .u64 0, .int .i64 0, .bool false, .slice a1 l1.length c1, .slice none 0 0, .slice none 0 0]) (by simp [results, Tryz.results46, go_sem]) rfl (onlyPost_mk (by rw [Hk.out.1, Hk.out.2]; rfl) (by repeat (first | exact Below.refl _ _ | apply Below.drew | refine Below.setCell ?_ (by dsimp only; omega) _ | refine Below.alloc ?_ (Nat.le_refl _) _ | refine Below.alloc ?_ (by simp only [World.size_alloc]; omega) _)))
set_option maxRecDepth 100000 in
set_option maxHeartbeats 8000000 in
theorem only2_any (p : PackD) (s : PackS) (w : World) (hk : p.kind = 2) : Calls Tryz.prog 46 #[packVal p s] w (OnlyPost w p s) := by
  have Hk := hid_ (only_2 s hk)
  obtain ⟨k, tr, bn, bd, sn, sd, v, ok, l1, l2, l3⟩ := p
  obtain ⟨a1, c1, a2, c2, a3, c3⟩ := s
  simp only at hk
  subst hk
  go_enter Tryz.func46, Tryz.ntmps46
  go_wp2_with fail
  exact bodyPost_ret (v := .agg #[.int .i64 2, .int .u64 (tr : Nat), .int .u64 0, .int .u64 0, .int .u64 0, .int .u64 0, .int .i64 0, .bool false, .slice a1 l1.length c1, .slice none 0 0, .slice none 0 0]) (by simp [results, Tryz.results46, go_sem]) rfl (onlyPost_mk (by rw [Hk.out.1, Hk.out.2]; rfl) (by repeat (first | exact Below.refl _ _ | apply Below.drew | refine Below.setCell ?_ (by dsimp only; omega) _ | refine Below.alloc ?_ (Nat.le_refl _) _ | refine Below.alloc ?_ (by simp only [World.size_alloc]; omega) _)))
set_option maxRecDepth 100000 in
set_option maxHeartbeats 8000000 in
theorem only3_any (p : PackD) (s : PackS) (w : World) (hk : p.kind = 3) : Calls Tryz.prog 46 #[packVal p s] w (OnlyPost w p s) := by
  have Hk := hid_ (only_3 s hk)
  obtain ⟨k, tr, bn, bd, sn, sd, v, ok, l1, l2, l3⟩ := p
  obtain ⟨a1, c1, a2, c2, a3, c3⟩ := s
  simp only at hk
  subst hk
  go_enter Tryz.func46, Tryz.ntmps46
  go_wp2_with fail
  exact bodyPost_ret (v := .agg #[.int .i64 3, .int .u64 0, .int .u64 0, .int .u64 0, .int .u64 0, .int .u64 0, .int .i64 0, .bool false, .slice none 0 0, .slice a2 l2.length c2, .slice none 0 0]) (by simp [results, Tryz.results46, go_sem]) rfl (onlyPost_mk (by rw [Hk.out.1, Hk.out.2]; rfl) (by repeat (first | exact Below.refl _ _ | apply Below.drew | refine Below.setCell ?_ (by dsimp only; omega) _ | refine Below.alloc ?_ (Nat.le_refl _) _ | refine Below.alloc ?_ (by simp only [World.size_alloc]; omega) _)))
set_option maxRecDepth 100000 in
set_option maxHeartbeats 8000000 in
theorem only4_any (p : PackD) (s : PackS) (w : World) (hk : p.kind = 4) : Calls Tryz.prog 46 #[packVal p s] w (OnlyPost w p s) := by
  have Hk := hid_ (only_4 s hk)
  obtain ⟨k, tr, bn, bd, sn, sd, v, ok, l1, l2, l3⟩ := p
  obtain ⟨a1, c1, a2, c2, a3, c3⟩ := s
  simp only at hk
  subst hk
  go_enter Tryz.func46, Tryz.ntmps46
  go_wp2_with fail
  exact bodyPost_ret (v := .agg #[.int .i64 4, .int .u64 (tr : Nat), .int .u64 (bn : Nat), .int .u64 (bd : Nat), .int .u64 0, .int .u64 0, .int .i64 0, .bool false, .slice none 0 0, .slice none 0 0, .slice none 0 0]) (by simp [results, Tryz.results46, go_sem]) rfl (onlyPost_mk (by rw [Hk.out.1, Hk.out.2]; rfl) (by repeat (first | exact Below.refl _ _ | apply Below.drew | refine Below.setCell ?_ (by dsimp only; omega) _ | refine Below.alloc ?_ (Nat.le_refl _) _ | refine Below.alloc ?_ (by simp only [World.size_alloc]; omega) _)))
set_option maxRecDepth 100000 in
set_option maxHeartbeats 8000000 in
theorem only5_any (p : PackD) (s : PackS) (w : World) (hk : p.kind = 5) : Calls Tryz.prog 46 #[packVal p s] w (OnlyPost w p s) := by
  have Hk := hid_ (only_5 s hk)
  obtain ⟨k, tr, bn, bd, sn, sd, v, ok, l1, l2, l3⟩ := p
  obtain ⟨a1, c1, a2, c2, a3, c3⟩ := s
  simp only at hk
  subst hk
  go_enter Tryz.func46, Tryz.ntmps46
  go_wp2_with fail
  go_region
  go_wp2_with fail
  exact bodyPost_ret (v := .agg #[.int .i64 5, .int .u64 (tr : Nat), .int .u64 (bn : Nat), .int .u64 (bd : Nat), .int .u64 (sn : Nat), .int .u64 (sd : Nat), .int .i64 v, .bool ok, .slice none 0 0, .slice none 0 0, .slice none 0 0]) (by simp [results, Tryz.results46, go_sem]) rfl (onlyPost_mk (by rw [Hk.out.1, Hk.out.2]; rfl) (by repeat (first | exact Below.refl _ _ | apply Below.drew | refine Below.setCell ?_ (by dsimp only; omega) _ | refine Below.alloc ?_ (Nat.le_refl _) _ | refine Below.alloc ?_ (by simp only [World.size_alloc]; omega) _)))
set_option maxRecDepth 100000 in
set_option maxHeartbeats 8000000 in
theorem only6_any (p : PackD) (s : PackS) (w : World) (hk : p.kind = 6) : Calls Tryz.prog 46 #[packVal p s] w (OnlyPost w p s) := by
  have Hk := hid_ (only_6 s hk)
  obtain ⟨k, tr, bn, bd, sn, sd, v, ok, l1, l2, l3⟩ := p
  obtain ⟨a1, c1, a2, c2, a3, c3⟩ := s
  simp only at hk
  subst hk
  go_enter Tryz.func46, Tryz.ntmps46
  go_wp2_with fail
  go_region
  go_wp2_with fail
  exact bodyPost_ret (v := .agg #[.int .i64 6, .int .u64 (tr : Nat), .int .u64 (bn : Nat), .int .u64 (bd : Nat), .int .u64 0, .int .u64 0, .int .i64 v, .bool false, .slice none 0 0, .slice none 0 0, .slice none 0 0]) (by simp [results, Tryz.results46, go_sem]) rfl (onlyPost_mk (by rw [Hk.out.1, Hk.out.2]; rfl) (by repeat (first | exact Below.refl _ _ | apply Below.drew | refine Below.setCell ?_ (by dsimp only; omega) _ | refine Below.alloc ?_ (Nat.le_refl _) _ | refine Below.alloc ?_ (by simp only [World.size_alloc]; omega) _)))
set_option maxRecDepth 100000 in
set_option maxHeartbeats 8000000 in
theorem only7_any (p : PackD) (s : PackS) (w : World) (hk : p.kind = 7) : Calls Tryz.prog 46 #[packVal p s] w (OnlyPost w p s) := by
  have Hk := hid_ (only_7 s hk)
  obtain ⟨k, tr, bn, bd, sn, sd, v, ok, l1, l2, l3⟩ := p
  obtain ⟨a1, c1, a2, c2, a3, c3⟩ := s
  simp only at hk
  subst hk
  go_enter Tryz.func46, Tryz.ntmps46
  go_wp2_with fail
  go_region
  go_wp2_with fail
  exact bodyPost_ret (v := .agg #[.int .i64 7, .int .u64 (tr : Nat), .int .u64 (bn : Nat), .int .u64 (bd : Nat), .int .u64 (sn : Nat), .int .u64 (sd : Nat), .int .i64 0, .bool ok, .slice none 0 0, .slice none 0 0, .slice none 0 0]) (by simp [results, Tryz.results46, go_sem]) rfl (onlyPost_mk (by rw [Hk.out.1, Hk.out.2]; rfl) (by repeat (first | exact Below.refl _ _ | apply Below.drew | refine Below.setCell ?_ (by dsimp only; omega) _ | refine Below.alloc ?_ (Nat.le_refl _) _ | refine Below.alloc ?_ (by simp only [World.size_alloc]; omega) _)))
set_option maxRecDepth 100000 in
set_option maxHeartbeats 8000000 in
theorem only8_any (p : PackD) (s : PackS) (w : World) (hk : p.kind = 8) : Calls Tryz.prog 46 #[packVal p s] w (OnlyPost w p s) := by
  have Hk := hid_ (only_8 s hk)
  obtain ⟨k, tr, bn, bd, sn, sd, v, ok, l1, l2, l3⟩ := p
  obtain ⟨a1, c1, a2, c2, a3, c3⟩ := s
  simp only at hk
  subst hk
  go_enter Tryz.func46, Tryz.ntmps46
  go_wp2_with fail
  exact bodyPost_ret (v := .agg #[.int .i64 8, .int .u64 (tr : Nat), .int .u64 0, .int .u64 0, .int .u64 0, .int .u64 0, .int .i64 v, .bool false, .slice none 0 0, .slice none 0 0, .slice none 0 0]) (by simp [results, Tryz.results46, go_sem]) rfl (onlyPost_mk (by rw [Hk.out.1, Hk.out.2]; rfl) (by repeat (first | exact Below.refl _ _ | apply Below.drew | refine Below.setCell ?_ (by dsimp only; omega) _ | refine Below.alloc ?_ (Nat.le_refl _) _ | refine Below.alloc ?_ (by simp only [World.size_alloc]; omega) _)))
set_option maxRecDepth 100000 in
set_option maxHeartbeats 8000000 in
theorem only9_any (p : PackD) (s : PackS) (w : World) (hk : p.kind = 9) : Calls Tryz.prog 46 #[packVal p s] w (OnlyPost w p s) := by
  have Hk := hid_ (only_9 s hk)
  obtain ⟨k, tr, bn, bd, sn, sd, v, ok, l1, l2, l3⟩ := p
  obtain ⟨a1, c1, a2, c2, a3, c3⟩ := s
  simp only at hk
  subst hk
  go_enter Tryz.func46, Tryz.ntmps46
  go_wp2_with fail
  go_region
  go_wp2_with fail
  exact bodyPost_ret (v := .agg #[.int .i64 9, .int .u64 (tr : Nat), .int .u64 (bn : Nat), .int .u64 (bd : Nat), .int .u64 0, .int .u64 0, .int .i64 0, .bool false, .slice a1 l1.length c1, .slice none 0 0, .slice none 0 0]) (by simp [results, Tryz.results46, go_sem]) rfl (onlyPost_mk (by rw [Hk.out.1, Hk.out.2]; rfl) (by repeat (first | exact Below.refl _ _ | apply Below.drew | refine Below.setCell ?_ (by dsimp only; omega) _ | refine Below.alloc ?_ (Nat.le_refl _) _ | refine Below.alloc ?_ (by simp only [World.size_alloc]; omega) _)))
set_option maxRecDepth 100000 in
set_option maxHeartbeats 8000000 in
theorem only10_any (p : PackD) (s : PackS) (w : World) (hk : p.kind = 10) : Calls Tryz.prog 46 #[packVal p s] w (OnlyPost w p s) := by
  have Hk := hid_ (only_10 s hk)
  obtain ⟨k, tr, bn, bd, sn, sd, v, ok, l1, l2, l3⟩ := p
  obtain ⟨a1, c1, a2, c2, a3, c3⟩ := s
  simp only at hk
  subst hk
  go_enter Tryz.func46, Tryz.ntmps46
  go_wp2_with fail
  exact bodyPost_ret (v := .agg #[.int .i64 10, .int .u64 (tr : Nat), .int .u64 0, .int .u64 0, .int .u64 0, .int .u64 0, .int .i64 0, .bool false, .slice none 0 0, .slice none 0 0, .slice a3 l3.length c3]) (by simp [results, Tryz.results46, go_sem]) rfl (onlyPost_mk (by rw [Hk.out.1, Hk.out.2]; rfl) (by repeat (first | exact Below.refl _ _ | apply Below.drew | refine Below.setCell ?_ (by dsimp only; omega) _ | refine Below.alloc ?_ (Nat.le_refl _) _ | refine Below.alloc ?_ (by simp only [World.size_alloc]; omega) _)))
set_option maxRecDepth 100000 in
set_option maxHeartbeats 8000000 in
theorem only0_any (p : PackD) (s : PackS) (w : World) (hk : ¬ (1 ≤ p.kind ∧ p.kind ≤ 10)) : Calls Tryz.prog 46 #[packVal p s] w (OnlyPost w p s) := by
  have Hk := hid_ (only_none s hk)
  obtain ⟨k, tr, bn, bd, sn, sd, v, ok, l1, l2, l3⟩ := p
  obtain ⟨a1, c1, a2, c2, a3, c3⟩ := s
  simp only at hk
  have e1 : (k == 1) = false := by rw [beq_eq_false_iff_ne]; omega
  have e2 : (k == 2) = false := by rw [beq_eq_false_iff_ne]; omega
  have e3 : (k == 3) = false := by rw [beq_eq_false_iff_ne]; omega
  have e4 : (k == 4) = false := by rw [beq_eq_false_iff_ne]; omega
  have e5 : (k == 5) = false := by rw [beq_eq_false_iff_ne]; omega
  have e6 : (k == 6) = false := by rw [beq_eq_false_iff_ne]; omega
  have e7 : (k == 7) = false := by rw [beq_eq_false_iff_ne]; omega
  have e8 : (k == 8) = false := by rw [beq_eq_false_iff_ne]; omega
  have e9 : (k == 9) = false := by rw [beq_eq_false_iff_ne]; omega
  have e10 : (k == 10) = false := by rw [beq_eq_false_iff_ne]; omega
  clear hk
  go_enter Tryz.func46, Tryz.ntmps46
  go_wp2_with fail
  exact bodyPost_ret (v := .agg #[.int .i64 k, .int .u64 (tr : Nat), .int .u64 0, .int .u64 0, .int .u64 0, .int .u64 0, .int .i64 0, .bool false, .slice none 0 0, .slice none 0 0, .slice none 0 0]) (by simp [results, Tryz.results46, go_sem]) rfl (onlyPost_mk (by rw [Hk.out.1, Hk.out.2]; rfl) (by repeat (first | exact Below.refl _ _ | apply Below.drew | refine Below.setCell ?_ (by dsimp only; omega) _ | refine Below.alloc ?_ (Nat.le_refl _) _ | refine Below.alloc ?_ (by simp only [World.size_alloc]; omega) _)))
theorem only_any (p : PackD) (s : PackS) (w : World) : Calls Tryz.prog 46 #[packVal p s] w (OnlyPost w p s) := by
  by_cases hk : 1 ≤ p.kind ∧ p.kind ≤ 10
  · rcases kind_cases hk with e | e | e | e | e | e | e | e | e | e
    · exact only1_any p s w e
    · exact only2_any p s w e
    · exact only3_any p s w e
    · exact only4_any p s w e
    · exact only5_any p s w e
    · exact only6_any p s w e
    · exact only7_any p s w e
    · exact only8_any p s w e
    · exact only9_any p s w e
    · exact only10_any p s w e
  · exact only0_any p s w hk
end Go.Proofs.YtnpbokbfkdncmaaGreat
