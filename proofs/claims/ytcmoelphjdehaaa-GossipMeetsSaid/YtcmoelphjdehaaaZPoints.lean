/-
  Points in memory; comparing them, by place and then by Id.
-/
import Derived.Test.YtcmoelphjdehaaaZMix
import Derived.Test.YtcmoelphjdehaaaZRingMath
import Derived.Test.YtcmoelphjdehaaaZRowK
import Derived.Deep.RegionHeld3
import Derived.Lib.OwnBridge
import Derived.Shelf.SlSortCmp.Insertion
namespace Go.Proofs.Ytcmoelphjdehaaa
set_option linter.unusedSimpArgs false
set_option linter.unusedVariables false
open Go.RowKit
namespace Rg
set_option linter.unusedSimpArgs false
set_option linter.unusedVariables false
def cfP (p : PtD) : List Value := [.int .u64 (p.pos : Nat), .int .u64 (p.id : Nat)]
/-- A point's two cells. -/
def ptE : Enc PtD := ⟨cfP, 2, fun _ => rfl, by decide, fun p u hu => by
  simp [cfP] at hu
  rcases hu with rfl | rfl <;> rfl⟩
/-- A number in a cell. -/
def numE : Enc Nat := ⟨fun n => [.int .u64 (n : Nat)], 1, fun _ => rfl, by decide, fun p u hu => by
  simp at hu
  subst hu
  rfl⟩
/-- A whole number in a cell. -/
def intE : Enc Int := ⟨fun n => [.int .i64 n], 1, fun _ => rfl, by decide, fun p u hu => by
  simp at hu
  subst hu
  rfl⟩
def cmpN (a b : Nat) : Int := if a < b then -1 else if b < a then 1 else 0
def CmpPost (w : World) (k : Int) (e : Ending) (w' : World) : Prop := e = .returned (.int .i64 k) ∧ w = w'
theorem cmpPost_mk {w : World} {k k' : Int} (h : k = k') : CmpPost w k (.returned (.int .i64 k')) w := ⟨by rw [h], rfl⟩
set_option maxHeartbeats 1000000 in
theorem isnan_any (a : Nat) (w : World) : Calls Try.prog 107 #[.int .u64 (a : Nat)] w fun e w' => e = .returned (.bool false) ∧ w = w' := by
  go_enter Try.func107, Try.ntmps107
  go_wp2_with fail
  go_ret
  exact ⟨by simp, rfl⟩
set_option maxHeartbeats 2000000 in
theorem compare_any (a b : Nat) (w : World) : Calls Try.prog 78 #[.int .u64 (a : Nat), .int .u64 (b : Nat)] w (CmpPost w (cmpN a b)) := by
  have Hn := hid_ (fun (x : Nat) W => isnan_any x W)
  rcases Nat.lt_trichotomy a b with h | h | h
  · have Hk := hid_ (show cmpN a b = -1 by unfold cmpN; rw [if_pos h])
    have e1 : decide (a < b) = true := decide_eq_true h
    clear h
    go_enter Try.func78, Try.ntmps78
    go_wp2_with (go_at_call 107; (with_reducible refine Calls.mono (Hn.out _ _) ?_); rintro e w' ⟨rfl, rfl⟩)
    go_ret
    exact cmpPost_mk Hk.out
  · subst h
    have Hk := hid_ (show cmpN a a = 0 by unfold cmpN; rw [if_neg (by omega), if_neg (by omega)])
    have e1 : decide (a < a) = false := decide_eq_false (by omega)
    go_enter Try.func78, Try.ntmps78
    go_wp2_with (go_at_call 107; (with_reducible refine Calls.mono (Hn.out _ _) ?_); rintro e w' ⟨rfl, rfl⟩)
    go_ret
    exact cmpPost_mk Hk.out
  · have Hk := hid_ (show cmpN a b = 1 by unfold cmpN; rw [if_neg (by omega), if_pos h])
    have e1 : decide (a < b) = false := decide_eq_false (by omega)
    have e2 : decide (b < a) = true := decide_eq_true h
    clear h
    go_enter Try.func78, Try.ntmps78
    go_wp2_with (go_at_call 107; (with_reducible refine Calls.mono (Hn.out _ _) ?_); rintro e w' ⟨rfl, rfl⟩)
    go_ret
    exact cmpPost_mk Hk.out


/-- Go's Or over two numbers. -/
def orI (a b : Int) : Int := if a = 0 then b else a
set_option maxHeartbeats 2000000 in
theorem or_any (b : Nat) (x y : Int) (w : World) (h0 : w.cell? ⟨b, 0, none⟩ = some (.int .i64 x)) (h1 : w.cell? ⟨b, 1, none⟩ = some (.int .i64 y)) :
    Calls Try.prog 77 #[.slice (some ⟨b, 0, none⟩) 2 2] w (CmpPost w (orI x y)) := by
  have Hk := hid_ (show orI x y = if x = 0 then y else x from rfl)
  generalize orI x y = r at *
  have e0 : ((0 : Int) != 0) = false := by decide
  by_cases hx : x = 0
  · subst hx
    by_cases hy : y = 0
    · subst hy
      have Hr := hid_ (show r = 0 by rw [Hk.out]; rfl)
      clear Hk
      go_enter Try.func77, Try.ntmps77
      go_wp2
      go_loop [8] (fun i => ∃ k : Nat, k ≤ 2 ∧ i = .int .i64 k) (fun i => 2 - (intOf i).toNat)
      case atStart => exact ⟨0, by omega, rfl⟩
      case round =>
        obtain ⟨k, hk, rfl⟩ := hrel
        rcases (show k = 0 ∨ k = 1 ∨ k = 2 by omega) with rfl | rfl | rfl
        · go_wp2
          go_round
          case rel => exact ⟨1, by omega, rfl⟩
          case measure => simp [intOf]
        · go_wp2
          go_round
          case rel => exact ⟨2, by omega, rfl⟩
          case measure => simp [intOf]
        · go_wp2
          go_ret
          exact cmpPost_mk Hr.out
    · have e1 : (y != 0) = true := by simpa using hy
      have Hr := hid_ (show r = y by rw [Hk.out, if_pos rfl])
      clear Hk hy
      go_enter Try.func77, Try.ntmps77
      go_wp2
      go_loop [8] (fun i => ∃ k : Nat, k ≤ 1 ∧ i = .int .i64 k) (fun i => 2 - (intOf i).toNat)
      case atStart => exact ⟨0, by omega, rfl⟩
      case round =>
        obtain ⟨k, hk, rfl⟩ := hrel
        rcases (show k = 0 ∨ k = 1 by omega) with rfl | rfl
        · go_wp2
          go_round
          case rel => exact ⟨1, by omega, rfl⟩
          case measure => simp [intOf]
        · go_wp2
          go_ret
          exact cmpPost_mk Hr.out
  · have e1 : (x != 0) = true := by simpa using hx
    have Hr := hid_ (show r = x by rw [Hk.out, if_neg hx])
    clear Hk hx
    go_enter Try.func77, Try.ntmps77
    go_wp2
    go_loop [8] (fun i => ∃ k : Nat, k ≤ 0 ∧ i = .int .i64 k) (fun i => 2 - (intOf i).toNat)
    case atStart => exact ⟨0, by omega, rfl⟩
    case round =>
      obtain ⟨k, hk, rfl⟩ := hrel
      obtain rfl : k = 0 := by omega
      go_wp2
      go_ret
      exact cmpPost_mk Hr.out
/-- The order of points, as Go's comparing tells it. -/
def cfPt (a b : PtD) : Int := orI (cmpN a.pos b.pos) (cmpN a.id b.id)
theorem ltPt (a b : PtD) : ltOf cfPt a b = decide (¬ b.Le a) := by
  unfold ltOf cfPt orI cmpN PtD.Le
  by_cases h1 : a.pos < b.pos
  · simp [h1]; try omega
  · by_cases h2 : b.pos < a.pos
    · simp [h1, h2]; try omega
    · by_cases h3 : a.id < b.id
      · simp [h1, h2, h3]; try omega
      · by_cases h4 : b.id < a.id
        · simp [h1, h2, h3, h4]; try omega
        · simp [h1, h2, h3, h4]; try omega
theorem swoPt : Go.Sort.SWO (ltOf cfPt) where
  irrefl x := by rw [ltPt]; simp [PtD.Le.refl]
  trans x y z h1 h2 := by rw [ltPt] at *; simp at *; unfold PtD.Le at *; omega
  ntrans x y z h1 h2 := by rw [ltPt] at *; simp at *; unfold PtD.Le at *; omega
abbrev ptVal (p : PtD) : Value := .agg #[.int .u64 (p.pos : Nat), .int .u64 (p.id : Nat)]
theorem new_at (w : World) (cs : Array Value) (T : TypeId) (n : Nat) (hn : w.heap.size = n) (k : Nat) (u : Value) (hu : cs[k]? = some u) : (w.alloc (.cells cs T)).drew.cell? ⟨n, k, none⟩ = some u := by
  subst hn
  show (w.alloc (.cells cs T)).cell? ⟨w.heap.size, k, none⟩ = some u
  rw [World.cell?_alloc_mark, hu]
def LessPost (k : Int) (W : World) (e : Ending) (w' : World) : Prop := e = .returned (.int .i64 k) ∧ ∃ q os', w' = Go.Sort.grow (W.drewN q) os'
theorem lessPost_mk {k k' : Int} {W w' : World} (h : k = k') (hw : ∃ q os', w' = Go.Sort.grow (W.drewN q) os') : LessPost k W (.returned (.int .i64 k')) w' := ⟨by rw [h], hw⟩
set_option maxHeartbeats 4000000 in
theorem less_any (a b : PtD) (W : World) : Calls Try.prog 76 #[ptVal a, ptVal b] W (LessPost (cfPt a b) W) := by
  have Hk := hid_ (show cfPt a b = orI (cmpN a.pos b.pos) (cmpN a.id b.id) from rfl)
  have Hc := hid_ (fun (x y : Nat) (W' : World) => compare_any x y W')
  have Ho := hid_ (fun (g : Nat) (x y : Int) (W' : World) h0 h1 => or_any g x y W' h0 h1)
  unfold CmpPost at Hc Ho
  generalize cfPt a b = k at *
  go_enter Try.func76, Try.ntmps76
  go_wp2_with fail
  go_region_held3 (fun w' => w'.cell? ⟨W.heap.size, 0, none⟩ = some (.int .u64 (a.pos : Nat)) ∧ w'.cell? ⟨W.heap.size, 1, none⟩ = some (.int .u64 (a.id : Nat)) ∧ w'.cell? ⟨W.heap.size + 1, 0, none⟩ = some (.int .u64 (b.pos : Nat)) ∧ w'.cell? ⟨W.heap.size + 1, 1, none⟩ = some (.int .u64 (b.id : Nat))) (go_keep)
    (first | (go_at_call 78; (with_reducible refine Calls.mono (Hc.out _ _ _) ?_); rintro e w' ⟨rfl, rfl⟩) | (go_at_call 77; (with_reducible refine Calls.mono (Ho.out _ (cmpN a.pos b.pos) (cmpN a.id b.id) _ (new_at _ _ _ _ (by simp) 0 _ rfl) (new_at _ _ _ _ (by simp) 1 _ rfl)) ?_); rintro e w' ⟨rfl, rfl⟩) | fail)
  go_wp2_with fail
  go_ret
  exact lessPost_mk Hk.out ⟨1, _, by rw [Go.Sort.alloc_eq_grow, Go.Sort.alloc_eq_grow, Go.Sort.alloc_eq_grow, Go.Sort.grow_grow, Go.Sort.grow_grow]; rfl⟩
end Rg
end Go.Proofs.Ytcmoelphjdehaaa
