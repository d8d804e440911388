/-
  The library's maps.Keys over a map of members by their Ids: what its iterator gives.
-/
import Derived.Test.YtcmoelphjdehaaaZGA
import Derived.Test.YtcmoelphjdehaaaZGF
import Derived.Test.YtcmoelphjdehaaaZPoints
import Derived.Maps.RangeWalk
import Derived.RangeFuncNested
import Derived.RangeFuncBound
import Derived.RangeFuncCalls
import Derived.RangeFuncLeaves
import Derived.RangeFuncGives
import Derived.Sort.MapsRangeIn
import Derived.OwnWalkIn
import Derived.TacticsInMore
import Derived.RegionIn
import Derived.LoopNIn
import Derived.LoopIn
namespace Go.Proofs.Ytcmoelphjdehaaa
set_option linter.unusedSimpArgs false
set_option linter.unusedVariables false
open Go.RowKit
open Go.Maps (Keyed keyOf_int_mk int_keyed)
namespace Vw
set_option linter.unusedSimpArgs false
set_option linter.unusedVariables false
def encU (x : Nat) : Value := .int .u64 (x : Nat)
theorem encU_inj {x y : Nat} (h : encU x = encU y) : x = y := by
  unfold encU at h
  injection h with _ h
  omega
/-- A value is read as itself. -/
def elemR (v : Value) : Option (DataW Value × List MemPlace) := some (.held v, [])
abbrev ku (x : Nat) : Lit := .int .u64 (x : Nat)
theorem keyLawU : Keyed Try.prog 60 := int_keyed Try.underlying60
theorem ku_wf {x : Nat} (h : x < 18446744073709551616) : (Lit.int .u64 (x : Nat)).wf = true := by
  simp [Lit.wf, IntKind.min, IntKind.max, IntKind.bits, IntKind.signed]
  omega
theorem ku_key {x : Nat} (h : x < 18446744073709551616) : keyOf Try.prog 60 (.int .u64 (x : Nat)) = some (ku x) := keyOf_int_mk Try.underlying60 (ku_wf h)
theorem ku_ne {x y : Nat} (h : x ≠ y) : ku x ≠ ku y := fun e => h (by injection e; omega)
theorem ku_same (x y : Nat) : (ku x).sameKey (ku y) = decide (x = y) := by
  by_cases h : x = y
  · subst h; simp [Lit.sameKey]
  · rw [Maps.sameKey_ne (ku_ne h), decide_eq_false h]
/-- What reads as a key: a number that fits. -/
theorem keyOf_u64 {key : Value} {kl : Lit} (h : keyOf Try.prog 60 key = some kl) : ∃ x : Nat, key = encU x ∧ kl = ku x ∧ x < 18446744073709551616 := by
  cases key <;> simp [keyOf, Try.underlying60, mapKey] at h
  rename_i q a
  obtain ⟨⟨rfl, hw⟩, rfl⟩ := h
  have h1 : 0 ≤ a ∧ a ≤ 18446744073709551615 := by simpa [Lit.wf, IntKind.min, IntKind.max, IntKind.bits, IntKind.signed] using hw
  obtain ⟨x, rfl⟩ : ∃ x : Nat, a = (x : Int) := ⟨a.toNat, by omega⟩
  exact ⟨x, rfl, rfl, by omega⟩
/-- No key twice; a key is on the list just where the map has it and it is no longer to come. -/
def CollectedU (D0 : DataW Value) (left : Lit → Bool) (ss : List Nat) : Prop := ss.Nodup ∧ ∀ x : Nat, x ∈ ss ↔ (Maps.has D0 (ku x) = true ∧ left (ku x) = false)
theorem CollectedU.start (D0 : DataW Value) : CollectedU D0 (Maps.has D0) [] := ⟨List.nodup_nil, fun x => by cases Maps.has D0 (ku x) <;> simp⟩
theorem CollectedU.step {D0 : DataW Value} {left : Lit → Bool} {ss : List Nat} (h : CollectedU D0 left ss) {x : Nat} {y : DataW Value} (hlk : left (ku x) = true) (hat : ∀ zd, D0.atKey (ku x) zd = y) :
    CollectedU D0 (fun z => left z && !z.sameKey (ku x)) (ss ++ [x]) := by
  have hhas : Maps.has D0 (ku x) = true := Maps.has_true_of_atKey hat
  have hnew : x ∉ ss := fun hx => by
    have := ((h.2 x).1 hx).2
    rw [hlk] at this
    cases this
  refine ⟨List.nodup_append.2 ⟨h.1, by simp, fun a ha b hb => by simp at hb; subst hb; exact fun e => hnew (e ▸ ha)⟩, fun y => ?_⟩
  show y ∈ ss ++ [x] ↔ Maps.has D0 (ku y) = true ∧ (left (ku y) && !(ku y).sameKey (ku x)) = false
  rw [ku_same]
  by_cases hy : y = x
  · subst hy
    simp [hhas]
  · simp [h.2 y, hy]
/-- All keys, each once. -/
def AllKeys (D0 : DataW Value) (ss : List Nat) : Prop := ss.Nodup ∧ ∀ x : Nat, x ∈ ss ↔ Maps.has D0 (ku x) = true
set_option maxRecDepth 100000 in
set_option maxHeartbeats 2000000 in
theorem keysU_in (n : Nat) (hn : 1 ≤ n) (l Bm b nn : Nat) (D0 : DataW Value) (J : List Nat → World → Prop)
    (hY : ∀ pre (x : Nat) W, J pre W → pre.length < Maps.size D0 → YieldAt Fence.wide (n - 1) Try.prog l #[encU x] W fun e W' => e = .returned (.bool true) ∧ J (pre ++ [x]) W' ∧ KeepsWalks W W')
    (W : World) (hJ : AbidesFrom W.heap.size J) (hm : W.cell? ⟨Bm, 0, none⟩ = some (.map (some b))) (hown : W.ownsMap Try.prog 60 elemR b nn D0) (h0 : J [] W) :
    CallsIn Fence.wide n Try.prog 144 #[.func (.yield l) #[] #[], .pointer (some ⟨Bm, 0, none⟩)] W fun e W' => (∃ v, e = .returned v) ∧ ∃ ss : List Nat, AllKeys D0 ss ∧ J ss W' := by
  refine callsIn_of_wp Try.func144 rfl trivial ?_ rfl
  simp only [Try.ntmps144, List.size_toArray, List.length_cons, List.length_nil, Nat.reduceAdd, Nat.reduceSub, Array.replicate_succ, Array.replicate_zero, List.push_toArray, List.append_toArray, List.nil_append, List.cons_append]
  gi_wp2_with (first
    | (gi_at_range; refine wpListIn_range_own _ rfl _ 163 rfl 60 82 keyLawU Try.underlying163 _ b nn _ rfl hown ?_; intro w0 hrg0 hg0 hs0)
    | gi_in)
  go_frame
  gi_loopw [3] (fun _ wr => ∃ (left : Lit → Bool) (cnt : Nat) (ss : List Nat), wr.ranges Try.prog 60 elemR b W.heap.size nn D0 left cnt ∧ ss.length + cnt ≤ Maps.size D0 ∧ CollectedU D0 left ss ∧ J ss wr)
    (fun _ wr => wr.rangeLeft b W.heap.size)
  case atStart =>
    exact ⟨_, _, [], hrg0, by simp, CollectedU.start D0, hJ [] W w0 none h0 hg0 (fun r e => by cases e)⟩
  case round =>
    obtain ⟨left, cnt, ss, hrg, hcs, hC, hJs⟩ := hrel
    gi_wp2_with (first
      | (gi_at_next; refine wpListIn_next_ranges _ rfl _ rfl 60 keyLawU elemR encU id (fun key kl hk => by obtain ⟨x, hx, _⟩ := keyOf_u64 hk; exact ⟨x, hx⟩) (fun v _ _ => ⟨v, rfl⟩) b W.heap.size nn _ _ _ rfl hrg ?_ ?_)
      | gi_in)
    · intro hc0 hl0
      gi_wp2
      go_end0
      exact ⟨⟨_, rfl⟩, ss, ⟨hC.1, fun x => by rw [hC.2, hl0]; simp⟩, hJs⟩
    · intro x c kl yd yp w2 cnt2 hkey hlk hv hat hrg2 hlt hg2 hs2 hen
      obtain ⟨x', ex, rfl, _⟩ := keyOf_u64 hkey
      obtain rfl : x = x' := encU_inj ex
      have hJ2 : J ss w2 := hJ ss wr w2 (some W.heap.size) hJs hg2 (fun r e => by cases e; exact ⟨Nat.le_refl _, hrg.iter_walk⟩)
      obtain ⟨fn, tmps, assign, body, hy, hR⟩ := hY ss x w2 hJ2 (by omega)
      clear hs2
      gi_wp2
      refine hR.mono ?_
      rintro e W3 ⟨rfl, hJ3, hk3⟩
      gi_wp2
      have hrg3 := hrg2.of_walks hk3
      go_roundw
      case rel => exact ⟨_, cnt2, ss ++ [x], hrg3, by simp; omega, hC.step hlk hat, hJ3⟩
      case measure => rw [hrg3.left_eq, hrg.left_eq]; exact hlt
theorem ownsMap_below {w W : World} {b nn : Nat} {D0 : DataW Value} (hown : w.ownsMap Try.prog 60 elemR b nn D0) (hW : Below w.heap.size w W) : W.ownsMap Try.prog 60 elemR b nn D0 := by
  have hbl := hown.lt
  obtain ⟨es, clock, hb, Ft, hs, hD⟩ := hown
  exact ⟨es, clock, (hW.block b hbl).trans hb, Ft, hs, hD⟩
/-- maps.Keys(m) hands back an iterator over m's keys. -/
theorem keysU_gives (n : Nat) (hn : 1 ≤ n) (Bm b nn : Nat) (D0 : DataW Value) (w : World) (hBm : Bm < w.heap.size) (hm : w.cell? ⟨Bm, 0, none⟩ = some (.map (some b))) (hown : w.ownsMap Try.prog 60 elemR b nn D0) :
    SeqGives Fence.wide n Try.prog 144 #[.pointer (some ⟨Bm, 0, none⟩)] encU (AllKeys D0) (Maps.size D0) w := fun l J W hW hJ hY h0 =>
  keysU_in n hn l Bm b nn D0 J hY W hJ ((hW.cell (p := ⟨Bm, 0, none⟩) hBm).trans hm) (ownsMap_below hown hW) h0
set_option maxHeartbeats 1000000 in
theorem keysU_any (mb : Option Nat) (w : World) : Calls Try.prog 112 #[.map mb] w (fun e w' => e = .returned (.func (.func 144) #[] #[.pointer (some ⟨w.heap.size, 0, none⟩)]) ∧ w' = w.alloc (.cells #[.map mb] 163)) := by
  go_enter Try.func112, Try.ntmps112
  go_wp2_with fail
  go_ret
  exact ⟨rfl, rfl⟩
end Vw
end Go.Proofs.Ytcmoelphjdehaaa
