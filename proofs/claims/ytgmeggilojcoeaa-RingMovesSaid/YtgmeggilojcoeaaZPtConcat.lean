/-
  The library's Grow and Concat of two rows.
-/
import Derived.Test.YtgmeggilojcoeaaZGRC
import Derived.Test.YtgmeggilojcoeaaZShGrow
import Derived.Test.YtgmeggilojcoeaaZWhole
namespace Go.Proofs.Ytgmeggilojcoeaa
set_option linter.unusedSimpArgs false
set_option linter.unusedVariables false
open Go.RowKit 
namespace Rg
set_option linter.unusedSimpArgs false
set_option linter.unusedVariables false

theorem own_roomK (w : World) (cs : Array Value) (G B : Nat) (hB : B ≤ w.heap.size) (h1 : cs.size = G * ptE.K) (h2 : G ≤ maxLen) : ptE.Own 107 B (w.alloc (.cells cs 107)) (some ⟨w.heap.size, 0, none⟩) 0 G [] :=
  ⟨by simp [Enc.all], .inr ⟨w.heap.size, G, cs, rfl, hB, heap_alloc_new w _, Nat.zero_le _, h2, h1, by simp [Enc.all]⟩⟩
/-- An empty row of the call's own, with room. -/
def GrowPost (w : World) (e : Ending) (w' : World) : Prop := ∃ A c, e = .returned (.slice A 0 c) ∧ ptE.Own 107 w.heap.size w' A 0 c [] ∧ Below w.heap.size w w'
theorem grow_any (n : Nat) (w : World) (hn : n ≤ 1000000) : Calls Try.prog 104 #[.slice none 0 0, .int .i64 (n : Nat)] w (GrowPost w) := by
  rcases Nat.eq_zero_or_pos n with h0 | hpos
  · subst h0
    refine Calls.mono (Any8.slices_Grow_room Sh.growPts none 0 0 0 w (Nat.le_refl _) (by omega) (by omega) (by omega)) ?_
    rintro e w' ⟨rfl, rfl⟩
    exact ⟨none, 0, rfl, Enc.Own.none _ _, Below.refl _ _⟩
  · obtain ⟨i0, hi, hz0, hz1, hz2⟩ := info_parts info_pt
    have hz1' : i0.size = 2 := hz1
    refine Calls.mono (Any8.slices_Grow_grow Sh.growPts i0 _ hi hz0 (by rw [hz1']; decide) none 0 0 n [] w (Nat.le_refl _) (by omega) (by rw [hz2]; omega) (by omega) (by simp) (fun _ => rfl) (fun a h => by cases h)) ?_
    rintro e w' ⟨rfl, rfl⟩
    have h1 := grownCap_ge w (0 + n) 0 107
    have h2 := grownCap_le_maxLen w (0 + n) 0 107 (by unfold maxLen; omega)
    have hb : Below w.heap.size w w.drew := Below.drew (Below.refl _ _)
    refine ⟨_, _, rfl, own_roomK w.drew _ _ w.heap.size (Nat.le_refl _) ?_ h2, hb.alloc (by simp) _⟩
    rw [Array.size_append, Array.size_append, size_zeroCells, size_zeroCells]
    show 0 + (0 + n - 0) * 2 + (grownCap w (0 + n) 0 107 - (0 + n)) * 2 = grownCap w (0 + n) 0 107 * 2
    rw [Nat.sub_mul]
    have := Nat.mul_le_mul_right 2 h1
    omega
/-- What Concat answers. -/
def ConcatPost (w : World) (l : List PtD) (e : Ending) (w' : World) : Prop := ∃ A c, e = .returned (.slice A l.length c) ∧ ptE.Own 107 w.heap.size w' A l.length c l ∧ Below w.heap.size w w'
theorem concatPost_mk {w w' : World} {l : List PtD} {A : Option Addr} {n c : Nat} (hn : l.length = n) (h : ptE.Own 107 w.heap.size w' A n c l) (hb : Below w.heap.size w w') : ConcatPost w l (.returned (.slice A n c)) w' := by subst hn; exact ⟨A, c, rfl, h, hb⟩
theorem two_of {k : Nat} (h : k < 2) : k = 0 ∨ k = 1 := by omega
set_option maxRecDepth 20000 in
set_option maxHeartbeats 8000000 in
theorem concat_any (g : Nat) (A A' : Option Addr) (n n' c c' : Nat) (a b : List PtD) (w : World) (h1 : ptE.Row w A n c a) (h2 : ptE.Row w A' n' c' b) (hg : Whole w g 56 #[.slice A n c, .slice A' n' c']) (hn : n ≤ 1000) (hn' : n' ≤ 1000) :
    Calls Try.prog 83 #[.slice (some ⟨g, 0, none⟩) 2 2] w (ConcatPost w (a ++ b)) := by
  have q1 := h1.cap
  have q2 := h1.max
  have q3 := h2.cap
  have q4 := h2.max
  have HL := hid_ (show (a ++ b).length = n + n' by rw [List.length_append, h1.len, h2.len])
  have H1 := hid_ h1
  have H2 := hid_ h2
  have HG := hid_ hg
  have hgl := hg.lt
  have g0 := hg.cell 0 _ rfl
  have g1 := hg.cell 1 _ rfl
  clear h1 h2 hg
  go_enter Try.func83, Try.ntmps83
  go_wp2_with fail
  go_loop [3, 11] (fun vs vi => ∃ k sz : Nat, k ≤ 2 ∧ vi = .int .i64 (k : Nat) ∧ vs = .int .i64 (sz : Nat) ∧ (k = 0 → sz = 0) ∧ (k = 1 → sz = n) ∧ (k = 2 → sz = n + n')) (fun _ vi => 2 - (intOf vi).toNat)
  case atStart => exact ⟨0, 0, by omega, rfl, rfl, fun _ => rfl, fun h => by omega, fun h => by omega⟩
  case round =>
    obtain ⟨k, sz, hk, rfl, rfl, z0, z1, z2⟩ := hrel
    by_cases hlt : k < 2
    · rcases two_of hlt with rfl | rfl
      · obtain rfl := z0 rfl
        have hz : ¬ ((n : Int) < 0) := by omega
        clear z0 z1 z2
        go_wp2_with fail
        go_round
        case rel => exact ⟨1, n, by omega, rfl, rfl, fun h => by omega, fun _ => rfl, fun h => by omega⟩
        case measure => simp [intOf]
      · obtain rfl := z1 rfl
        have hz : ¬ (((sz : Nat) : Int) + (n' : Int) < 0) := by omega
        clear z0 z1 z2
        go_wp2_with fail
        go_round
        case rel => exact ⟨2, sz + n', by omega, rfl, by go_num, fun h => by omega, fun h => by omega, fun _ => rfl⟩
        case measure => simp [intOf]
    · obtain rfl : k = 2 := by omega
      obtain rfl := z2 rfl
      have Hgrow := hid_ (fun W => grow_any (n + n') W (by omega))
      have ez : (((n + n' : Nat)) : Int) = (n : Int) + (n' : Int) := by omega
      rw [ez] at Hgrow
      clear z0 z1 z2 hlt hk ez
      go_wp2_with fail
      refine Calls.mono (Hgrow.out _) ?_
      rintro e w1 ⟨A1, c1, rfl, ho, hb⟩
      have HO := hid_ ho
      have HB := hid_ hb
      clear ho hb
      have g0' := (HG.out.below HB.out hgl).cell 0 _ rfl
      have g1' := (HG.out.below HB.out hgl).cell 1 _ rfl
      clear g0 g1 g0' g1'
      go_wp2_with fail
      go_loopw [6, 27] (fun vo vi wr => ∃ (k m : Nat) (A3 : Option Addr) (c3 : Nat), k ≤ 2 ∧ vi = .int .i64 (k : Nat) ∧ vo = .slice A3 m c3 ∧ ptE.Own 107 w.heap.size wr A3 m c3 (if k = 0 then [] else if k = 1 then a else a ++ b) ∧ Below w.heap.size w wr) (fun _ vi _ => 2 - (intOf vi).toNat)
      case atStart => exact ⟨0, 0, A1, c1, by omega, rfl, rfl, HO.out, HB.out⟩
      case round =>
        obtain ⟨k, m, A3, c3, hk, rfl, rfl, ho, hb⟩ := hrel
        have HO3 := hid_ ho
        have HB3 := hid_ hb
        have hsz := hb.size
        clear ho hb
        by_cases hlt : k < 2
        · have g0 := (HG.out.below HB3.out hgl).cell 0 _ rfl
          have g1 := (HG.out.below HB3.out hgl).cell 1 _ rfl
          have H1w := hid_ (H1.out.below HB3.out)
          have H2w := hid_ (H2.out.below HB3.out)
          rcases two_of hlt with rfl | rfl
          · have hm : m = 0 := by rw [← HO3.out.len]; rfl
            subst hm
            go_wp2_with (at_builtin; refine Enc.wpList_rows (E := ptE) (e := 107) rfl (.tmp 31) (.tmp 32) 56 rfl _ 16 Try.underlying56 info_pt rfl w.heap.size A3 0 c3 _ rfl HO3.out A n c a rfl H1w.out n a (by omega) rfl (by omega) (by omega) hsz ?_; intro A4 c4 w4 ho4 hb4 _ _; have HX := hid_ (And.intro ho4 (HB3.out.trans hb4)); clear ho4 hb4)
            first
              | (go_roundw
                 case rel => exact ⟨1, n, A4, c4, by omega, by go_num, rfl, HX.out.1, HX.out.2⟩
                 case measure => simp [intOf])
              | fail
          · have hm : m = n := by rw [← HO3.out.len, ← H1.out.len]; rfl
            subst hm
            go_wp2_with (at_builtin; refine Enc.wpList_rows (E := ptE) (e := 107) rfl (.tmp 31) (.tmp 32) 56 rfl _ 16 Try.underlying56 info_pt rfl w.heap.size A3 m c3 _ rfl HO3.out A' n' c' b rfl H2w.out (m + n') (a ++ b) rfl rfl (by omega) (by omega) hsz ?_; intro A4 c4 w4 ho4 hb4 _ _; have HX := hid_ (And.intro ho4 (HB3.out.trans hb4)); clear ho4 hb4)
            first
              | (go_roundw
                 case rel => exact ⟨2, m + n', A4, c4, by omega, by go_num, rfl, HX.out.1, HX.out.2⟩
                 case measure => simp [intOf])
              | fail
        · obtain rfl : k = 2 := by omega
          have Hrow := hid_ (show ptE.Own 107 w.heap.size wr A3 m c3 (a ++ b) from HO3.out)
          have Hm := hid_ (Hrow.out.len)
          clear hlt hk
          go_wp2_with fail
          go_ret
          exact concatPost_mk Hm.out Hrow.out HB3.out
end Rg
end Go.Proofs.Ytgmeggilojcoeaa
