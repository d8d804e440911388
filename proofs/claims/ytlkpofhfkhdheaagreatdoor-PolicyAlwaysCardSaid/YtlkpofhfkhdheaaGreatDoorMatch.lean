/-
  Match: two strings that have runes, by the greedy road over them; any other matches nothing.
-/
import Derived.Test.YtlkpofhfkhdheaaGreatDoorMatchWalk
import Derived.Test.YtlkpofhfkhdheaaGreatDoorRunes
import Derived.Test.YtlkpofhfkhdheaaGreatDoorShelf
namespace Go.Proofs.YtlkpofhfkhdheaaGreatDoor
open Go.RowKit Ru

theorem tabs_later {w w' : World} (h : Lib.Utf8Tabs 2 3 w) (hb : Below w.heap.size w w') : Lib.Utf8Tabs 2 3 w' := by
  have k : ∀ p v, w.cell? p = some v → w'.cell? p = some v := fun p v hv => by rw [hb.cell (lt_of_cell hv)]; exact hv
  obtain ⟨h1, h2⟩ := h
  refine ⟨fun c hc => k _ _ (h1 c hc), fun i hi => ?_⟩
  have := h2 i hi
  exact ⟨k _ _ this.1, k _ _ this.2⟩

theorem conv_row (s : ByteArray) (rs : List Nat) (h : runesOf s 0 = some rs) (hs : s.size ≤ 70368744177664) (w : World) :
    ∃ cap w', (convert 9 96 (.string s)).run Tryz.prog w = .ok (.slice (some ⟨w.heap.size, 0, none⟩) rs.length cap) w' ∧ Row w' (some ⟨w.heap.size, 0, none⟩) rs.length cap (runeVals rs) ∧ Below w.heap.size w w' := by
  have e := run_runes_of_string (P := Tryz.prog) w 9 96 21 s Tryz.underlying9 Tryz.underlying96 Tryz.underlying21 (by have := size_runesFrom s s.size 0 #[]; simp at this; omega)
  have hl : (runeVals rs).length = rs.length := by simp [runeVals]
  have hle : rs.length ≤ 70368744177664 := by
    have h1 := size_runesFrom s s.size 0 #[]
    rw [conv_all h] at h1
    simp [hl] at h1
    omega
  rw [conv_all h] at e
  have es : (runeVals rs).toArray.size = rs.length := by simp [hl]
  rw [es] at e
  refine ⟨_, _, e, ⟨fun _ => ⟨w.heap.size, 0, rfl, fun k u hu => ?_⟩, hl, grownCap_ge _ _ _ _, ?_, fun h => by cases h⟩, (Below.drew (Below.refl _ _)).alloc (Nat.le_refl _) _⟩
  · rw [Nat.zero_add]
    show (w.drew.alloc _).cell? ⟨w.drew.heap.size, k, none⟩ = some u
    rw [World.cell?_alloc_mark, Array.getElem?_append_left (by have := (List.getElem?_eq_some_iff.1 hu).1; simpa using this)]
    simpa using hu
  · exact grownCap_le_maxLen _ _ _ _ (by unfold maxLen; omega)

set_option maxRecDepth 20000 in
set_option maxHeartbeats 2000000 in
theorem ownmatch_any (p s : ByteArray) (w : World) (hp : p.size ≤ 70368744177664) (hs : s.size ≤ 70368744177664) (hu : Lib.Utf8Tabs 2 3 w) :
    Calls Tryz.prog 64 #[.string p, .string s] w (BoolIs w (matchS p s)) := by
  have Hp := hid_ (Sh.utf8_ValidString p w (by omega) hu)
  rw [valid_some p] at Hp
  go_enter Tryz.func64, Tryz.ntmps64
  go_wp2_with fail
  refine Calls.mono Hp.out ?_
  rintro e w1 ⟨rfl, hb1⟩
  cases hrp : runesOf p 0 with
  | none =>
    go_wp2_with fail
    go_ret
    exact boolIs_mk (by unfold matchS; rw [hrp]) hb1
  | some ps =>
    have Hs := hid_ (Sh.utf8_ValidString s w1 (by omega) (tabs_later hu hb1))
    rw [valid_some s] at Hs
    go_wp2_with fail
    refine Calls.mono Hs.out ?_
    rintro e w2 ⟨rfl, hb2⟩
    cases hrs : runesOf s 0 with
    | none =>
      go_wp2_with fail
      go_ret
      exact boolIs_mk (by unfold matchS; rw [hrp, hrs]) (hb1.trans (hb2.mono hb1.size))
    | some ss =>
      go_wp2_with fail
      obtain ⟨cp, w3, ep, hr3, hb3⟩ := conv_row p ps hrp hp w2
      rw [ep]
      go_wp2_with fail
      obtain ⟨cs, w4, es, hr4, hb4⟩ := conv_row s ss hrs hs w3
      rw [es]
      have hr3 := hr3.below hb4
      go_wp2_with fail
      have hb14 : Below w.heap.size w w4 := (hb1.trans (hb2.mono hb1.size)).trans ((hb3.trans (hb4.mono hb3.size)).mono (by have := hb1.size; have := hb2.size; omega))
      refine Calls.mono (match_any _ _ _ ps _ _ _ ss w4 hr3 hr4) ?_
      rintro e w5 ⟨rfl, hb5⟩
      go_wp2_with fail
      go_ret
      exact boolIs_mk (by unfold matchS; rw [hrp, hrs]) (hb14.trans (hb5.mono hb14.size))
end Go.Proofs.YtlkpofhfkhdheaaGreatDoor
