/-
  The reference's Match of two texts.
-/
import Derived.Test.YtlkpofhfkhdheaaDoorRefMatch
namespace Go.Proofs.YtlkpofhfkhdheaaDoor
open Go.RowKit Ru

set_option maxRecDepth 20000 in
set_option maxHeartbeats 2000000 in
theorem rmatch_any (p s : ByteArray) (w : World) (hp : p.size ≤ 1000000) (hs : s.size ≤ 1000000) :
    Calls Tryd.prog 43 #[.string p, .string s] w (BoolIs w (matchS p s)) := by
  have Hp := hid_ (refrunes_any p w (by omega))
  have Hs := hid_ (fun (W : World) => refrunes_any s W (by omega))
  have hle : ∀ ss, runesOf s 0 = some ss → ss.length ≤ 1000000 := fun ss h => by
    have h1 := size_runesFrom s s.size 0 #[]
    rw [conv_all h] at h1
    simp [runeVals] at h1
    omega
  go_enter Tryd.func43, Tryd.ntmps43
  go_wp2_with fail
  refine Calls.mono Hp.out ?_
  rintro e w1 ⟨A, n, c, rfl, hr1, hb1⟩
  go_wp2_with fail
  refine Calls.mono (Hs.out _) ?_
  rintro e w2 ⟨B, m, d, rfl, hr2, hb2⟩
  have hb12 := hb1.trans (hb2.mono hb1.size)
  cases hrp : runesOf p 0 with
  | none =>
    go_wp2_with fail
    go_ret
    exact boolIs_mk (by unfold matchS; rw [hrp]) hb12
  | some ps =>
    cases hrs : runesOf s 0 with
    | none =>
      go_wp2_with fail
      go_ret
      exact boolIs_mk (by unfold matchS; rw [hrp, hrs]) hb12
    | some ss =>
      rw [hrp] at hr1
      rw [hrs] at hr2
      have hr1 : Row w1 A n c (runeVals ps) := hr1
      have hr2 : Row w2 B m d (runeVals ss) := hr2
      have hml : m ≤ 1000000 := by rw [← hr2.len]; simpa [runeVals] using hle ss hrs
      go_wp2_with fail
      refine Calls.mono (refmatch_any _ _ _ ps _ _ _ ss w2 (hr1.below hb2) hr2 hml) ?_
      rintro e w3 ⟨rfl, hb3⟩
      go_wp2_with fail
      go_ret
      exact boolIs_mk (by unfold matchS; rw [hrp, hrs]) (hb12.trans (hb3.mono hb12.size))
end Go.Proofs.YtlkpofhfkhdheaaDoor
