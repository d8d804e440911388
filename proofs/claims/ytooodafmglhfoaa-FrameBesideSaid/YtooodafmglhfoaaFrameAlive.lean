/-
  The chapter's example of package frame comes.
-/
import Derived.Test.YtooodafmglhfoaaFrameCalls
namespace Go.Proofs.Ytooodafmglhfoaa
open Go.RowKit Crc Fm

theorem frame_a : ∃ t, framed [97] = 1 :: 0 :: 0 :: 0 :: 97 :: t := ⟨_, rfl⟩

set_option maxHeartbeats 400000 in
theorem alive_any (w : World) :
    Calls Try.prog 9 #[] w fun e w' => e = .returned (.bool true) ∧ Below w.heap.size w w' := by
  have kc := fun (w : World) (C : Array Value) (n c : Nat) => Lib.run_convert_bytes_const (P := Try.prog) w 22 5 C n c Try.underlying22 Try.underlying5
  have Hp := hid_ (put_any none (some ⟨w.heap.size, 0, none⟩) 0 0 1 1 [] [97] (w.alloc (.cells #[.int .u8 97] 5 (1, 2))) (Sl.none _) (sl_lit w [97] #[.int .u8 97] _ _ rfl 1 rfl (by omega)) (by omega) (by omega))
  go_enter Try.func9, Try.ntmps9
  go_wp2_with fail
  refine Hp.out.mono ?_
  rintro e w1 ⟨A1, c1, rfl, hs', hb⟩
  have hs := hs'.sl
  clear hs'
  rw [List.nil_append] at hs
  obtain ⟨t, ht⟩ := frame_a
  rw [ht] at hs
  obtain ⟨b, off, rfl, h0⟩ := hs.holds.at_ (k := 0) (by simp)
  obtain ⟨_, _, e4, h4⟩ := hs.holds.at_ (k := 4) (by simp)
  cases e4
  have g0 : w1.cell? ⟨b, off, none⟩ = some (.int .u8 1) := h0
  have g4 : w1.cell? ⟨b, off + 4, none⟩ = some (.int .u8 97) := h4
  have Hb := hid_ hb
  clear h0 h4 hs ht hb
  go_wp2_with fail
  go_ret
  exact ⟨rfl, ((Below.refl _ _).alloc (Nat.le_refl _) _).trans (Hb.out.mono (by simp))⟩
end Go.Proofs.Ytooodafmglhfoaa
