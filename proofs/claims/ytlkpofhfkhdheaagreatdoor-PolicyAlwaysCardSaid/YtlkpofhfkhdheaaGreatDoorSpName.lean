/-
  What the program's Name answers.
-/
import Derived.Test.YtlkpofhfkhdheaaGreatDoorRefName
import Derived.Test.YtlkpofhfkhdheaaGreatDoorNameMath
import Derived.Lib.Walk
import Derived.Lib.Slices
import Derived.Laws.Strings3
import Derived.Laws.RangeAny
namespace Go.Proofs.YtlkpofhfkhdheaaGreatDoor
open Go.RowKit Ru

set_option maxHeartbeats 1000000 in
theorem prefix_in (s p : ByteArray) (w : World) :
    Calls Tryz.prog 78 #[.string s, .string p] w fun e w' => e = .returned (.bool (Lib.hasPrefix s.data.toList p.data.toList)) ∧ w' = w := by
  rw [← Lib.hasPrefix_of_take, ← Lib.size_eq, ← Lib.size_eq]
  go_enter Tryz.func78, Tryz.ntmps78
  go_wp2
  · rename_i h
    go_ret
    refine ⟨?_, rfl⟩
    show Ending.returned (Value.bool ((s.extract 0 p.size).toList == p.toList)) = _
    rw [Lib.extract_toList, Lib.toList_data]
    simp [h]
  · rename_i h
    go_ret
    refine ⟨?_, rfl⟩
    show Ending.returned (Value.bool false) = _
    simp [h]
theorem prefix_fffd (s : ByteArray) (i : Nat) (w : World) :
    Calls Tryz.prog 78 #[.string (s.extract i s.size), .string ⟨#[239, 191, 189]⟩] w fun e w' => e = .returned (.bool (fffdAt s i)) ∧ w = w' :=
  (prefix_in (s.extract i s.size) ⟨#[239, 191, 189]⟩ w).mono fun _ _ ⟨h1, h2⟩ => ⟨h1, h2.symm⟩
set_option maxHeartbeats 1000000 in
theorem prefix_any (s : ByteArray) (i : Nat) (w : World) :
    Calls Tryz.prog 53 #[.string (s.extract i s.size), .string ⟨#[239, 191, 189]⟩] w fun e w' => e = .returned (.bool (fffdAt s i)) ∧ w = w' := by
  go_enter Tryz.func53, Tryz.ntmps53
  go_wp2_with (go_at_call 78; refine (prefix_fffd s i _).mono ?_; rintro e w' ⟨rfl, rfl⟩)
  go_ret
  exact ⟨rfl, rfl⟩

set_option maxHeartbeats 2000000 in
theorem name_any (s : ByteArray) (w : World) (hs : s.size ≤ 9223372036854775807) :
    Calls Tryz.prog 38 #[.string s] w (KindIs w (nameKind s)) := by
  by_cases h1 : s.size < 1
  · have Hk := hid_ (kind_bad (name_size (.inl h1)))
    have e1 : decide ((s.size : Int) < 1) = true := decide_eq_true (by omega)
    clear h1
    go_enter Tryz.func38, Tryz.ntmps38
    go_wp2
    go_ret
    exact kindIs_mk Hk.out (Below.refl _ _)
  have e1 : decide ((s.size : Int) < 1) = false := decide_eq_false (by omega)
  by_cases h2 : 32 < s.size
  · have Hk := hid_ (kind_bad (name_size (.inr h2)))
    have e2 : decide ((32 : Int) < (s.size : Int)) = true := decide_eq_true (by omega)
    go_enter Tryz.func38, Tryz.ntmps38
    go_wp2
    go_ret
    exact kindIs_mk Hk.out (Below.refl _ _)
  have e2 : decide ((32 : Int) < (s.size : Int)) = false := decide_eq_false (by omega)
  go_enter Tryz.func38, Tryz.ntmps38
  go_wp2
  go_loopw [] (fun w' => ∃ pos, w' = w.iter s pos ∧ NameAt s pos) (fun w' => s.size - w'.iterPos w.heap.size)
  case atStart => exact ⟨0, rfl, nameAt_zero s⟩
  case round =>
    obtain ⟨pos, rfl, hat⟩ := hrel
    have hle := nameAt_le hat
    have Hat := hid_ hat
    clear hat
    by_cases hp : pos < s.size
    · have hnx : ∀ ty, (Instr.next (.pointer (some ⟨w.heap.size, 0, none⟩)) true ty).run Tryz.prog (w.iter s pos) = _ := fun ty => run_next_any w s pos ty hp
      have hwd := width_pos s pos hp
      have hd1 := decode_le s pos
      have Hwhole := hid_ (runeAt_whole (s := s) hp)
      have Hbroken := hid_ (runeAt_broken (s := s) hp)
      have Hplain := hid_ (runeAt_plain (s := s) hp)
      have Hpre := hid_ (prefix_any s pos)
      by_cases hr : (Utf8.decode s pos).1 = 65533
      · have er : (((Utf8.decode s pos).1 : Int) == 65533) = true := by rw [beq_iff_eq]; omega
        cases hf : fffdAt s pos
        · have Hk := hid_ (nameAt_broken Hat.out hp (Hbroken.out hr hf))
          have Hf := hid_ hf
          have Hr := hid_ hr
          clear hr hf
          go_wp2_with (go_at_call 53; (with_reducible refine Calls.mono (Hpre.out _) ?_); rintro e w' ⟨rfl, rfl⟩; rw [Hf.out])
          go_ret
          exact kindIs_mk Hk.out ((Below.refl _ _).alloc (Nat.le_refl _) _)
        · obtain ⟨hru, hw3⟩ := Hwhole.out hf
          have Hst := hid_ (nameAt_step Hat.out hp _ _ hru (by omega) (by decide))
          have Hf := hid_ hf
          have Hr := hid_ hr
          have Hw3 := hid_ hw3
          have b1 : decide (((Utf8.decode s pos).1 : Int) < 32) = false := decide_eq_false (by omega)
          have b2 : decide ((127 : Int) ≤ ((Utf8.decode s pos).1 : Int)) = true := decide_eq_true (by omega)
          have b3 : decide (((Utf8.decode s pos).1 : Int) ≤ 159) = false := decide_eq_false (by omega)
          clear hr hf hru hw3
          go_wp2_with (go_at_call 53; (with_reducible refine Calls.mono (Hpre.out _) ?_); rintro e w' ⟨rfl, rfl⟩; rw [Hf.out])
          go_roundw
          case rel => exact ⟨pos + (Utf8.decode s pos).2, rfl, by rw [Hw3.out]; exact Hst.out⟩
          case measure => simp; omega
      · have er : (((Utf8.decode s pos).1 : Int) == 65533) = false := by rw [beq_eq_false_iff_ne]; omega
        have hru := Hplain.out hr
        cases hb : badRune (Utf8.decode s pos).1
        · have Hst := hid_ (nameAt_step Hat.out hp (Utf8.decode s pos).1 (Utf8.decode s pos).2 hru (Nat.ne_of_gt hwd) hb)
          have hb2 : 32 ≤ (Utf8.decode s pos).1 ∧ ((Utf8.decode s pos).1 < 127 ∨ 159 < (Utf8.decode s pos).1) := by
            unfold badRune at hb
            simp at hb
            omega
          have Hru := hid_ hru
          clear hru hb hr
          obtain ⟨g1, g2⟩ := hb2
          rcases g2 with g2 | g2
          · have g4 : ¬ 127 ≤ (Utf8.decode s pos).1 := by omega
            go_wp2_with fail
            go_roundw
            case rel => exact ⟨pos + (Utf8.decode s pos).2, rfl, Hst.out⟩
            case measure => simp; omega
          · have g3 : 127 ≤ (Utf8.decode s pos).1 := by omega
            go_wp2_with fail
            go_roundw
            case rel => exact ⟨pos + (Utf8.decode s pos).2, rfl, Hst.out⟩
            case measure => simp; omega
        · have Hk := hid_ (nameAt_bad Hat.out hp (Utf8.decode s pos).1 (Utf8.decode s pos).2 hru (Nat.ne_of_gt hwd) hb)
          have hb2 : (Utf8.decode s pos).1 < 32 ∨ (32 ≤ (Utf8.decode s pos).1 ∧ 127 ≤ (Utf8.decode s pos).1 ∧ (Utf8.decode s pos).1 ≤ 159) := by
            unfold badRune at hb
            simp at hb
            omega
          have Hru := hid_ hru
          clear hru hb hr
          rcases hb2 with g1 | ⟨g0, g1, g2⟩
          all_goals
            go_wp2_with fail
            go_ret
            exact kindIs_mk Hk.out ((Below.refl _ _).alloc (Nat.le_refl _) _)
    · have hnx : ∀ ty, (Instr.next (.pointer (some ⟨w.heap.size, 0, none⟩)) true ty).run Tryz.prog (w.iter s pos) = _ := fun ty => run_next_end w s pos ty hp
      obtain rfl : pos = s.size := by omega
      have Hk := hid_ (nameAt_end Hat.out (by omega) (by omega))
      go_wp2_with fail
      go_ret
      exact kindIs_mk Hk.out ((Below.refl _ _).alloc (Nat.le_refl _) _)
end Go.Proofs.YtlkpofhfkhdheaaGreatDoor
