/-
  What the program's Name answers.
-/
import Derived.Test.YthjhofmjhmnddaaGreatMGBA
import Derived.Test.YthjhofmjhmnddaaGreatMGBB
import Derived.Lib.Walk
import Derived.Lib.Slices
import Derived.Laws.Strings3
import Derived.Laws.RangeAny
set_option linter.unusedSimpArgs false
set_option linter.unusedVariables false
namespace Go.Proofs.YthjhofmjhmnddaaGreat
open Go.RowKit Ru
set_option maxHeartbeats 1000000 in
theorem prefix_in (s p : ByteArray) (w : World) :
  Calls Tryz.prog 189 #[.string s, .string p] w fun e w' => e = .returned (.bool (Lib.hasPrefix s.data.toList p.data.toList)) ∧ w' = w := by
 rw [← Lib.hasPrefix_of_take, ← Lib.size_eq, ← Lib.size_eq]
 go_enter Tryz.func189, Tryz.ntmps189
 go_wp2
 ·rename_i h
  go_ret
  refine ⟨?_, rfl⟩
  show Ending.returned (Value.bool ((s.extract 0 p.size).toList == p.toList)) = _
  rw [Lib.extract_toList, Lib.toList_data]
  simp [h]
 ·rename_i h
  go_ret
  refine ⟨?_, rfl⟩
  show Ending.returned (Value.bool false) = _
  simp [h]
theorem prefix_fffd (s : ByteArray) (i : Nat) (w : World) :
  Calls Tryz.prog 189 #[.string (s.extract i s.size), .string ⟨#[239, 191, 189]⟩] w fun e w' => e = .returned (.bool (fffdAt s i)) ∧ w = w' :=
 (prefix_in (s.extract i s.size) ⟨#[239, 191, 189]⟩ w).mono fun _ _ ⟨h1, h2⟩ => ⟨h1, h2.symm⟩
set_option maxHeartbeats 1000000 in
theorem prefix_any (s : ByteArray) (i : Nat) (w : World) :
  Calls Tryz.prog 184 #[.string (s.extract i s.size), .string ⟨#[239, 191, 189]⟩] w fun e w' => e = .returned (.bool (fffdAt s i)) ∧ w = w' := by
 go_enter Tryz.func184, Tryz.ntmps184
 go_wp2_with (go_at_call 189; refine (prefix_fffd s i _).mono ?_; rintro e w' ⟨rfl, rfl⟩)
 go_ret
 exact ⟨rfl, rfl⟩
set_option maxHeartbeats 2000000 in
theorem name_any (s : ByteArray) (w : World) (hs : s.size ≤ 9223372036854775807) :
  Calls Tryz.prog 173 #[.string s] w (KindIs w (nameKind s)) := by
 by_cases h1 : s.size < 1
 ·have Hk := hid_ (kind_bad (name_size (.inl h1)))
  have e1 : decide ((s.size : Int) < 1) = true := decide_eq_true (by omega)
  clear h1
  go_enter Tryz.func173, Tryz.ntmps173
  go_wp2
  go_ret
  exact kindIs_mk Hk.out (Below.refl _ _)
 have e1 : decide ((s.size : Int) < 1) = false := decide_eq_false (by omega)
 by_cases h2 : 32 < s.size
 ·have Hk := hid_ (kind_bad (name_size (.inr h2)))
  have e2 : decide ((32 : Int) < (s.size : Int)) = true := decide_eq_true (by omega)
  go_enter Tryz.func173, Tryz.ntmps173
  go_wp2
  go_ret
  exact kindIs_mk Hk.out (Below.refl _ _)
 have e2 : decide ((32 : Int) < (s.size : Int)) = false := decide_eq_false (by omega)
 go_enter Tryz.func173, Tryz.ntmps173
 go_wp2
 go_loopw [] (fun w' => ∃ pos, w' = w.iter s pos ∧ NameAt s pos) (fun w' => s.size - w'.iterPos w.heap.size)
 case atStart => exact ⟨0, rfl, nameAt_zero s⟩
 case round =>
  obtain ⟨pos, rfl, hat⟩ := hrel
  have hle := nameAt_le hat
  have Hat := hid_ hat
  clear hat
  by_cases hp : pos < s.size
  ·have hnx : ∀ ty, (Instr.next (.pointer (some ⟨w.heap.size, 0, none⟩)) true ty).run Tryz.prog (w.iter s pos) = _ := fun ty => run_next_any w s pos ty hp
   have hwd := width_pos s pos hp
   have hd1 := decode_le s pos
   have Hwhole := hid_ (runeAt_whole (s := s) hp)
   have Hbroken := hid_ (runeAt_broken (s := s) hp)
   have Hplain := hid_ (runeAt_plain (s := s) hp)
   have Hpre := hid_ (prefix_any s pos)
   by_cases hr : (Utf8.decode s pos).1 = 65533
   ·have er : (((Utf8.decode s pos).1 : Int) == 65533) = true := by rw [beq_iff_eq]; omega
    cases hf : fffdAt s pos
    ·have Hk := hid_ (nameAt_broken Hat.out hp (Hbroken.out hr hf))
     have Hf := hid_ hf
     have Hr := hid_ hr
     clear hr hf
     go_wp2_with (go_at_call 184; (with_reducible refine Calls.mono (Hpre.out _) ?_); rintro e w' ⟨rfl, rfl⟩; rw [Hf.out])
     go_ret
     exact kindIs_mk Hk.out ((Below.refl _ _).alloc (Nat.le_refl _) _)
    ·obtain ⟨hru, hw3⟩ := Hwhole.out hf
     have Hst := hid_ (nameAt_step Hat.out hp _ _ hru (by omega) (by decide))
     have Hf := hid_ hf
     have Hr := hid_ hr
     have Hw3 := hid_ hw3
     have b1 : decide (((Utf8.decode s pos).1 : Int) < 32) = false := decide_eq_false (by omega)
     have b2 : decide ((127 : Int) ≤ ((Utf8.decode s pos).1 : Int)) = true := decide_eq_true (by omega)
     have b3 : decide (((Utf8.decode s pos).1 : Int) ≤ 159) = false := decide_eq_false (by omega)
     clear hr hf hru hw3
     go_wp2_with (go_at_call 184; (with_reducible refine Calls.mono (Hpre.out _) ?_); rintro e w' ⟨rfl, rfl⟩; rw [Hf.out])
     go_roundw
     case rel => exact ⟨pos + (Utf8.decode s pos).2, rfl, by rw [Hw3.out]; exact Hst.out⟩
     case measure => simp; omega
   ·have er : (((Utf8.decode s pos).1 : Int) == 65533) = false := by rw [beq_eq_false_iff_ne]; omega
    have hru := Hplain.out hr
    cases hb : badRune (Utf8.decode s pos).1
    ·have Hst := hid_ (nameAt_step Hat.out hp (Utf8.decode s pos).1 (Utf8.decode s pos).2 hru (Nat.ne_of_gt hwd) hb)
     have hb2 : 32 ≤ (Utf8.decode s pos).1 ∧ ((Utf8.decode s pos).1 < 127 ∨ 159 < (Utf8.decode s pos).1) := by
      unfold badRune at hb
      simp at hb
      omega
     have Hru := hid_ hru
     clear hru hb hr
     obtain ⟨g1, g2⟩ := hb2
     rcases g2 with g2 | g2
     ·have g4 : ¬ 127 ≤ (Utf8.decode s pos).1 := by omega
      go_wp2_with fail
      go_roundw
      case rel => exact ⟨pos + (Utf8.decode s pos).2, rfl, Hst.out⟩
      case measure => simp; omega
     ·have g3 : 127 ≤ (Utf8.decode s pos).1 := by omega
      go_wp2_with fail
      go_roundw
      case rel => exact ⟨pos + (Utf8.decode s pos).2, rfl, Hst.out⟩
      case measure => simp; omega
    ·have Hk := hid_ (nameAt_bad Hat.out hp (Utf8.decode s pos).1 (Utf8.decode s pos).2 hru (Nat.ne_of_gt hwd) hb)
     have hb2 : (Utf8.decode s pos).1 < 32 ∨ (32 ≤ (Utf8.decode s pos).1 ∧ 127 ≤ (Utf8.decode s pos).1 ∧ (Utf8.decode s pos).1 ≤ 159) := by
      unfold badRune at hb
      simp at hb
      omega
     have Hru := hid_ hru
     clear hru hb hr
     rcases hb2 with g1 | ⟨g0, g1, g2⟩
     all_goals
      go_wp2_with fail
      go_ret
      exact kindIs_mk Hk.out ((Below.refl _ _).alloc (Nat.le_refl _) _)
  ·have hnx : ∀ ty, (Instr.next (.pointer (some ⟨w.heap.size, 0, none⟩)) true ty).run Tryz.prog (w.iter s pos) = _ := fun ty => run_next_end w s pos ty hp
   obtain rfl : pos = s.size := by omega
   have Hk := hid_ (nameAt_end Hat.out (by omega) (by omega))
   go_wp2_with fail
   go_ret
   exact kindIs_mk Hk.out ((Below.refl _ _).alloc (Nat.le_refl _) _)
end Go.Proofs.YthjhofmjhmnddaaGreat
/-
 What the program's texts, numbers, truth and Right answer.
-/
namespace Go.Proofs.YthjhofmjhmnddaaGreat
open Go.RowKit Ru
abbrev textsVal (s : SpanD) : Value := .agg #[.string s.service, .string s.name]
abbrev numbersVal (s : SpanD) : Value := .agg #[.int .u64 (s.trace : Nat), .int .u64 (s.id : Nat), .int .u64 (s.parent : Nat), .int .u64 (s.start : Nat), .int .u64 (s.len : Nat)]
def ValIs (w : World) (v : Value) (e : Ending) (w' : World) : Prop := e = .returned v ∧ Below w.heap.size w w'
theorem valIs_mk {w w' : World} {v : Value} (hb : Below w.heap.size w w') : ValIs w v (.returned v) w' := ⟨rfl, hb⟩
set_option maxHeartbeats 1000000 in
theorem texts_any (s : SpanD) (w : World) :
  Calls Tryz.prog 172 #[spanVal s] w (ValIs w (textsVal s)) := by
 obtain ⟨t, i, p, st, ln, sv, nm, f⟩ := s
 go_enter Tryz.func172, Tryz.ntmps172
 go_wp2_with fail
 refine bodyPost_ret (v := .agg #[.string sv, .string nm]) (by simp [results, Tryz.results172, go_sem]) rfl ?_
 exact valIs_mk (((Below.refl _ _).alloc (Nat.le_refl _) _).alloc (by simp) _)
set_option maxHeartbeats 1000000 in
theorem right_bad (s : SpanD) (w : World) (ha : argBad s = true) :
  Calls Tryz.prog 148 #[spanVal s] w (KindIs w (rightF s)) := by
 obtain ⟨t, i, p, st, ln, sv, nm, f⟩ := s
 have Hk := hid_ (right_arg ha)
 have h1 := arg_yes ha
 simp only at h1
 clear ha
 rcases h1 with h1 | ⟨h0, h1⟩ | ⟨h0, h0', h1⟩ | ⟨h0, h0', h0'', h1⟩
 ·have e1 : ((t : Int) == 0) = true := by rw [beq_iff_eq]; omega
  have H := hid_ h1
  clear h1
  go_enter Tryz.func148, Tryz.ntmps148
  go_wp2_with fail
  go_ret
  exact kindIs_mk Hk.out ((Below.refl _ _).alloc (Nat.le_refl _) _)
 ·have e1 : ((t : Int) == 0) = false := by rw [beq_eq_false_iff_ne]; omega
  have e2 : ((i : Int) == 0) = true := by rw [beq_iff_eq]; omega
  have H := hid_ h1
  clear h1 h0
  go_enter Tryz.func148, Tryz.ntmps148
  go_wp2_with fail
  go_ret
  exact kindIs_mk Hk.out ((Below.refl _ _).alloc (Nat.le_refl _) _)
 ·have e1 : ((t : Int) == 0) = false := by rw [beq_eq_false_iff_ne]; omega
  have e2 : ((i : Int) == 0) = false := by rw [beq_eq_false_iff_ne]; omega
  clear h0 h0'
  go_enter Tryz.func148, Tryz.ntmps148
  go_wp2_with fail
  go_ret
  exact kindIs_mk Hk.out ((Below.refl _ _).alloc (Nat.le_refl _) _)
 ·have e1 : ((t : Int) == 0) = false := by rw [beq_eq_false_iff_ne]; omega
  have e2 : ((i : Int) == 0) = false := by rw [beq_eq_false_iff_ne]; omega
  clear h0 h0'
  go_enter Tryz.func148, Tryz.ntmps148
  go_wp2_with fail
  go_ret
  exact kindIs_mk Hk.out ((Below.refl _ _).alloc (Nat.le_refl _) _)
def textAt (s : SpanD) (k : Nat) : ByteArray := if k = 0 then s.service else s.name
set_option maxHeartbeats 2000000 in
theorem right_any (s : SpanD) (w : World) (hs : s.Wf) :
  Calls Tryz.prog 148 #[spanVal s] w (KindIs w (rightF s)) := by
 cases ha : argBad s
 rotate_left
 ·exact right_bad s w ha
 have Ha := hid_ ha
 obtain ⟨h0, h0', h1, h2⟩ := arg_no ha
 have Hsv := hid_ (fun W => name_any s.service W hs.service)
 have Hnm := hid_ (fun W => name_any s.name W hs.name)
 have Ht := hid_ (fun W => texts_any s W)
 clear ha hs
 have Hr1 := hid_ (fun h => right_name Ha.out (.inl h))
 have Hr2 := hid_ (fun h => right_name Ha.out (.inr h))
 have Hr3 := hid_ (right_ok Ha.out)
 obtain ⟨t, i, p, st, ln, sv, nm, f⟩ := s
 simp only at h0 h0' h1 h2
 have e1 : ((t : Int) == 0) = false := by rw [beq_eq_false_iff_ne]; omega
 have e2 : ((i : Int) == 0) = false := by rw [beq_eq_false_iff_ne]; omega
 clear h0 h0'
 go_enter Tryz.func148, Tryz.ntmps148
 go_wp2_with fail
 refine (Ht.out _).mono ?_
 rintro e w1 ⟨rfl, hb⟩
 have Hb1 := hid_ (((Below.refl w.heap.size w).alloc (Nat.le_refl _) _).trans (hb.mono (by simp)))
 clear hb
 have i0 : ∀ w, (Instr.index 254 (.agg #[.string sv, .string nm]) (.int .i64 0)).run Tryz.prog w = .ok (.string sv) w := fun _ => by kernel_rfl
 have i1 : ∀ w, (Instr.index 254 (.agg #[.string sv, .string nm]) (.int .i64 1)).run Tryz.prog w = .ok (.string nm) w := fun _ => by kernel_rfl
 go_wp2_with fail
 go_loopw [26] (fun vi wr => ∃ k : Nat, k ≤ 2 ∧ vi = .int .i64 (k : Nat) ∧ Below w.heap.size w wr ∧ Hid (1 ≤ k → nameOk sv = true) ∧ Hid (2 ≤ k → nameOk nm = true)) (fun vi _ => 2 - (intOf vi).toNat)
 case atStart => exact ⟨0, by omega, rfl, Hb1.out, hid_ (by omega), hid_ (by omega)⟩
 case round =>
  obtain ⟨k, hk, rfl, hb, H1, H2⟩ := hrel
  have Hb := hid_ hb
  clear hb
  rcases (show k = 0 ∨ k = 1 ∨ k = 2 by omega) with rfl | rfl | rfl
  ·go_wp2_with fail
   refine (Hsv.out _).mono ?_
   rintro e w2 ⟨rfl, hb2⟩
   have Hb2 := hid_ (Hb.out.trans (hb2.mono Hb.out.size))
   clear hb2
   cases hsv : nameOk sv
   ·rw [kind_bad hsv]
    have Hk := hid_ (Hr1.out hsv)
    clear hsv
    go_wp2_with fail
    go_ret
    exact kindIs_mk Hk.out Hb2.out
   ·rw [kind_good hsv]
    have Hn := hid_ hsv
    clear hsv
    go_wp2_with fail
    go_roundw
    case rel => exact ⟨1, by omega, rfl, Hb2.out, hid_ (fun _ => Hn.out), hid_ (by omega)⟩
    case measure => simp [intOf]
  ·go_wp2_with fail
   refine (Hnm.out _).mono ?_
   rintro e w2 ⟨rfl, hb2⟩
   have Hb2 := hid_ (Hb.out.trans (hb2.mono Hb.out.size))
   clear hb2
   cases hnm : nameOk nm
   ·rw [kind_bad hnm]
    have Hk := hid_ (Hr2.out hnm)
    clear hnm
    go_wp2_with fail
    go_ret
    exact kindIs_mk Hk.out Hb2.out
   ·rw [kind_good hnm]
    have Hn := hid_ hnm
    clear hnm
    go_wp2_with fail
    go_roundw
    case rel => exact ⟨2, by omega, rfl, Hb2.out, hid_ (fun _ => H1.out (by omega)), hid_ (fun _ => Hn.out)⟩
    case measure => simp [intOf]
  ·have Hk := hid_ (Hr3.out (H1.out (by omega)) (H2.out (by omega)))
   go_wp2_with fail
   go_ret
   exact kindIs_mk Hk.out Hb.out
end Go.Proofs.YthjhofmjhmnddaaGreat
