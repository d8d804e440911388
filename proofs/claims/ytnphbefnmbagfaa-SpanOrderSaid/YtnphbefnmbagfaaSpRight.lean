/-
  What the program's texts, numbers, truth and Right answer.
-/
import Derived.Test.YtnphbefnmbagfaaSpName
import Derived.Test.YtnphbefnmbagfaaRefRight
namespace Go.Proofs.Ytnphbefnmbagfaa
open Go.RowKit Ru

abbrev textsVal (s : SpanD) : Value := .agg #[.string s.service, .string s.name]
abbrev numbersVal (s : SpanD) : Value := .agg #[.int .u64 (s.trace : Nat), .int .u64 (s.id : Nat), .int .u64 (s.parent : Nat), .int .u64 (s.start : Nat), .int .u64 (s.len : Nat)]
def ValIs (w : World) (v : Value) (e : Ending) (w' : World) : Prop := e = .returned v ∧ Below w.heap.size w w'
theorem valIs_mk {w w' : World} {v : Value} (hb : Below w.heap.size w w') : ValIs w v (.returned v) w' := ⟨rfl, hb⟩

set_option maxHeartbeats 1000000 in
theorem texts_any (s : SpanD) (w : World) :
    Calls Try.prog 30 #[spanVal s] w (ValIs w (textsVal s)) := by
  obtain ⟨t, i, p, st, ln, sv, nm, f⟩ := s
  go_enter Try.func30, Try.ntmps30
  go_wp2_with fail
  refine bodyPost_ret (v := .agg #[.string sv, .string nm]) (by simp [results, Try.results30, go_sem]) rfl ?_
  exact valIs_mk (((Below.refl _ _).alloc (Nat.le_refl _) _).alloc (by simp) _)
set_option maxHeartbeats 1000000 in
theorem numbers_any (s : SpanD) (w : World) :
    Calls Try.prog 31 #[spanVal s] w (ValIs w (numbersVal s)) := by
  obtain ⟨t, i, p, st, ln, sv, nm, f⟩ := s
  go_enter Try.func31, Try.ntmps31
  go_wp2_with fail
  refine bodyPost_ret (v := .agg #[.int .u64 (t : Nat), .int .u64 (i : Nat), .int .u64 (p : Nat), .int .u64 (st : Nat), .int .u64 (ln : Nat)]) (by simp [results, Try.results31, go_sem]) rfl ?_
  exact valIs_mk (((Below.refl _ _).alloc (Nat.le_refl _) _).alloc (by simp) _)
theorem truth_any (b : Bool) (w : World) :
    Calls Try.prog 33 #[.bool b] w fun e w' => e = .returned (.int .u8 (if b then 1 else 0)) ∧ w = w' := by
  cases b
  all_goals
    go_enter Try.func33, Try.ntmps33
    go_wp2_with fail
    go_ret
    exact ⟨rfl, rfl⟩

set_option maxHeartbeats 1000000 in
theorem right_bad (s : SpanD) (w : World) (ha : argBad s = true) :
    Calls Try.prog 15 #[spanVal s] w (KindIs w (rightF s)) := by
  obtain ⟨t, i, p, st, ln, sv, nm, f⟩ := s
  have Hk := hid_ (right_arg ha)
  have h1 := arg_yes ha
  simp only at h1
  clear ha
  rcases h1 with h1 | ⟨h0, h1⟩ | ⟨h0, h0', h1⟩ | ⟨h0, h0', h0'', h1⟩
  · have e1 : ((t : Int) == 0) = true := by rw [beq_iff_eq]; omega
    have H := hid_ h1
    clear h1
    go_enter Try.func15, Try.ntmps15
    go_wp2_with fail
    go_ret
    exact kindIs_mk Hk.out ((Below.refl _ _).alloc (Nat.le_refl _) _)
  · have e1 : ((t : Int) == 0) = false := by rw [beq_eq_false_iff_ne]; omega
    have e2 : ((i : Int) == 0) = true := by rw [beq_iff_eq]; omega
    have H := hid_ h1
    clear h1 h0
    go_enter Try.func15, Try.ntmps15
    go_wp2_with fail
    go_ret
    exact kindIs_mk Hk.out ((Below.refl _ _).alloc (Nat.le_refl _) _)
  · have e1 : ((t : Int) == 0) = false := by rw [beq_eq_false_iff_ne]; omega
    have e2 : ((i : Int) == 0) = false := by rw [beq_eq_false_iff_ne]; omega
    clear h0 h0'
    go_enter Try.func15, Try.ntmps15
    go_wp2_with fail
    go_ret
    exact kindIs_mk Hk.out ((Below.refl _ _).alloc (Nat.le_refl _) _)
  · have e1 : ((t : Int) == 0) = false := by rw [beq_eq_false_iff_ne]; omega
    have e2 : ((i : Int) == 0) = false := by rw [beq_eq_false_iff_ne]; omega
    clear h0 h0'
    go_enter Try.func15, Try.ntmps15
    go_wp2_with fail
    go_ret
    exact kindIs_mk Hk.out ((Below.refl _ _).alloc (Nat.le_refl _) _)

def textAt (s : SpanD) (k : Nat) : ByteArray := if k = 0 then s.service else s.name
set_option maxHeartbeats 2000000 in
theorem right_any (s : SpanD) (w : World) (hs : s.Wf) :
    Calls Try.prog 15 #[spanVal s] w (KindIs w (rightF s)) := by
  cases ha : argBad s
  rotate_left
  · exact right_bad s w ha
  have Ha := hid_ ha
  obtain ⟨h0, h0', h1, h2⟩ := arg_no ha
  have Hsv := hid_ (fun W => name_any s.service W hs.service)
  have Hnm := hid_ (fun W => name_any s.name W hs.name)
  have Ht := hid_ (fun W => texts_any s W)
  clear ha hs
  have Hr1 := hid_ (fun h => right_name Ha.out (.inl h))
  have Hr2 := hid_ (fun h => right_name Ha.out (.inr h))
  have Hr3 := hid_ (right_ok Ha.out)
  obtain ⟨t, i, p, st, ln, sv, nm, f⟩ := s
  simp only at h0 h0' h1 h2
  have e1 : ((t : Int) == 0) = false := by rw [beq_eq_false_iff_ne]; omega
  have e2 : ((i : Int) == 0) = false := by rw [beq_eq_false_iff_ne]; omega
  clear h0 h0'
  go_enter Try.func15, Try.ntmps15
  go_wp2_with fail
  refine (Ht.out _).mono ?_
  rintro e w1 ⟨rfl, hb⟩
  have Hb1 := hid_ (((Below.refl w.heap.size w).alloc (Nat.le_refl _) _).trans (hb.mono (by simp)))
  clear hb
  have i0 : ∀ w, (Instr.index 52 (.agg #[.string sv, .string nm]) (.int .i64 0)).run Try.prog w = .ok (.string sv) w := fun _ => by kernel_rfl
  have i1 : ∀ w, (Instr.index 52 (.agg #[.string sv, .string nm]) (.int .i64 1)).run Try.prog w = .ok (.string nm) w := fun _ => by kernel_rfl
  go_wp2_with fail
  go_loopw [26] (fun vi wr => ∃ k : Nat, k ≤ 2 ∧ vi = .int .i64 (k : Nat) ∧ Below w.heap.size w wr ∧ Hid (1 ≤ k → nameOk sv = true) ∧ Hid (2 ≤ k → nameOk nm = true)) (fun vi _ => 2 - (intOf vi).toNat)
  case atStart => exact ⟨0, by omega, rfl, Hb1.out, hid_ (by omega), hid_ (by omega)⟩
  case round =>
    obtain ⟨k, hk, rfl, hb, H1, H2⟩ := hrel
    have Hb := hid_ hb
    clear hb
    rcases (show k = 0 ∨ k = 1 ∨ k = 2 by omega) with rfl | rfl | rfl
    · go_wp2_with fail
      refine (Hsv.out _).mono ?_
      rintro e w2 ⟨rfl, hb2⟩
      have Hb2 := hid_ (Hb.out.trans (hb2.mono Hb.out.size))
      clear hb2
      cases hsv : nameOk sv
      · rw [kind_bad hsv]
        have Hk := hid_ (Hr1.out hsv)
        clear hsv
        go_wp2_with fail
        go_ret
        exact kindIs_mk Hk.out Hb2.out
      · rw [kind_good hsv]
        have Hn := hid_ hsv
        clear hsv
        go_wp2_with fail
        go_roundw
        case rel => exact ⟨1, by omega, rfl, Hb2.out, hid_ (fun _ => Hn.out), hid_ (by omega)⟩
        case measure => simp [intOf]
    · go_wp2_with fail
      refine (Hnm.out _).mono ?_
      rintro e w2 ⟨rfl, hb2⟩
      have Hb2 := hid_ (Hb.out.trans (hb2.mono Hb.out.size))
      clear hb2
      cases hnm : nameOk nm
      · rw [kind_bad hnm]
        have Hk := hid_ (Hr2.out hnm)
        clear hnm
        go_wp2_with fail
        go_ret
        exact kindIs_mk Hk.out Hb2.out
      · rw [kind_good hnm]
        have Hn := hid_ hnm
        clear hnm
        go_wp2_with fail
        go_roundw
        case rel => exact ⟨2, by omega, rfl, Hb2.out, hid_ (fun _ => H1.out (by omega)), hid_ (fun _ => Hn.out)⟩
        case measure => simp [intOf]
    · have Hk := hid_ (Hr3.out (H1.out (by omega)) (H2.out (by omega)))
      go_wp2_with fail
      go_ret
      exact kindIs_mk Hk.out Hb.out
end Go.Proofs.Ytnphbefnmbagfaa
