/-
  What the reference's Right answers; a span as a value.
-/
import Derived.Test.YtlkpofhfkhdheaaGreatDoorRefName
namespace Go.Proofs.YtlkpofhfkhdheaaGreatDoor
open Go.RowKit Ru

theorem bcell {W w1 : World} (hb : Below W.heap.size W w1) : (∀ b o, b < W.heap.size → w1.cell? ⟨b, o, none⟩ = W.cell? ⟨b, o, none⟩) ∧ (∀ b o, b < W.heap.size → w1.frozen? ⟨b, o, none⟩ = W.frozen? ⟨b, o, none⟩) :=
  ⟨fun b o h => hb.cell (p := ⟨b, o, none⟩) h, fun b o h => hb.frozen (p := ⟨b, o, none⟩) h⟩

def spanCells (s : SpanD) : Array Value := #[.int .u64 (s.trace : Nat), .int .u64 (s.id : Nat), .int .u64 (s.parent : Nat), .int .u64 (s.start : Nat), .int .u64 (s.len : Nat), .string s.service, .string s.name, .bool s.fail]
abbrev spanVal (s : SpanD) : Value := .agg #[.int .u64 (s.trace : Nat), .int .u64 (s.id : Nat), .int .u64 (s.parent : Nat), .int .u64 (s.start : Nat), .int .u64 (s.len : Nat), .string s.service, .string s.name, .bool s.fail]

set_option maxHeartbeats 1000000 in
theorem refright_arg (s : SpanD) (w : World) (hs : s.Wf) (ha : argBad s = true) :
    Calls Tryz.prog 24 #[spanVal s] w (KindIs w (rightF s)) := by
  obtain ⟨t, i, p, st, ln, sv, nm, f⟩ := s
  have Hk := hid_ (right_arg ha)
  have h1 := arg_yes ha
  simp only at h1
  clear ha hs
  rcases h1 with h1 | ⟨h0, h1⟩ | ⟨h0, h0', h1⟩ | ⟨h0, h0', h0'', h1⟩
  · have e1 : ((t : Int) == 0) = true := by rw [beq_iff_eq]; omega
    have H := hid_ h1
    clear h1
    go_enter Tryz.func24, Tryz.ntmps24
    go_wp2_with fail
    go_ret
    exact kindIs_mk Hk.out ((Below.refl _ _).alloc (Nat.le_refl _) _)
  · have e1 : ((t : Int) == 0) = false := by rw [beq_eq_false_iff_ne]; omega
    have e2 : ((i : Int) == 0) = true := by rw [beq_iff_eq]; omega
    have H := hid_ h1
    clear h1 h0
    go_enter Tryz.func24, Tryz.ntmps24
    go_wp2_with fail
    go_ret
    exact kindIs_mk Hk.out ((Below.refl _ _).alloc (Nat.le_refl _) _)
  · have e1 : ((t : Int) == 0) = false := by rw [beq_eq_false_iff_ne]; omega
    have e2 : ((i : Int) == 0) = false := by rw [beq_eq_false_iff_ne]; omega
    clear h0 h0'
    go_enter Tryz.func24, Tryz.ntmps24
    go_wp2_with fail
    go_ret
    exact kindIs_mk Hk.out ((Below.refl _ _).alloc (Nat.le_refl _) _)
  · have e1 : ((t : Int) == 0) = false := by rw [beq_eq_false_iff_ne]; omega
    have e2 : ((i : Int) == 0) = false := by rw [beq_eq_false_iff_ne]; omega
    clear h0 h0'
    go_enter Tryz.func24, Tryz.ntmps24
    go_wp2_with fail
    go_ret
    exact kindIs_mk Hk.out ((Below.refl _ _).alloc (Nat.le_refl _) _)

set_option maxHeartbeats 1000000 in
theorem refright_any (s : SpanD) (w : World) (hs : s.Wf) :
    Calls Tryz.prog 24 #[spanVal s] w (KindIs w (rightF s)) := by
  cases ha : argBad s
  rotate_left
  · exact refright_arg s w hs ha
  have Ha := hid_ ha
  obtain ⟨h0, h0', h1, h2⟩ := arg_no ha
  have Hsv := hid_ (fun W => refname_any s.service W hs.service)
  have Hnm := hid_ (fun W => refname_any s.name W hs.name)
  clear ha hs
  have Hr1 := hid_ (fun h => right_name Ha.out (.inl h))
  have Hr2 := hid_ (fun h => right_name Ha.out (.inr h))
  have Hr3 := hid_ (right_ok Ha.out)
  obtain ⟨t, i, p, st, ln, sv, nm, f⟩ := s
  simp only at h0 h0' h1 h2
  have e1 : ((t : Int) == 0) = false := by rw [beq_eq_false_iff_ne]; omega
  have e2 : ((i : Int) == 0) = false := by rw [beq_eq_false_iff_ne]; omega
  clear h0 h0'
  cases hsv : nameOk sv
  · have Hk := hid_ (Hr1.out hsv)
    have Hn := hid_ (kind_bad hsv)
    clear hsv
    go_enter Tryz.func24, Tryz.ntmps24
    go_wp2_with fail
    refine (Hsv.out _).mono ?_
    rintro e w1 ⟨rfl, hb⟩
    rw [Hn.out]
    have Hb := hid_ hb
    clear hb
    go_wp2_with fail
    go_ret
    exact kindIs_mk Hk.out (((Below.refl _ _).alloc (Nat.le_refl _) _).trans (Hb.out.mono (by simp)))
  have Hn := hid_ (kind_good hsv)
  have Hsvo := hid_ hsv
  clear hsv
  go_enter Tryz.func24, Tryz.ntmps24
  go_wp2_with fail
  refine (Hsv.out _).mono ?_
  rintro e w1 ⟨rfl, hb⟩
  rw [Hn.out]
  have Hb := hid_ hb
  obtain ⟨hc, hf⟩ := bcell hb
  have hz : w.heap.size < w1.heap.size := by have := hb.size; simp at this; omega
  clear hb hf
  go_wp2_with fail
  refine (Hnm.out _).mono ?_
  rintro e w2 ⟨rfl, hb2⟩
  have Hb2 := hid_ (Below.trans (((Below.refl w.heap.size w).alloc (Nat.le_refl _) _).trans (Hb.out.mono (by simp))) (hb2.mono (by omega)))
  clear hb2 hc
  cases hnm : nameOk nm
  · rw [kind_bad hnm]
    have Hk := hid_ (Hr2.out hnm)
    clear hnm
    go_wp2_with fail
    go_ret
    exact kindIs_mk Hk.out Hb2.out
  · rw [kind_good hnm]
    have Hk := hid_ (Hr3.out Hsvo.out hnm)
    clear hnm
    go_wp2_with fail
    go_ret
    exact kindIs_mk Hk.out Hb2.out

def BoolIs (w : World) (k : Bool) (e : Ending) (w' : World) : Prop := e = .returned (.bool k) ∧ Below w.heap.size w w'
theorem boolIs_mk {w w' : World} {k k' : Bool} (h : k = k') (hb : Below w.heap.size w w') : BoolIs w k (.returned (.bool k')) w' := ⟨by rw [h], hb⟩
end Go.Proofs.YtlkpofhfkhdheaaGreatDoor
