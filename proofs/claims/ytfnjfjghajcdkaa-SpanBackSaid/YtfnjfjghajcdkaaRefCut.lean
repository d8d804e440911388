/-
  What the reference's Cut answers.
-/
import Derived.Test.YtfnjfjghajcdkaaRefCutText
import Derived.Test.YtfnjfjghajcdkaaRefRight
namespace Go.Proofs.Ytfnjfjghajcdkaa
open Go.RowKit Ru

def SpanCutPost (w : World) (l : List UInt8) (e : Ending) (w' : World) : Prop :=
  ∃ A n c, e = .returned (.tuple #[spanVal (cutSpanF l).2.1, .slice A n c, .int .i64 (cutSpanF l).1]) ∧ Sl w' A n c (cutSpanF l).2.2 ∧ Below w.heap.size w w'
theorem spanCut_none {w w' : World} {l : List UInt8} {k : Int} (h : cutSpanF l = (k, SpanD.zero, [])) (hb : Below w.heap.size w w') :
    SpanCutPost w l (.returned (.tuple #[spanVal SpanD.zero, .slice none 0 0, .int .i64 k])) w' := ⟨none, 0, 0, by rw [h], by rw [h]; exact Sl.none _, hb⟩
theorem spanCut_short {l : List UInt8} (h : l.length < 41) : cutSpanF l = (3, SpanD.zero, []) := by unfold cutSpanF; rw [if_pos h]

set_option maxRecDepth 100000 in
set_option maxHeartbeats 1000000 in
theorem refcut_short (A : Option Addr) (n c : Nat) (l : List UInt8) (w : World) (hs : Sl w A n c l) (h : n < 41) :
    Calls Try.prog 21 #[.slice A n c] w (SpanCutPost w l) := by
  have Hc := hid_ (spanCut_short (l := l) (by rw [hs.len]; exact h))
  go_enter Try.func21, Try.ntmps21
  go_wp2_with fail
  refine bodyPost_ret (v := .tuple #[spanVal SpanD.zero, .slice none 0 0, .int .i64 3]) (by simp [results, Try.results21, go_sem, SpanD.zero]) rfl ?_
  exact spanCut_none Hc.out ((Below.refl _ _).alloc (Nat.le_refl _) _)

theorem number_at (A : Option Addr) (n c : Nat) (l : List UInt8) (m : Nat) (w : World) (hs : Sl w A n c l) (h : m + 8 < n) :
    Calls Try.prog 38 #[.slice (A.map fun x => { block := x.block, off := x.off + m }) (n - m) (c - m)] w fun e w' => e = .returned (.int .u64 (numB (l.drop m) 8 : Nat)) ∧ w' = w := by
  have h1 := hs.from_ m (by omega)
  by_cases h0 : m = 0
  · subst h0
    rw [cutAt_add (by have := hs.cap; omega)] at h1
    have e : (A.map fun x => ({ block := x.block, off := x.off + 0 } : Addr)) = A.map fun x => x.add 0 := by
      rcases hA : A with _ | x
      · rfl
      · have hne : l ≠ [] := by rintro rfl; have := hs.len; simp at this; omega
        obtain ⟨b, off, e, _⟩ := hs.holds (bytes_ne hne)
        rw [hA] at e
        cases e
        rfl
    rw [e]
    exact quiet_flip (refnumber_any _ _ _ _ w h1 (by omega))
  · rw [cutAt_off (by have := hs.cap; omega) h0 rfl] at h1
    exact quiet_flip (refnumber_any _ _ _ _ w h1 (by omega))

theorem number_in (b off : Nat) (n c : Nat) (l : List UInt8) (m : Nat) (w : World) (hs : Sl w (some ⟨b, off, none⟩) n c l) (h : m + 8 < n) :
    Calls Try.prog 38 #[.slice (some { block := b, off := off + m }) (n - m) (c - m)] w fun e w' => e = .returned (.int .u64 (numB (l.drop m) 8 : Nat)) ∧ w' = w :=
  number_at (some ⟨b, off, none⟩) n c l m w hs h
end Go.Proofs.Ytfnjfjghajcdkaa
