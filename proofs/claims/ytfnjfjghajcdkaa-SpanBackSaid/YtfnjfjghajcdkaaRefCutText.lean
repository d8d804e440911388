/-
  What the reference's cutText answers.
-/
import Derived.Test.YtfnjfjghajcdkaaRefSpan
import Derived.Test.YtfnjfjghajcdkaaSpanCut
namespace Go.Proofs.Ytfnjfjghajcdkaa
open Go.RowKit Ru

def TextPost (w : World) (l : List UInt8) (e : Ending) (w' : World) : Prop :=
  ∃ A n c, e = .returned (.tuple #[.string (cutTextF l).2.1, .slice A n c, .int .i64 (cutTextF l).1]) ∧ Sl w' A n c (cutTextF l).2.2 ∧ Below w.heap.size w w'
theorem textPost_none {w w' : World} {l : List UInt8} {k : Int} (h : cutTextF l = (k, ByteArray.empty, [])) (hb : Below w.heap.size w w') :
    TextPost w l (.returned (.tuple #[.string ByteArray.empty, .slice none 0 0, .int .i64 k])) w' := ⟨none, 0, 0, by rw [h], by rw [h]; exact Sl.none _, hb⟩
theorem textPost_ok {w w' : World} {l r : List UInt8} {s : ByteArray} {A : Option Addr} {n c : Nat} (h : cutTextF l = (0, s, r)) (hr : Sl w' A n c r) (hb : Below w.heap.size w w') :
    TextPost w l (.returned (.tuple #[.string s, .slice A n c, .int .i64 0])) w' := ⟨A, n, c, by rw [h], by rw [h]; exact hr, hb⟩

set_option maxHeartbeats 1000000 in
theorem refcutText_any (A : Option Addr) (n c : Nat) (l : List UInt8) (w : World) (hs : Sl w A n c l) :
    Calls Try.prog 39 #[.slice A n c] w (TextPost w l) := by
  have hle := hs.le
  have hnc := hs.cap
  have hcm := hs.max
  have Hs := hid_ hs
  have Hlen := hid_ hs.len
  by_cases h0 : n = 0
  · have hl : l = [] := List.eq_nil_of_length_eq_zero (by rw [hs.len]; exact h0)
    subst hl
    have e0 : ((n : Int) == 0) = true := by rw [beq_iff_eq]; omega
    have H0 := hid_ h0
    clear h0 hs
    go_enter Try.func39, Try.ntmps39
    go_wp2
    go_ret3
    exact textPost_none cutText_none (Below.refl _ _)
  have hne : l ≠ [] := by rintro rfl; exact h0 hs.len.symm
  have Hne := hid_ hne
  have e0 : ((n : Int) == 0) = false := by rw [beq_eq_false_iff_ne]; omega
  have hpos : 0 < n := by omega
  obtain ⟨b, off, rfl, hc0⟩ := hs.holds.at_ (k := 0) (by rw [hs.len]; exact hpos)
  have hx : l[0]'(by rw [hs.len]; exact hpos) = l.getD 0 0 := by rw [List.getD_eq_getElem?_getD, List.getElem?_eq_getElem]; rfl
  rw [hx, Nat.add_zero] at hc0
  have Hf := hid_ (cutText_form (l := l) hne)
  have Hsh := hid_ (cutText_short (l := l) hne)
  have Hok := hid_ (cutText_ok (l := l) hne)
  generalize l.getD 0 0 = x at *
  have bx := UInt8.toNat_lt x
  clear hs hne hx h0
  by_cases h1 : x.toNat < 1
  · have Hr := hid_ (Hf.out (.inl h1))
    go_enter Try.func39, Try.ntmps39
    go_wp2
    go_ret3
    exact textPost_none Hr.out (Below.refl _ _)
  by_cases h2 : 32 < x.toNat
  · have Hr := hid_ (Hf.out (.inr h2))
    go_enter Try.func39, Try.ntmps39
    go_wp2
    go_ret3
    exact textPost_none Hr.out (Below.refl _ _)
  by_cases h3 : n - 1 < x.toNat
  · have Hr := hid_ (Hsh.out (by omega) (by rw [Hlen.out]; exact h3))
    go_enter Try.func39, Try.ntmps39
    go_wp2
    go_ret3
    exact textPost_none Hr.out (Below.refl _ _)
  have Hr := hid_ (Hok.out (by omega) (by rw [Hlen.out]; exact h3))
  generalize hm : x.toNat = m at *
  have Hm := hid_ hm
  clear hm
  have hc1 : ¬ c = 1 := by omega
  have Hd := (Hs.out.upto (m + 1) (by omega)).from_ 1 (by omega)
  rw [cutAt_add (by omega), Option.map_some, add_plain, show m + 1 - 1 = m by omega] at Hd
  have Hcv := fun q => sl_string (Hd.drew q)
  have Hrest := hid_ (Hs.out.from_ (m + 1) (by omega))
  clear Hd
  generalize strOf ((l.take (m + 1)).drop 1) = t at *
  go_enter Try.func39, Try.ntmps39
  go_wp2_with fail
  go_quiet (fail)
  go_wp2_with fail
  all_goals
    go_ret3
    refine textPost_ok Hr.out (Sl.drew (Hrest.out.at_ ?_ (by omega) (by omega) rfl) _) (below_drewN (Below.refl _ _) _)
    first | exact cutAt_same (by omega) | (rw [cutAt_add (by omega), Option.map_some, add_plain])
end Go.Proofs.Ytfnjfjghajcdkaa
