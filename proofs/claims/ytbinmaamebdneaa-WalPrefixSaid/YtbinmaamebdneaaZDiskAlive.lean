/-
  The chapter's example of package disk comes; a disk in a law's hands.
-/
import Derived.Test.YtbinmaamebdneaaZGWD
import Derived.Test.YtbinmaamebdneaaZStr
import Derived.Lib.SlBytesConst
namespace Go.Proofs.Ytbinmaamebdneaa
set_option linter.unusedSimpArgs false
set_option linter.unusedVariables false
open Go.RowKit
open Go.Maps (Keyed)
open Go.Proofs Go.Shelf
namespace Dsk
set_option linter.unusedSimpArgs false
set_option linter.unusedVariables false
/-- A disk of a law's own: all its blocks are from B on. -/
structure DkB (B : Nat) (w0 w : World) (g : Nat) (Q : Nat → Prop) (d : DiskD) : Prop where
  dk : Dk w g Q d
  below : Below B w0 w
  own : ∀ q, Q q → B ≤ q
  base : B ≤ w0.heap.size
theorem DkB.size {B : Nat} {w0 w : World} {g : Nat} {Q : Nat → Prop} {d : DiskD} (h : DkB B w0 w g Q d) : B ≤ w.heap.size := Nat.le_trans h.base h.below.size
theorem DkB.post {B : Nat} {w0 w w' : World} {g : Nat} {Q : Nat → Prop} {d d' : DiskD} {v : Value} {e : Ending} (h : DkB B w0 w g Q d) (k : DkPost w g Q v d' e w') : e = .returned v ∧ (∃ Q', DkB B w0 w' g Q' d' ∧ ∀ q, Q' q → Q q ∨ w.heap.size ≤ q) ∧ Tn Q w w' := by
  obtain ⟨he, Q', h1, h2, h3⟩ := k
  refine ⟨he, ⟨Q', ⟨h1, h2.below h.below h.own h.size, fun q hq => ?_, h.base⟩, h3⟩, h2⟩
  rcases h3 q hq with h4 | h4
  · exact h.own q h4
  · have := h.size; omega
theorem DkB.later {B : Nat} {w0 w w' : World} {g : Nat} {Q : Nat → Prop} {d : DiskD} (h : DkB B w0 w g Q d) (k : Below w.heap.size w w') : DkB B w0 w' g Q d := ⟨h.dk.below k, h.below.trans (k.mono h.size), h.own, h.base⟩
theorem DkB.alloc {B : Nat} {w0 w : World} {g : Nat} {Q : Nat → Prop} {d : DiskD} (h : DkB B w0 w g Q d) (o : Obj) : DkB B w0 (w.alloc o) g Q d := h.later ((Below.refl _ _).alloc (Nat.le_refl _) o)
theorem DkB.drew {B : Nat} {w0 w : World} {g : Nat} {Q : Nat → Prop} {d : DiskD} (h : DkB B w0 w g Q d) : DkB B w0 w.drew g Q d := h.later (Below.drew (Below.refl _ _))
/-- Bytes that lay there before, and bytes in a block that has come since, are not the disk's. -/
theorem DkB.apart_low {B : Nat} {w0 w : World} {g : Nat} {Q : Nat → Prop} {d : DiskD} (h : DkB B w0 w g Q d) {A : Option Addr} {n c : Nat} {l : List UInt8} (hs : Sl w0 A n c l) (hB : w0.heap.size ≤ B) : ∀ a, A = some a → l ≠ [] → ¬ Q a.block := by
  intro a e hne hq
  obtain ⟨b, off, e2, hc⟩ := hs.holds (bytes_ne hne)
  rw [e] at e2
  cases e2
  obtain ⟨x, t, rfl⟩ := List.exists_cons_of_ne_nil hne
  have h1 := lt_of_cell (hc 0 _ rfl)
  have h2 := h.own _ hq
  simp only at h1 h2
  omega
theorem Dk.apart_new {w : World} {g : Nat} {Q : Nat → Prop} {d : DiskD} (h : Dk w g Q d) {G : Nat} (hG : w.heap.size ≤ G) : ∀ a, some (⟨G, 0, none⟩ : Addr) = some a → ¬ Q a.block := by
  intro a e hq
  cases e
  have := h.qlt _ hq
  simp only at this
  omega

def a0 : DiskD := newD 10
def a1 : DiskD := appD a0 1 [97, 98]
def a2 : DiskD := syncD a1 1
def a3 : DiskD := appD a2 1 [99, 100]
def a4 : DiskD := crashD a3 [1]
theorem ak1 : appK a0 1 2 = 0 := by decide
theorem ak2 : askK a1 1 = 0 := by decide
theorem ak3 : appK a2 1 2 = 0 := by decide
theorem ak4 : askK a4 1 = 0 := by decide
theorem ab4 : readB a4 1 = [97, 98, 99] := by decide
theorem cut_nil (x n : Int) (w : World) : Calls Try.prog 44 #[.pointer none, .int .i64 x, .int .i64 n] w (fun e w' => e = .returned (.int .i64 13) ∧ Below w.heap.size w w') := by
  go_enter Try.func44, Try.ntmps44
  go_wp2_with fail
  refine Calls.mono (find_nil x w) ?_
  rintro e w1 ⟨rfl, hb⟩
  have Hb := hid_ (hb.alloc hb.size (.cells #[.slice none 0 0, .int .i64 0] 61))
  clear hb
  go_wp2_with fail
  go_ret
  exact ⟨rfl, Hb.out⟩
end Dsk
end Go.Proofs.Ytbinmaamebdneaa
