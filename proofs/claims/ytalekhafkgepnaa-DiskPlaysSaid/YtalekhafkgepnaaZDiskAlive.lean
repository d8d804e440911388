/-
  The chapter's example of package disk comes; a disk in a law's hands.
-/
import Derived.Test.YtalekhafkgepnaaZGDD
import Derived.Test.YtalekhafkgepnaaZStr
import Derived.Lib.SlBytesConst
namespace Go.Proofs.Ytalekhafkgepnaa
set_option linter.unusedSimpArgs false
set_option linter.unusedVariables false
open Go.RowKit
open Go.Maps (Keyed)
open Go.Proofs Go.Shelf
namespace Dsk
set_option linter.unusedSimpArgs false
set_option linter.unusedVariables false
/-- A disk of a law's own: all its blocks are from B on. -/
structure DkB (B : Nat) (w0 w : World) (g : Nat) (Q : Nat → Prop) (d : DiskD) : Prop where
  dk : Dk w g Q d
  below : Below B w0 w
  own : ∀ q, Q q → B ≤ q
  base : B ≤ w0.heap.size
theorem DkB.size {B : Nat} {w0 w : World} {g : Nat} {Q : Nat → Prop} {d : DiskD} (h : DkB B w0 w g Q d) : B ≤ w.heap.size := Nat.le_trans h.base h.below.size
theorem DkB.post {B : Nat} {w0 w w' : World} {g : Nat} {Q : Nat → Prop} {d d' : DiskD} {v : Value} {e : Ending} (h : DkB B w0 w g Q d) (k : DkPost w g Q v d' e w') : e = .returned v ∧ (∃ Q', DkB B w0 w' g Q' d' ∧ ∀ q, Q' q → Q q ∨ w.heap.size ≤ q) ∧ Tn Q w w' := by
  obtain ⟨he, Q', h1, h2, h3⟩ := k
  refine ⟨he, ⟨Q', ⟨h1, h2.below h.below h.own h.size, fun q hq => ?_, h.base⟩, h3⟩, h2⟩
  rcases h3 q hq with h4 | h4
  · exact h.own q h4
  · have := h.size; omega
theorem DkB.later {B : Nat} {w0 w w' : World} {g : Nat} {Q : Nat → Prop} {d : DiskD} (h : DkB B w0 w g Q d) (k : Below w.heap.size w w') : DkB B w0 w' g Q d := ⟨h.dk.below k, h.below.trans (k.mono h.size), h.own, h.base⟩
theorem DkB.alloc {B : Nat} {w0 w : World} {g : Nat} {Q : Nat → Prop} {d : DiskD} (h : DkB B w0 w g Q d) (o : Obj) : DkB B w0 (w.alloc o) g Q d := h.later ((Below.refl _ _).alloc (Nat.le_refl _) o)
theorem DkB.drew {B : Nat} {w0 w : World} {g : Nat} {Q : Nat → Prop} {d : DiskD} (h : DkB B w0 w g Q d) : DkB B w0 w.drew g Q d := h.later (Below.drew (Below.refl _ _))
/-- Bytes that lay there before, and bytes in a block that has come since, are not the disk's. -/
theorem DkB.apart_low {B : Nat} {w0 w : World} {g : Nat} {Q : Nat → Prop} {d : DiskD} (h : DkB B w0 w g Q d) {A : Option Addr} {n c : Nat} {l : List UInt8} (hs : Sl w0 A n c l) (hB : w0.heap.size ≤ B) : ∀ a, A = some a → l ≠ [] → ¬ Q a.block := by
  intro a e hne hq
  obtain ⟨b, off, e2, hc⟩ := hs.holds (bytes_ne hne)
  rw [e] at e2
  cases e2
  obtain ⟨x, t, rfl⟩ := List.exists_cons_of_ne_nil hne
  have h1 := lt_of_cell (hc 0 _ rfl)
  have h2 := h.own _ hq
  simp only at h1 h2
  omega
theorem Dk.apart_new {w : World} {g : Nat} {Q : Nat → Prop} {d : DiskD} (h : Dk w g Q d) {G : Nat} (hG : w.heap.size ≤ G) : ∀ a, some (⟨G, 0, none⟩ : Addr) = some a → ¬ Q a.block := by
  intro a e hq
  cases e
  have := h.qlt _ hq
  simp only at this
  omega

def a0 : DiskD := newD 10
def a1 : DiskD := appD a0 1 [97, 98]
def a2 : DiskD := syncD a1 1
def a3 : DiskD := appD a2 1 [99, 100]
def a4 : DiskD := crashD a3 [1]
theorem ak1 : appK a0 1 2 = 0 := by decide
theorem ak2 : askK a1 1 = 0 := by decide
theorem ak3 : appK a2 1 2 = 0 := by decide
theorem ak4 : askK a4 1 = 0 := by decide
theorem ab4 : readB a4 1 = [97, 98, 99] := by decide
set_option maxRecDepth 100000 in
set_option maxHeartbeats 4000000 in
theorem dalive_any (w : World) : Calls Try.prog 20 #[] w (fun e w' => e = .returned (.bool true) ∧ Below w.heap.size w w') := by
  have kc := fun (w : World) (C : Array Value) (n c : Nat) => Lib.run_convert_bytes_const (P := Try.prog) w 75 5 C n c Try.underlying75 Try.underlying5
  go_enter Try.func20, Try.ntmps20
  go_wp2_with fail
  refine Calls.mono (new_any 10 (by omega) (by omega) w) ?_
  rintro e w1 ⟨rfl, hd, hb⟩
  have D1 := hid_ (show DkB w.heap.size w w1 w.heap.size _ a0 from ⟨hd, hb, fun q hq => by omega, Nat.le_refl _⟩)
  clear hd hb
  go_wp2_with fail
  refine Calls.mono (append_any 1 (some ⟨w1.heap.size, 0, none⟩) 2 2 [97, 98] _ _ _ _ (D1.out.alloc _).dk (sl_lit w1 [97, 98] _ 5 (2, 3) rfl 2 rfl (by omega)) (fun a e _ => D1.out.dk.apart_new (Nat.le_refl _) a e) (by omega)) ?_
  intro e w2 hp
  obtain ⟨rfl, ⟨Q2, d2, -⟩, -⟩ := (D1.out.alloc _).post hp
  have D2 := hid_ (show DkB w.heap.size w w2 w.heap.size Q2 a1 from d2)
  clear hp d2
  rw [show appK a0 1 ([97, 98] : List UInt8).length = 0 from ak1]
  go_wp2_with fail
  refine Calls.mono (sync_any 1 (by omega) (by omega) _ _ _ _ D2.out.dk) ?_
  intro e w3 hp
  obtain ⟨rfl, ⟨Q3, d3, -⟩, -⟩ := D2.out.post hp
  have D3 := hid_ (show DkB w.heap.size w w3 w.heap.size Q3 a2 from d3)
  clear hp d3
  rw [ak2]
  go_wp2_with fail
  refine Calls.mono (append_any 1 (some ⟨w3.heap.size, 0, none⟩) 2 2 [99, 100] _ _ _ _ (D3.out.alloc _).dk (sl_lit w3 [99, 100] _ 5 (2, 3) rfl 2 rfl (by omega)) (fun a e _ => D3.out.dk.apart_new (Nat.le_refl _) a e) (by omega)) ?_
  intro e w4 hp
  obtain ⟨rfl, ⟨Q4, d4, -⟩, -⟩ := (D3.out.alloc _).post hp
  have D4 := hid_ (show DkB w.heap.size w w4 w.heap.size Q4 a3 from d4)
  clear hp d4
  rw [show appK a2 1 ([99, 100] : List UInt8).length = 0 from ak3]
  go_wp2_with fail
  refine Calls.mono (crash_any (some ⟨w4.heap.size, 0, none⟩) 1 1 [1] _ _ _ _ (D4.out.alloc _).dk (OwnV.row (ownV_lit 3 w4 (intVals [1]) _ rfl 1 rfl (by omega) 0 (by omega))) (fun a e _ => D4.out.dk.apart_new (Nat.le_refl _) a e)) ?_
  intro e w5 hp
  obtain ⟨rfl, ⟨Q5, d5, -⟩, -⟩ := (D4.out.alloc _).post hp
  have D5 := hid_ (show DkB w.heap.size w w5 w.heap.size Q5 a4 from d5)
  clear hp d5
  go_wp2_with fail
  refine Calls.mono (read_any 1 (by omega) (by omega) _ _ _ _ D5.out.dk) ?_
  rintro e w6 ⟨A6, c6, rfl, ho, hb6⟩
  rw [ab4] at ho ⊢
  rw [ak4]
  have Hb6 := hid_ (D5.out.below.trans (hb6.mono D5.out.size))
  have hcv : (convert 75 9 (.slice A6 3 c6)).run Try.prog w6 = .ok (.string (strOf [97, 98, 99])) w6 := sl_string ho.sl
  clear hb6 ho
  go_wp2_with fail
  have e9 : ((strOf [97, 98, 99]).toList == [97, 98, 99]) = true := by
    first | kernel_rfl | rfl | simp [strOf, ByteArray.toList, ByteArray.toList.loop]
  rw [e9]
  go_ret
  exact ⟨rfl, Hb6.out⟩
theorem cut_nil (x n : Int) (w : World) : Calls Try.prog 38 #[.pointer none, .int .i64 x, .int .i64 n] w (fun e w' => e = .returned (.int .i64 13) ∧ Below w.heap.size w w') := by
  go_enter Try.func38, Try.ntmps38
  go_wp2_with fail
  refine Calls.mono (find_nil x w) ?_
  rintro e w1 ⟨rfl, hb⟩
  have Hb := hid_ (hb.alloc hb.size (.cells #[.slice none 0 0, .int .i64 0] 140))
  clear hb
  go_wp2_with fail
  go_ret
  exact ⟨rfl, Hb.out⟩
end Dsk
end Go.Proofs.Ytalekhafkgepnaa
