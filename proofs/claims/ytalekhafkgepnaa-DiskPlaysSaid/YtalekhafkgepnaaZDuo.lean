/-
  The program's disk beside the reference's: what stands of both, and of all else.
-/
import Derived.Test.YtalekhafkgepnaaZRDiskApp4
import Derived.Test.YtalekhafkgepnaaZRDiskCrash
namespace Go.Proofs.Ytalekhafkgepnaa
set_option linter.unusedSimpArgs false
set_option linter.unusedVariables false
open Go.RowKit
namespace Dsk
set_option linter.unusedSimpArgs false
set_option linter.unusedVariables false
/-- The program's disk g is dl, the reference's r is dr; they share no block, and the blocks of P stand as they were in wa. -/
structure Duo (P : Nat → Prop) (wa w : World) (g r : Nat) (dl dr : DiskD) : Prop where
  ex : ∃ Q R, Dk w g Q dl ∧ Rk w r R dr ∧ (∀ q, Q q → ¬ R q) ∧ (∀ q, Q q → ¬ P q) ∧ (∀ q, R q → ¬ P q)
  os : w.os = wa.os
  tape : w.tape = wa.tape
  output : w.output = wa.output
  size : wa.heap.size ≤ w.heap.size
  plt : ∀ q, P q → q < wa.heap.size
  keep : ∀ q, P q → w.heap[q]? = wa.heap[q]?
theorem Duo.later {P : Nat → Prop} {wa w w' : World} {g r : Nat} {dl dr : DiskD} (h : Duo P wa w g r dl dr) (k : Below w.heap.size w w') : Duo P wa w' g r dl dr := by
  obtain ⟨Q, R, h1, h2, h3, h4, h5⟩ := h.ex
  exact ⟨⟨Q, R, h1.below k, h2.below k, h3, h4, h5⟩, k.os.trans h.os, k.tape.trans h.tape, k.output.trans h.output, Nat.le_trans h.size k.size, h.plt, fun q hq => (k.block q (Nat.lt_of_lt_of_le (h.plt q hq) h.size)).trans (h.keep q hq)⟩
theorem Duo.drew {P : Nat → Prop} {wa w : World} {g r : Nat} {dl dr : DiskD} (h : Duo P wa w g r dl dr) : Duo P wa w.drew g r dl dr := h.later (Below.drew (Below.refl _ _))
theorem Duo.alloc {P : Nat → Prop} {wa w : World} {g r : Nat} {dl dr : DiskD} (h : Duo P wa w g r dl dr) (o : Obj) : Duo P wa (w.alloc o) g r dl dr := h.later ((Below.refl _ _).alloc (Nat.le_refl _) o)
/-- A call on the program's disk. -/
theorem Duo.l {P : Nat → Prop} {wa w : World} {g r : Nat} {dl dr dl' : DiskD} {f : Nat} {args : Array Value} {v : Value} (h : Duo P wa w g r dl dr) (c : ∀ Q, Dk w g Q dl → (∀ q, Q q → ¬ P q) → Calls Try.prog f args w (DkPost w g Q v dl')) :
    Calls Try.prog f args w (fun e w' => e = .returned v ∧ Duo P wa w' g r dl' dr) := by
  obtain ⟨Q, R, h1, h2, h3, h4, h5⟩ := h.ex
  refine Calls.mono (c Q h1 h4) ?_
  rintro e w' ⟨he, Q', k1, k2, k3⟩
  refine ⟨he, ⟨Q', R, k1, h2.tn k2 (fun q hr hq => h3 q hq hr), fun q hq hr => ?_, fun q hq hp => ?_, h5⟩, k2.os.trans h.os, k2.tape.trans h.tape, k2.output.trans h.output, Nat.le_trans h.size k2.size, h.plt, fun q hq => (k2.block q (Nat.lt_of_lt_of_le (h.plt q hq) h.size) (fun hQ => h4 q hQ hq)).trans (h.keep q hq)⟩
  · rcases k3 q hq with h6 | h6
    · exact h3 q h6 hr
    · have := h2.qlt q hr; omega
  · rcases k3 q hq with h6 | h6
    · exact h4 q h6 hp
    · have := h.plt q hp; have := h.size; omega
/-- A call on the reference's disk. -/
theorem Duo.r {P : Nat → Prop} {wa w : World} {g r : Nat} {dl dr dr' : DiskD} {f : Nat} {args : Array Value} {v : Value} (h : Duo P wa w g r dl dr) (c : ∀ R, Rk w r R dr → (∀ q, R q → ¬ P q) → Calls Try.prog f args w (RkPost w r R v dr')) :
    Calls Try.prog f args w (fun e w' => e = .returned v ∧ Duo P wa w' g r dl dr') := by
  obtain ⟨Q, R, h1, h2, h3, h4, h5⟩ := h.ex
  refine Calls.mono (c R h2 h5) ?_
  rintro e w' ⟨he, R', k1, k2, k3⟩
  refine ⟨he, ⟨Q, R', h1.tn k2 (fun q hq hr => h3 q hq hr), k1, fun q hq hr => ?_, h4, fun q hq hp => ?_⟩, k2.os.trans h.os, k2.tape.trans h.tape, k2.output.trans h.output, Nat.le_trans h.size k2.size, h.plt, fun q hq => (k2.block q (Nat.lt_of_lt_of_le (h.plt q hq) h.size) (fun hR => h5 q hR hq)).trans (h.keep q hq)⟩
  · rcases k3 q hr with h6 | h6
    · exact h3 q hq h6
    · have := h1.qlt q hq; omega
  · rcases k3 q hq with h6 | h6
    · exact h5 q h6 hp
    · have := h.plt q hp; have := h.size; omega
/-- From here on all that is not the disks' is looked after. -/
theorem Duo.enter {P : Nat → Prop} {wa w : World} {g r : Nat} {dl dr : DiskD} (h : Duo P wa w g r dl dr) : ∃ P' : Nat → Prop, Duo P' w w g r dl dr ∧ (∀ q, P q → P' q) ∧
    ∀ w' dl' dr', Duo P' w w' g r dl' dr' → Duo P wa w' g r dl' dr' := by
  obtain ⟨Q, R, h1, h2, h3, h4, h5⟩ := h.ex
  have hp : ∀ q, P q → q < w.heap.size ∧ ¬ Q q ∧ ¬ R q := fun q hq => ⟨Nat.lt_of_lt_of_le (h.plt q hq) h.size, fun e => h4 q e hq, fun e => h5 q e hq⟩
  refine ⟨fun q => q < w.heap.size ∧ ¬ Q q ∧ ¬ R q, ⟨⟨Q, R, h1, h2, h3, fun q hq e => e.2.1 hq, fun q hq e => e.2.2 hq⟩, rfl, rfl, rfl, Nat.le_refl _, fun q hq => hq.1, fun q _ => rfl⟩, hp, fun w' dl' dr' k => ?_⟩
  obtain ⟨Q', R', k1, k2, k3, k4, k5⟩ := k.ex
  exact ⟨⟨Q', R', k1, k2, k3, fun q hq e => k4 q hq (hp q e), fun q hq e => k5 q hq (hp q e)⟩, k.os.trans h.os, k.tape.trans h.tape, k.output.trans h.output, Nat.le_trans h.size k.size, h.plt, fun q hq => (k.keep q (hp q hq)).trans (h.keep q hq)⟩
/-- .. and a block that has come since the disks. -/
theorem Duo.enter_box {P : Nat → Prop} {wa w : World} {g r : Nat} {dl dr : DiskD} (h : Duo P wa w g r dl dr) (o : Obj) : ∃ P' : Nat → Prop, Duo P' (w.alloc o) (w.alloc o) g r dl dr ∧ (∀ q, P q → P' q) ∧ P' w.heap.size ∧
    ∀ w' dl' dr', Duo P' (w.alloc o) w' g r dl' dr' → Duo P wa w' g r dl' dr' := by
  obtain ⟨Q, R, h1, h2, h3, h4, h5⟩ := h.ex
  have hz : (w.alloc o).heap.size = w.heap.size + 1 := by simp
  have ha := h.alloc o
  have hp : ∀ q, P q → q < (w.alloc o).heap.size ∧ ¬ Q q ∧ ¬ R q := fun q hq => ⟨Nat.lt_of_lt_of_le (h.plt q hq) ha.size, fun e => h4 q e hq, fun e => h5 q e hq⟩
  refine ⟨fun q => q < (w.alloc o).heap.size ∧ ¬ Q q ∧ ¬ R q, ⟨⟨Q, R, h1.alloc o, h2.below ((Below.refl _ _).alloc (Nat.le_refl _) o), h3, fun q hq e => e.2.1 hq, fun q hq e => e.2.2 hq⟩, rfl, rfl, rfl, Nat.le_refl _, fun q hq => hq.1, fun q _ => rfl⟩, hp, ⟨by omega, fun e => by have := h1.qlt _ e; omega, fun e => by have := h2.qlt _ e; omega⟩, fun w' dl' dr' k => ?_⟩
  obtain ⟨Q', R', k1, k2, k3, k4, k5⟩ := k.ex
  exact ⟨⟨Q', R', k1, k2, k3, fun q hq e => k4 q hq (hp q e), fun q hq e => k5 q hq (hp q e)⟩, k.os.trans ha.os, k.tape.trans ha.tape, k.output.trans ha.output, Nat.le_trans ha.size k.size, h.plt, fun q hq => (k.keep q (hp q hq)).trans (ha.keep q hq)⟩
theorem Duo.below {wa w : World} {B g r : Nat} {dl dr : DiskD} (h : Duo (· < B) wa w g r dl dr) : Below B wa w := ⟨h.os, h.tape, h.output, h.size, fun q hq => h.keep q hq⟩
theorem Duo.cell {P : Nat → Prop} {wa w : World} {g r : Nat} {dl dr : DiskD} (h : Duo P wa w g r dl dr) {b : Nat} (hb : P b) (i : Nat) : w.cell? ⟨b, i, none⟩ = wa.cell? ⟨b, i, none⟩ := World.cell?_of_block (a := ⟨b, i, none⟩) (h.keep b hb)
theorem Duo.sl {P : Nat → Prop} {wa w : World} {g r : Nat} {dl dr : DiskD} (h : Duo P wa w g r dl dr) {A : Option Addr} {n c : Nat} {l : List UInt8} (hs : Sl wa A n c l) (hP : ∀ a, A = some a → l ≠ [] → P a.block) : Sl w A n c l :=
  Sl.stands_at hs (fun a e hne => h.keep _ (hP a e hne))
theorem Duo.row {P : Nat → Prop} {wa w : World} {g r : Nat} {dl dr : DiskD} (h : Duo P wa w g r dl dr) {A : Option Addr} {n c : Nat} {vs : List Value} (hs : Row wa A n c vs) (hP : ∀ a, A = some a → vs ≠ [] → P a.block) : Row w A n c vs := by
  refine ⟨?_, hs.len, hs.cap, hs.max, hs.nil⟩
  intro hne
  obtain ⟨b, off, e, hc⟩ := hs.holds hne
  refine ⟨b, off, e, fun i u hu => ?_⟩
  rw [← hc i u hu]
  exact World.cell?_of_block (a := ⟨b, off + i, none⟩) (h.keep b (hP ⟨b, off, none⟩ e hne))
/-! ### each operation, on either disk -/
section
variable {P : Nat → Prop} {wa w : World} {g r : Nat} {dl dr : DiskD}
theorem Duo.app_l (h : Duo P wa w g r dl dr) (x : Int) (A : Option Addr) (n c : Nat) (l : List UInt8) (hs : Sl wa A n c l) (hP : ∀ a, A = some a → l ≠ [] → P a.block) (hn : n ≤ 140737488355328) :
    Calls Try.prog 55 #[.pointer (some ⟨g, 0, none⟩), .int .i64 x, .slice A n c] w (fun e w' => e = .returned (.int .i64 (appK dl x n)) ∧ Duo P wa w' g r (appD dl x l) dr) :=
  h.l fun Q hQ hp => by have k := append_any x A n c l g Q dl w hQ (h.sl hs hP) (fun a e hne hq => hp _ hq (hP a e hne)) hn; rw [hs.len] at k; exact k
theorem Duo.app_r (h : Duo P wa w g r dl dr) (x : Int) (A : Option Addr) (n c : Nat) (l : List UInt8) (hs : Sl wa A n c l) (hP : ∀ a, A = some a → l ≠ [] → P a.block) (hn : n ≤ 140737488355328) :
    Calls Try.prog 57 #[.pointer (some ⟨r, 0, none⟩), .int .i64 x, .slice A n c] w (fun e w' => e = .returned (.int .i64 (appK dr x n)) ∧ Duo P wa w' g r dl (appD dr x l)) :=
  h.r fun R hR hp => rappend_any x A n c l hn r R dr w hR (h.sl hs hP) (fun a e hne hq => hp _ hq (hP a e hne))
theorem Duo.sync_l (h : Duo P wa w g r dl dr) (x : Int) (h1 : -9223372036854775808 ≤ x) (h2 : x ≤ 9223372036854775807) :
    Calls Try.prog 56 #[.pointer (some ⟨g, 0, none⟩), .int .i64 x] w (fun e w' => e = .returned (.int .i64 (askK dl x)) ∧ Duo P wa w' g r (syncD dl x) dr) :=
  h.l fun Q hQ _ => sync_any x h1 h2 g Q dl w hQ
theorem Duo.sync_r (h : Duo P wa w g r dl dr) (x : Int) :
    Calls Try.prog 58 #[.pointer (some ⟨r, 0, none⟩), .int .i64 x] w (fun e w' => e = .returned (.int .i64 (askK dr x)) ∧ Duo P wa w' g r dl (syncD dr x)) :=
  h.r fun R hR _ => rsync_any x r R dr w hR
theorem Duo.cut_l (h : Duo P wa w g r dl dr) (x n : Int) (h1 : -9223372036854775808 ≤ x) (h2 : x ≤ 9223372036854775807) :
    Calls Try.prog 38 #[.pointer (some ⟨g, 0, none⟩), .int .i64 x, .int .i64 n] w (fun e w' => e = .returned (.int .i64 (cutK dl x n)) ∧ Duo P wa w' g r (cutD dl x n) dr) :=
  h.l fun Q hQ _ => cut_any x n h1 h2 g Q dl w hQ
theorem Duo.cut_r (h : Duo P wa w g r dl dr) (x n : Int) :
    Calls Try.prog 59 #[.pointer (some ⟨r, 0, none⟩), .int .i64 x, .int .i64 n] w (fun e w' => e = .returned (.int .i64 (cutK dr x n)) ∧ Duo P wa w' g r dl (cutD dr x n)) :=
  h.r fun R hR _ => rcut_any x n r R dr w hR
theorem Duo.rem_l (h : Duo P wa w g r dl dr) (x : Int) (h1 : -9223372036854775808 ≤ x) (h2 : x ≤ 9223372036854775807) :
    Calls Try.prog 60 #[.pointer (some ⟨g, 0, none⟩), .int .i64 x] w (fun e w' => e = .returned (.int .i64 (askK dl x)) ∧ Duo P wa w' g r (removeD dl x) dr) :=
  h.l fun Q hQ _ => remove_any x h1 h2 g Q dl w hQ
theorem Duo.rem_r (h : Duo P wa w g r dl dr) (x : Int) :
    Calls Try.prog 61 #[.pointer (some ⟨r, 0, none⟩), .int .i64 x] w (fun e w' => e = .returned (.int .i64 (askK dr x)) ∧ Duo P wa w' g r dl (removeD dr x)) :=
  h.r fun R hR _ => rremove_any x r R dr w hR
theorem Duo.arm_l (h : Duo P wa w g r dl dr) (n : Int) (h2 : n ≤ 9223372036854775807) :
    Calls Try.prog 31 #[.pointer (some ⟨g, 0, none⟩), .int .i64 n] w (fun e w' => e = .returned (.tuple #[]) ∧ Duo P wa w' g r (armD dl n) dr) :=
  h.l fun Q hQ _ => arm_any n h2 g Q dl w hQ
theorem Duo.arm_r (h : Duo P wa w g r dl dr) (n : Int) (h2 : n ≤ 9223372036854775807) :
    Calls Try.prog 62 #[.pointer (some ⟨r, 0, none⟩), .int .i64 n] w (fun e w' => e = .returned (.tuple #[]) ∧ Duo P wa w' g r dl (armD dr n)) :=
  h.r fun R hR _ => rarm_any n h2 r R dr w hR
theorem Duo.crash_l (h : Duo P wa w g r dl dr) (A : Option Addr) (n c : Nat) (keep : List Int) (hs : Row wa A n c (intVals keep)) (hP : ∀ a, A = some a → intVals keep ≠ [] → P a.block) :
    Calls Try.prog 32 #[.pointer (some ⟨g, 0, none⟩), .slice A n c] w (fun e w' => e = .returned (.tuple #[]) ∧ Duo P wa w' g r (crashD dl keep) dr) :=
  h.l fun Q hQ hp => crash_any A n c keep g Q dl w hQ (h.row hs hP) (fun a e hne hq => hp _ hq (hP a e hne))
theorem Duo.crash_r (h : Duo P wa w g r dl dr) (A : Option Addr) (n c : Nat) (keep : List Int) (hs : Row wa A n c (intVals keep)) (hP : ∀ a, A = some a → intVals keep ≠ [] → P a.block) :
    Calls Try.prog 63 #[.pointer (some ⟨r, 0, none⟩), .slice A n c] w (fun e w' => e = .returned (.tuple #[]) ∧ Duo P wa w' g r dl (crashD dr keep)) :=
  h.r fun R hR hp => rcrash_any A n c keep r R dr w hR (h.row hs hP) (fun a e hne hq => hp _ hq (hP a e hne))
end
end Dsk
end Go.Proofs.Ytalekhafkgepnaa
