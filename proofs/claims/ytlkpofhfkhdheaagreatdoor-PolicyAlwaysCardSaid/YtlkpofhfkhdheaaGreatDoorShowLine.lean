/-
  What showLine answers.
-/
import Derived.Test.YtlkpofhfkhdheaaGreatDoorRightLine
import Derived.Test.YtlkpofhfkhdheaaGreatDoorFormat
namespace Go.Proofs.YtlkpofhfkhdheaaGreatDoor
open Go.RowKit Ru

def verbS (k : Bool) : ByteArray := if k = true then ⟨#[107, 101, 101, 112, 32]⟩ else ⟨#[100, 114, 111, 112, 32]⟩
/-- A rule's line. -/
def lineN (n : Nat) (r : RuleD) : ByteArray :=
  if n = 2 then verbS r.keep ++ r.what ++ (⟨#[32]⟩ ++ digitsS r.num) else if n = 3 then verbS r.keep ++ r.what ++ (⟨#[32]⟩ ++ r.text) else verbS r.keep ++ r.what
def lineS (r : RuleD) : ByteArray := lineN (formN (whatF r.what)) r
/-- The powers of ten stand, whatever the call does at its own blocks. -/
def PowsB (w : World) : Prop := Lib.TabBelow Tryz.prog w.heap.size w "internal/strconv.uint64pow10" .u64 Lib.pow10Tab
theorem PowsB.later {w w' : World} (h : PowsB w) (hb : Below w.heap.size w w') : PowsB w' := fun W hw => h W (hb.trans (hw.mono hb.size))
theorem PowsB.here {w : World} (h : PowsB w) : Pows w := h w (Below.refl _ _)
theorem digits_size (u : Nat) (h : u < 18446744073709551616) : (digitsS u).size ≤ 20 := by
  have e : (digitsS u).size = Lib.nDigits u := by rw [← Lib.decDigits_length]; rfl
  rw [e]
  rcases Nat.eq_zero_or_pos u with rfl | h1
  · unfold Lib.nDigits; simp
  · have := Lib.numDigits_eq u h1 h; split at this <;> omega

set_option maxHeartbeats 4000000 in
theorem show_any (r : RuleD) (w : World) (hr : r.Wf) (hw : r.what.size ≤ 10000) (ht : r.text.size ≤ 10000) (htab : PowsB w) :
    Calls Tryz.prog 17 #[ruleVal r] w (StrIs w (lineS r)) := by
  have Hf := hid_ (fun W => form_any r.what W)
  have hfs := form_lt (whatF r.what)
  have hn := hr.num
  have Hd := hid_ (fun W (h : Below w.heap.size w W) => format_any r.num W hr.num (htab.later h).here)
  have hds := digits_size r.num hr.num
  have Hl := hid_ (show lineS r = lineN (formN (whatF r.what)) r from rfl)
  clear hr htab
  obtain ⟨kp, wh, nm, tx⟩ := r
  simp only at hfs hn Hf Hd Hl hw ht hds
  generalize lineS _ = ln at *
  generalize formN (whatF wh) = fm at *
  generalize hdg : digitsS nm = dg at *
  have Hdg := hid_ hdg
  clear hdg
  have Ha := hid_ ((Below.refl w.heap.size w).alloc (Nat.le_refl _) (.cells #[.bool kp, .string wh, .int .u64 (nm : Nat), .string tx] 49))
  rcases hfs with rfl | rfl | rfl | rfl
  · cases kp
    all_goals
      go_enter Tryz.func17, Tryz.ntmps17
      go_wp2_with (go_at_call 31; (with_reducible refine Calls.mono (Hf.out _) ?_); rintro e w' ⟨rfl, rfl⟩)
      go_ret
      exact strIs_mk (Hl.out.trans rfl) Ha.out
  · cases kp
    all_goals
      go_enter Tryz.func17, Tryz.ntmps17
      go_wp2_with (go_at_call 31; (with_reducible refine Calls.mono (Hf.out _) ?_); rintro e w' ⟨rfl, rfl⟩)
      go_ret
      exact strIs_mk (Hl.out.trans rfl) Ha.out
  · cases kp
    all_goals
      go_enter Tryz.func17, Tryz.ntmps17
      go_wp2_with (go_at_call 31; (with_reducible refine Calls.mono (Hf.out _) ?_); rintro e w' ⟨rfl, rfl⟩)
      refine Calls.mono (Hd.out _ Ha.out) ?_
      rintro e w1 ⟨rfl, hb1⟩
      have Hb1 := hid_ (Ha.out.trans (hb1.mono Ha.out.size))
      clear hb1
      go_wp2_with fail
      go_ret
      exact strIs_mk (Hl.out.trans (by rw [← Hdg.out]; rfl)) Hb1.out
  · cases kp
    all_goals
      go_enter Tryz.func17, Tryz.ntmps17
      go_wp2_with (go_at_call 31; (with_reducible refine Calls.mono (Hf.out _) ?_); rintro e w' ⟨rfl, rfl⟩)
      go_ret
      exact strIs_mk (Hl.out.trans rfl) Ha.out
end Go.Proofs.YtlkpofhfkhdheaaGreatDoor
