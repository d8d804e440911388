/-
  What FormatUint answers to the base ten.
-/
import Derived.Test.YtlkpofhfkhdheaaGreatDoorShelf
import Derived.Test.YtlkpofhfkhdheaaGreatDoorRefRight
import Derived.Lib.AppendIntMem
namespace Go.Proofs.YtlkpofhfkhdheaaGreatDoor
open Go.RowKit Ru

/-- The table of the powers of ten stands as the program's text lays it. -/
def Pows (w : World) : Prop := Lib.TabIs Tryz.prog w "internal/strconv.uint64pow10" .u64 Lib.pow10Tab
theorem Pows.below {w0 w' : World} (h : Lib.TabBelow Tryz.prog w0.heap.size w0 "internal/strconv.uint64pow10" .u64 Lib.pow10Tab) (hb : Below w0.heap.size w0 w') : Pows w' := h w' hb
def StrIs (w : World) (s : ByteArray) (e : Ending) (w' : World) : Prop := e = .returned (.string s) ∧ Below w.heap.size w w'
theorem strIs_mk {w w' : World} {s s' : ByteArray} (h : s = s') (hb : Below w.heap.size w w') : StrIs w s (.returned (.string s')) w' := ⟨by rw [h], hb⟩
/-- A number's digits. -/
def digitsS (u : Nat) : ByteArray := ⟨(Lib.decDigits u).toArray⟩

set_option maxHeartbeats 2000000 in
theorem small_any (u : Nat) (w : World) (hu : u < 100) :
    Calls Tryz.prog 50 #[.int .u64 (u : Nat), .int .i64 10] w (StrIs w (digitsS u)) := by
  have hi : (u : Int) < 100 := by omega
  have e1 : decide ((u : Int) < 100) = true := decide_eq_true hi
  have hw : IntKind.i64.wrap (u : Int) = (u : Int) := by rw [IntKind.wrap_i64]; omega
  have H := hid_ (fun W => Sh.internal_strconv_small u hu W)
  go_enter Tryz.func50, Tryz.ntmps50
  go_wp2_with (go_at_call 72; (with_reducible refine Calls.mono (H.out _) ?_); rintro e w' ⟨rfl, rfl⟩)
  go_ret
  exact strIs_mk rfl (Below.refl _ _)

set_option maxRecDepth 100000 in
set_option maxHeartbeats 6400000 in
theorem big_any (u : Nat) (w : World) (hu : 100 ≤ u) (hu64 : u < 18446744073709551616) (htab : Pows w) :
    Calls Tryz.prog 50 #[.int .u64 (u : Nat), .int .i64 10] w (StrIs w (digitsS u)) := by
  have hu1 : 1 ≤ u := by omega
  have hnd20 : Lib.nDigits u ≤ 20 := by have := Lib.numDigits_eq u hu1 hu64; split at this <;> omega
  have hal : Tryz.prog.arrayLen 104 = 24 := by simp [Program.arrayLen, Tryz.underlying104]
  have hsl : ∀ W, (Instr.sliceAt 104 (.pointer (some ⟨w.heap.size, 0, none⟩)) none (some (.int .i64 (Lib.nDigits u : Int))) none).run Tryz.prog W = .ok (.slice (some ⟨w.heap.size, 0, none⟩) (Lib.nDigits u) 24) W := fun W => by
    rw [run_sliceAt_array_h W 104 ⟨w.heap.size, 0, none⟩ (by simp [Program.arrayLen, Program.elem, Tryz.underlying104]) .i64 (Lib.nDigits u : Int) (by omega) (by rw [hal]; omega)]
    go_simp
  have hH0 := Lib.holds_zero0 w 104 (Lib.nDigits u) (by omega)
  have hfmt := Sh.internal_strconv_formatBase10 w.heap.size 0 24 u (Array.replicate (Lib.nDigits u) 0) (w.alloc (.cells Lib.zeros24 104)) hH0 (by rw [Array.size_replicate]; exact Lib.lt_pow_nDigits u) hu64 (by rw [Array.size_replicate]; omega)
  rw [Array.size_replicate] at hfmt
  have HH0 := Lib.hid hH0
  have Hfmt := hid_ hfmt
  have Hnd := hid_ (Sh.internal_strconv_numDigits u hu1 hu64 _ (Lib.tabIs_alloc htab (.cells Lib.zeros24 104)))
  have e1 : decide ((u : Int) < 100) = false := decide_eq_false (by omega)
  clear hH0 hal hfmt htab
  go_enter Tryz.func50, Tryz.ntmps50
  go_wp2_with (go_at_call 73; (refine Calls.mono Hnd.out ?_); rintro e w' ⟨rfl, rfl⟩)
  refine Calls.mono Hfmt.out ?_
  rintro e w' ⟨rfl, k, v', dk, rfl, hF⟩
  have hcv : (convert 70 9 (.slice (some ⟨w.heap.size, 0, none⟩) (Lib.nDigits u) 24)).run Tryz.prog ((Go.Sort.putRow (fun (b : UInt8) => Value.int .u8 (b.toNat : Int)) (w.alloc (.cells Lib.zeros24 104)) w.heap.size 0 dk).drewN k) = .ok (.string (digitsS u)) ((Go.Sort.putRow (fun (b : UInt8) => Value.int .u8 (b.toNat : Int)) (w.alloc (.cells Lib.zeros24 104)) w.heap.size 0 dk).drewN k) := by
    have h := run_convert_bytes_back (P := Tryz.prog) ((Go.Sort.putRow (fun (b : UInt8) => Value.int .u8 (b.toNat : Int)) (w.alloc (.cells Lib.zeros24 104)) w.heap.size 0 dk).drewN k) 70 9 5 ⟨w.heap.size, 0, none⟩ 24 (Lib.decDigits u) Tryz.underlying70 Tryz.underlying5 Tryz.underlying9 (fun j hj => by
      rw [Lib.row_is_numeral hF j hj, Lib.add_plain, World.cell?_drewN]
      exact Go.Sort.cell?_putRow (fun (b : UInt8) => Value.int .u8 (b.toNat : Int)) _ w.heap.size 0 _ dk HH0.out (by rw [hF.size, Array.size_replicate]) j (by rw [hF.size]; rw [Lib.decDigits_length] at hj; exact hj))
    rw [Lib.decDigits_length] at h
    exact h
  obtain ⟨os, eo⟩ := Lib.fin_at w (.cells Lib.zeros24 104) dk k 0
  have Hbel := hid_ (show Below w.heap.size w ((Go.Sort.putRow (fun (b : UInt8) => Value.int .u8 (b.toNat : Int)) (w.alloc (.cells Lib.zeros24 104)) w.heap.size 0 dk).drewN k) by rw [eo]; exact Lib.below_grow _ w (Nat.le_refl _) k os)
  clear eo HH0 Hfmt Hnd
  go_wp2_with fail
  go_ret
  exact strIs_mk rfl Hbel.out

theorem format_in (u : Nat) (w : World) (hu64 : u < 18446744073709551616) (htab : Pows w) :
    Calls Tryz.prog 50 #[.int .u64 (u : Nat), .int .i64 10] w (StrIs w (digitsS u)) := by
  rcases Nat.lt_or_ge u 100 with h | h
  · exact small_any u w h
  · exact big_any u w h hu64 htab
set_option maxHeartbeats 1000000 in
theorem format_any (u : Nat) (w : World) (hu64 : u < 18446744073709551616) (htab : Pows w) :
    Calls Tryz.prog 32 #[.int .u64 (u : Nat), .int .i64 10] w (StrIs w (digitsS u)) := by
  have H := hid_ (format_in u w hu64 htab)
  clear htab
  go_enter Tryz.func32, Tryz.ntmps32
  go_wp2_with (go_at_call 50; (with_reducible refine Calls.mono H.out ?_); rintro e w' ⟨rfl, hb⟩)
  go_ret
  exact strIs_mk rfl hb
end Go.Proofs.YtlkpofhfkhdheaaGreatDoor
