/-
  Plain facts on lists of frames that are cut off anywhere.
-/
import Derived.Test.YtooodafmglhfoaaFrameBound
namespace Go.Proofs.Ytooodafmglhfoaa
open Crc Fm

def endOf (ls : List (List UInt8)) (i : Nat) : Nat := (frames (ls.take i)).length
def endsOf (ls : List (List UInt8)) (k : Nat) : List Int := (List.range (k + 1)).map fun i => (endOf ls i : Int)
theorem endsOf_length (ls : List (List UInt8)) (k : Nat) : (endsOf ls k).length = k + 1 := by simp [endsOf]
theorem endsOf_get (ls : List (List UInt8)) {k i : Nat} (h : i < (endsOf ls k).length) : (endsOf ls k)[i] = (endOf ls i : Int) := by simp [endsOf]
theorem endsOf_snoc (ls : List (List UInt8)) (k : Nat) : endsOf ls k ++ [(endOf ls (k + 1) : Int)] = endsOf ls (k + 1) := by
  unfold endsOf
  rw [List.range_succ (n := k + 1), List.map_append]
  rfl
theorem frames_take (ls : List (List UInt8)) {k : Nat} (h : k < ls.length) : frames (ls.take (k + 1)) = frames (ls.take k) ++ framed ls[k] := by
  rw [take_snoc ls h, frames_snoc]
theorem endOf_succ (ls : List (List UInt8)) {k : Nat} (h : k < ls.length) : endOf ls (k + 1) = endOf ls k + (4 + ls[k].length + 4) := by
  unfold endOf
  rw [frames_take ls h, List.length_append, framed_length]
theorem endOf_le (ls : List (List UInt8)) (h : Good ls) (k : Nat) (hk : k ≤ ls.length) : endOf ls k ≤ 20000 + 8 * 100 := by
  have h1 : ∀ k, k ≤ ls.length → endOf ls k = (ls.take k).flatten.length + 8 * k := by
    intro k
    induction k with
    | zero => intro _; simp [endOf, frames]
    | succ k ih =>
      intro hk
      rw [endOf_succ ls (by omega), flat_snoc ls (by omega), ih (by omega)]
      omega
  have h2 : (ls.take k).flatten.length ≤ ls.flatten.length := by
    conv => rhs; rw [← List.take_append_drop k ls, List.flatten_append, List.length_append]
    omega
  have := h1 k hk
  have := h.1
  have := h.2.2
  omega
theorem back_cut (ls : List (List UInt8)) (hg : ∀ d ∈ ls, d.length ≤ 8192) (cut h : Nat) (hc : cut ≤ (frames ls).length) (hh : h ≤ ls.length) (h1 : endOf ls h ≤ cut) (h2 : ∀ i, h < i → i ≤ ls.length → cut < endOf ls i) :
    allOf ((frames ls).take cut) = (ls.take h, endOf ls h, if endOf ls h = cut then 0 else 3) := by
  have hgt : ∀ d ∈ ls.take h, d.length ≤ 8192 := fun d hd => hg d (List.mem_of_mem_take hd)
  by_cases hl : h = ls.length
  · subst hl
    have e : endOf ls ls.length = (frames ls).length := by unfold endOf; rw [List.take_length]
    rw [if_pos (by omega), List.take_of_length_le (by omega), all_whole ls hg, List.take_length, e]
  · have hlt : h < ls.length := by omega
    have h3 := h2 (h + 1) (by omega) (by omega)
    rw [endOf_succ ls hlt] at h3
    have e : frames ls = frames (ls.take h) ++ (framed ls[h] ++ frames (ls.drop (h + 1))) := by
      rw [← frames_cons, ← List.drop_eq_getElem_cons hlt, ← frames_append, List.take_append_drop]
    have e2 : (frames ls).take cut = frames (ls.take h) ++ (framed ls[h]).take (cut - endOf ls h) := by
      rw [e, List.take_append, List.take_of_length_le (show (frames (ls.take h)).length ≤ cut from h1), List.take_append_of_le_length (by rw [framed_length]; unfold endOf at *; omega)]
      rfl
    rw [e2]
    by_cases h0 : endOf ls h = cut
    · rw [if_pos h0, show cut - endOf ls h = 0 by omega, List.take_zero, List.append_nil, all_whole _ hgt]
      rfl
    · rw [if_neg h0, all_off _ _ hgt (hg _ (List.getElem_mem hlt)) _ (by omega) (by rw [framed_length]; omega)]
      rfl
end Go.Proofs.Ytooodafmglhfoaa
