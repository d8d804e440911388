/-
  The laws' bound on lists of bytes.
-/
import Derived.Test.YtooodafmglhfoaaSls
import Derived.Test.YtooodafmglhfoaaFrameMath
import Derived.Test.YtooodafmglhfoaaCrcCalls
namespace Go.Proofs.Ytooodafmglhfoaa
open Go.RowKit Crc Fm

/-- Few lists, each short, not many bytes together. -/
def Good (ls : List (List UInt8)) : Prop := ls.length ≤ 100 ∧ (∀ l ∈ ls, l.length ≤ 2000) ∧ ls.flatten.length ≤ 20000
def BoundPost (w : World) (ls : List (List UInt8)) (e : Ending) (w' : World) : Prop := ∃ b : Bool, e = .returned (.bool b) ∧ (b = true → Good ls) ∧ w = w'

theorem flat_snoc (ls : List (List UInt8)) {k : Nat} (h : k < ls.length) : (ls.take (k + 1)).flatten.length = (ls.take k).flatten.length + ls[k].length := by
  rw [take_snoc ls h, List.flatten_append, List.length_append]
  simp
theorem mem_snoc (ls : List (List UInt8)) {k : Nat} (h : k < ls.length) (h1 : ∀ l ∈ ls.take k, l.length ≤ 2000) (h2 : ls[k].length ≤ 2000) : ∀ l ∈ ls.take (k + 1), l.length ≤ 2000 := by
  rw [take_snoc ls h]
  intro l hl
  rcases List.mem_append.1 hl with h | h
  · exact h1 l h
  · rw [List.mem_singleton.1 h]; exact h2
set_option maxHeartbeats 400000 in
theorem bound_any (A : Option Addr) (n c : Nat) (ls : List (List UInt8)) (w : World) (hs : Sls w A n c ls) :
    Calls Try.prog 18 #[.slice A n c] w (BoundPost w ls) := by
  have hle := hs.le
  have Hlen := hid_ hs.len
  by_cases hbig : 100 < n
  · go_enter Try.func18, Try.ntmps18
    go_wp2
    go_ret
    exact ⟨false, rfl, (by intro h; cases h), rfl⟩
  go_enter Try.func18, Try.ntmps18
  go_wp2
  go_loop [3, 4] (fun s i => ∃ k : Nat, k ≤ n ∧ i = .int .i64 k ∧ s = .int .i64 ((ls.take k).flatten.length : Nat) ∧ (ls.take k).flatten.length ≤ 22000 ∧ Hid (∀ l ∈ ls.take k, l.length ≤ 2000)) (fun _ i => n - (intOf i).toNat)
  case atStart => exact ⟨0, by omega, rfl, rfl, by simp, hid_ (by simp)⟩
  case round =>
    obtain ⟨k, hk, rfl, rfl, hf, Hm⟩ := hrel
    by_cases hlt : k < n
    · have hkl : k < ls.length := by rw [Hlen.out]; exact hlt
      obtain ⟨b, off, A', n', c', rfl, hc1, hs1, _⟩ := hs.at_ hkl
      have Hl := hid_ hs1.len
      have hn' := hs1.le
      clear hs1
      have Hfs := hid_ (flat_snoc ls hkl)
      generalize hS : (ls.take k).flatten.length = s at hf
      have HS := hid_ hS
      clear hS
      by_cases h1 : 2000 < n'
      · go_wp2
        go_ret
        exact ⟨false, rfl, (by intro h; cases h), rfl⟩
      by_cases h2 : 20000 < s
      · go_wp2
        go_ret
        exact ⟨false, rfl, (by intro h; cases h), rfl⟩
      have Hms := hid_ (mem_snoc ls hkl Hm.out (by rw [Hl.out]; omega))
      go_wp2
      go_round
      case rel => exact ⟨k + 1, by omega, by go_num, int_of (by rw [Hfs.out, HS.out, Hl.out]; omega), by rw [Hfs.out, HS.out, Hl.out]; omega, Hms⟩
      case measure => simp [intOf]; omega
    · have Hk := hid_ (show ls.take k = ls by rw [List.take_of_length_le]; rw [Hlen.out]; omega)
      generalize hS : (ls.take k).flatten.length = s at hf
      have HS := hid_ hS
      clear hS
      by_cases h2 : s ≤ 20000
      · go_wp2
        go_ret
        refine ⟨_, rfl, fun _ => ⟨by rw [Hlen.out]; omega, ?_, ?_⟩, rfl⟩
        · have := Hm.out; rw [Hk.out] at this; exact this
        · have := HS.out; rw [Hk.out] at this; omega
      · go_wp2
        go_ret
        exact ⟨_, rfl, fun h => absurd (of_decide_eq_true h) (by omega), rfl⟩
end Go.Proofs.Ytooodafmglhfoaa
