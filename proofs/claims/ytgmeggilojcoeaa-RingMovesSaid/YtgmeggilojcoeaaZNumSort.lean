/-
  The library's slices.Sort at uint64: a sorted permutation, in place.
-/
import Derived.Test.YtgmeggilojcoeaaZNumPdq
namespace Go.Proofs.Ytgmeggilojcoeaa
set_option linter.unusedSimpArgs false
set_option linter.unusedVariables false
open Go.RowKit Go.Sort
namespace Ns
set_option linter.unusedSimpArgs false
set_option linter.unusedVariables false
theorem perm_of_in {d d' : Array Nat} (h : PermIn 0 d.size d d') : d'.toList.Perm d.toList := by
  have := h.2.2
  rw [← h.1] at this
  rwa [Array.extract_size, h.1, Array.extract_size] at this
theorem pairwise_of_in {d : Array Nat} (h : SortedIn ltN 0 d.size d) : d.toList.Pairwise (· ≤ ·) := by
  rw [List.pairwise_iff_getElem]
  intro i j hi hj hij
  have hi' : i < d.size := by simpa using hi
  have hj' : j < d.size := by simpa using hj
  have := h i j (Nat.zero_le _) hij hj'
  rw [getElem!_pos d i hi', getElem!_pos d j hj'] at this
  have h2 := of_decide_eq_false this
  rw [Array.getElem_toList, Array.getElem_toList]
  omega
theorem num_cell (ids : List Nat) {k : Nat} {u : Value} (h : (Rg.numE.all ids)[k]? = some u) : ∃ hk : k < ids.length, u = .int .u64 (ids[k] : Nat) := by
  have hk : k < ids.length := by
    have := (List.getElem?_eq_some_iff.1 h).1
    rw [Rg.numE.all_length] at this
    simpa [Rg.numE] using this
  refine ⟨hk, ?_⟩
  have h1 := Rg.numE.all_get ids hk 0 (by decide)
  have h2 : (Rg.numE.cf ids[k])[0]? = some (.int .u64 (ids[k] : Nat)) := rfl
  rw [h2] at h1
  have e : k * Rg.numE.K + 0 = k := by show k * 1 + 0 = k; omega
  rw [e, h] at h1
  exact Option.some.inj h1
/-- A row of numbers as the sort has it. -/
theorem nst_of {B : Nat} {w : World} {g off n c : Nat} {ids : List Nat} (h : Rg.numE.Row w (some ⟨g, off, none⟩) n c ids) (hB : B ≤ g) (hg : g < w.heap.size) (hf : ∀ o, w.frozen? ⟨g, o, none⟩ = false) : NSt B w g off ids.toArray w := by
  refine ⟨Below.refl _ _, fun k hk => ?_, hf, hB, hg⟩
  have hk' : k < ids.length := by simpa using hk
  obtain ⟨b, o, e, _, hc⟩ := h.at_ hk'
  injection e with e
  injection e with e1 e2
  subst e1 e2
  have := hc 0 (.int .u64 (ids[k] : Nat)) rfl
  rw [show off + k * Rg.numE.K + 0 = off + k by show off + k * 1 + 0 = off + k; omega] at this
  rw [this, getElem!_pos ids.toArray k hk]
  simp
theorem row_of {B : Nat} {w0 w : World} {g off n c : Nat} {ids : List Nat} (h : NSt B w0 g off ids.toArray w) (h1 : ids.length = n) (h2 : n ≤ c) (h3 : c ≤ 9223372036854775807) : Rg.numE.Row w (some ⟨g, off, none⟩) n c ids := by
  refine ⟨fun _ => ⟨g, off, rfl, fun k u hu => ?_⟩, h1, h2, h3, fun e => by cases e⟩
  obtain ⟨hk, rfl⟩ := num_cell _ hu
  rw [h.at_ k (by simpa using hk), getElem!_pos ids.toArray k (by simpa using hk)]
  simp
/-- No result; the row holds the same numbers, sorted. -/
def SortNum (B : Nat) (w0 : World) (g off : Nat) (ids : List Nat) (e : Ending) (W : World) : Prop := e = .returned (.tuple #[]) ∧ ∃ ids' : List Nat, ids'.Perm ids ∧ ids'.Pairwise (· ≤ ·) ∧ NSt B w0 g off ids'.toArray W
theorem sortNum_mk {B : Nat} {w0 : World} {g off n : Nat} {ids : List Nat} {d : Array Nat} {W : World} (hl : ids.length = n) (hd : pdq ltN ids.toArray 0 n d.size true true = d ∨ ∃ lim, pdq ltN ids.toArray 0 n lim true true = d) (h : NSt B w0 g off d W) : SortNum B w0 g off ids (.returned (.tuple #[])) W := by
  have hd : ∃ lim, pdq ltN ids.toArray 0 n lim true true = d := by
    rcases hd with h | h
    · exact ⟨_, h⟩
    · exact h
  obtain ⟨lim, rfl⟩ := hd
  have hs : ids.toArray.size = n := by simpa using hl
  have hp := pdq_sorts ltN swoN ids.toArray 0 ids.toArray.size lim true true (Nat.zero_le _) (Nat.le_refl _) (Or.inl rfl)
  rw [hs] at hp
  have h1 := hp.1
  have h2 := hp.2
  generalize pdq ltN ids.toArray 0 n lim true true = d at *
  have hds : d.size = n := by have := h1.1; omega
  refine ⟨rfl, d.toList, ?_, ?_, by simpa using h⟩
  · have := perm_of_in (d := ids.toArray) (d' := d) (by rw [hs]; exact h1)
    simpa using this
  · exact pairwise_of_in (by rw [hds]; exact h2)
theorem len_any (n : Nat) (w : World) (hn : n ≤ 1000000000) : Calls Try.prog 102 #[.int .u64 (n : Int)] w fun e w' => e = .returned (.int .i64 (Lib.bitLen n : Nat)) ∧ w' = w := by
  have h := Any.bits_Len (SlLaysF0.n15.bits { Sh.sortPts with }) (n : Int) w (by omega) (by omega)
  rwa [Int.toNat_natCast] at h
set_option maxHeartbeats 4000000 in
theorem sort_some (B : Nat) (w0 : World) (g off n c : Nat) (ids : List Nat) (w : World) (h : NSt B w0 g off ids.toArray w) (hl : ids.length = n) (hm : n ≤ 1000000000) (hnc : n ≤ c) :
    Calls Try.prog 84 #[.slice (some ⟨g, off, none⟩) n c] w (SortNum B w0 g off ids) := by
  have hlim : Lib.bitLen n ≤ 62 := Lib.bitLen_le n 62 (by omega) (by omega)
  have Hlen := hid_ (fun W => len_any n W hm)
  have Hp := hid_ (pdq_any B w0 g off n c hm hnc (n + 1) 0 n (Lib.bitLen n) ids.toArray w (by omega) h (by simpa using hl) (Nat.zero_le _) (Nat.le_refl _) (by omega) (Or.inl rfl))
  have wr : IntKind.u64.wrap (n : Int) = n := by simp [IntKind.wrap, IntKind.bits, IntKind.signed]; omega
  have HL := hid_ hl
  generalize Lib.bitLen n = lim at *
  clear h hl
  go_enter Try.func84, Try.ntmps84
  go_wp2_with (go_at_call 102; (with_reducible refine Calls.mono (Hlen.out _) ?_); rintro e w' ⟨rfl, rfl⟩)
  go_wp2_with (go_at_call 105; (with_reducible refine Calls.mono Hp.out ?_); rintro e w1 ⟨rfl, h1⟩)
  go_end0
  exact sortNum_mk HL.out (.inr ⟨lim, rfl⟩) h1
set_option maxHeartbeats 2000000 in
theorem ins_zero (A : Option Addr) (c : Nat) (w : World) : Calls Try.prog 121 #[.slice A 0 c, .int .i64 0, .int .i64 0] w (fun e w' => e = .returned (.tuple #[]) ∧ w = w') := by
  go_enter Try.func121, Try.ntmps121
  go_wp2_with fail
  go_loop [6] (fun i => i = .int .i64 1) (fun _ => 0)
  case atStart => exact rfl
  case round =>
    obtain rfl := hrel
    go_wp2_with fail
    go_end0
    exact ⟨rfl, rfl⟩
set_option maxHeartbeats 2000000 in
theorem pdq_zero (A : Option Addr) (c : Nat) (w : World) : Calls Try.prog 105 #[.slice A 0 c, .int .i64 0, .int .i64 0, .int .i64 0] w (fun e w' => e = .returned (.tuple #[]) ∧ w = w') := by
  have Hi := hid_ (fun W => ins_zero A c W)
  go_enter Try.func105, Try.ntmps105
  go_wp2_with fail
  go_loop [1, 2, 3] (fun i j k => i = .int .i64 0 ∧ j = .int .i64 0 ∧ k = .int .i64 0) (fun _ _ _ => 0)
  case atStart => exact ⟨rfl, rfl, rfl⟩
  case round =>
    obtain ⟨rfl, rfl, rfl⟩ := hrel
    go_wp2_with fail
    refine Calls.mono (Hi.out _) ?_
    rintro e w' ⟨rfl, rfl⟩
    go_wp2_with fail
    (try simp only [Exit.inBlock, Exit.then]); refine bodyPost_ret (results_none rfl _ _ _) rfl ?_
    exact ⟨rfl, rfl⟩
set_option maxHeartbeats 2000000 in
theorem sort_zero (A : Option Addr) (c : Nat) (w : World) : Calls Try.prog 84 #[.slice A 0 c] w (fun e w' => e = .returned (.tuple #[]) ∧ w = w') := by
  have Hlen := hid_ (fun W => len_any 0 W (by omega))
  have Hp := hid_ (fun W => pdq_zero A c W)
  have e0 : Lib.bitLen 0 = 0 := by decide
  rw [e0] at Hlen
  clear e0
  go_enter Try.func84, Try.ntmps84
  go_wp2_with fail
  refine Calls.mono (Hlen.out _) ?_
  rintro e w' ⟨rfl, rfl⟩
  go_wp2_with fail
  refine Calls.mono (Hp.out _) ?_
  rintro e w1 ⟨rfl, rfl⟩
  go_wp2_with fail
  go_end0
  exact ⟨rfl, rfl⟩
end Ns
end Go.Proofs.Ytgmeggilojcoeaa
