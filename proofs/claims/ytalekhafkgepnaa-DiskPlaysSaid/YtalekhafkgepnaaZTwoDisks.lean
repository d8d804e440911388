/-
  Two disks in a law's hands; the law's comparison of lists of numbers.
-/
import Derived.Test.YtalekhafkgepnaaZGDE
import Derived.Deep.DeepCutAuto
import Derived.Deep.RegionHeld3
namespace Go.Proofs.Ytalekhafkgepnaa
set_option linter.unusedSimpArgs false
set_option linter.unusedVariables false
open Go.RowKit
namespace Dsk
set_option linter.unusedSimpArgs false
set_option linter.unusedVariables false
/-- What a region that asks both disks holds on to: the operation's cells. -/
abbrev OpIn (w : World) (g o : Nat) (kind file : Int) (vb : Value) (W : World) : Prop := Below w.heap.size w W ∧ W.cell? ⟨g, o, none⟩ = some (.int .i64 kind) ∧ W.cell? ⟨g, o + 1, none⟩ = some (.int .i64 file) ∧ W.cell? ⟨g, o + 3, none⟩ = some vb
theorem opIn_of {w W : World} {g o : Nat} {kind file n : Int} {bs : List UInt8} {keep : List Int} {Ab : Option Addr} {cb : Nat} {Ak : Option Addr} {ck : Nat} (h : OpAt w g o ⟨kind, file, n, bs, keep⟩ Ab cb Ak ck) (hb : Below w.heap.size w W) : OpIn w g o kind file (.slice Ab bs.length cb) W := by
  have h2 := h.below hb
  exact ⟨hb, h2.c0, h2.c1, h2.c3⟩
theorem opIn_drew {w W : World} {g o : Nat} {kind file : Int} {vb : Value} (h : OpIn w g o kind file vb W) : OpIn w g o kind file vb W.drew := ⟨h.1.drew, h.2.1, h.2.2.1, h.2.2.2⟩
theorem two_step {B : Nat} {w0 w w' : World} {g1 g2 : Nat} {Q1 Q2 : Nat → Prop} {d1 d2 d1' : DiskD} {v : Value} {e : Ending} (h1 : DkB B w0 w g1 Q1 d1) (h2 : DkB B w0 w g2 Q2 d2) (h3 : ∀ q, Q1 q → ¬ Q2 q) (k : DkPost w g1 Q1 v d1' e w') :
    e = .returned v ∧ ∃ Q1', DkB B w0 w' g1 Q1' d1' ∧ DkB B w0 w' g2 Q2 d2 ∧ ∀ q, Q1' q → ¬ Q2 q := by
  obtain ⟨he, ⟨Q1', h4, h5⟩, ht⟩ := h1.post k
  refine ⟨he, Q1', h4, ⟨h2.dk.tn ht (fun q hq2 hq1 => h3 q hq1 hq2), h4.below, h2.own, h2.base⟩, fun q hq hq2 => ?_⟩
  rcases h5 q hq with h6 | h6
  · exact h3 q h6 hq2
  · have := h2.dk.qlt q hq2; omega
theorem two_step2 {B : Nat} {w0 w w' : World} {g1 g2 : Nat} {Q1 Q2 : Nat → Prop} {d1 d2 d2' : DiskD} {v : Value} {e : Ending} (h1 : DkB B w0 w g1 Q1 d1) (h2 : DkB B w0 w g2 Q2 d2) (h3 : ∀ q, Q1 q → ¬ Q2 q) (k : DkPost w g2 Q2 v d2' e w') :
    e = .returned v ∧ ∃ Q2', DkB B w0 w' g1 Q1 d1 ∧ DkB B w0 w' g2 Q2' d2' ∧ ∀ q, Q1 q → ¬ Q2' q := by
  obtain ⟨he, Q2', a, b, c⟩ := two_step h2 h1 (fun q hq2 hq1 => h3 q hq1 hq2) k
  exact ⟨he, Q2', b, a, fun q hq1 hq2 => c q hq2 hq1⟩
set_option maxHeartbeats 400000 in
theorem ints_true (A A' : Option Addr) (n c c' : Nat) (l : List Nat) (w : World) (h1 : Row w A n c (numVals l)) (h2 : Row w A' n c' (numVals l)) :
    Calls Try.prog 64 #[.slice A n c, .slice A' n c'] w fun e w' => e = .returned (.bool true) ∧ Below w.heap.size w w' := by
  have hle := h1.le
  have hlen := h1.len
  have H1 := hid_ h1
  have H2 := hid_ h2
  unfold numVals at hlen
  rw [List.length_map] at hlen
  have Hlen := hid_ hlen
  clear h1 h2 hlen
  have hb0 : ((n : Int) != (n : Int)) = false := by simp
  go_enter Try.func64, Try.ntmps64
  go_wp2_with fail
  go_loopw [5] (fun i wr => ∃ k q : Nat, k ≤ n ∧ i = .int .i64 k ∧ wr = w.drewN q) (fun i _ => n - (intOf i).toNat)
  case atStart => exact ⟨0, 0, by omega, rfl, rfl⟩
  case round =>
    obtain ⟨k, q, hk, rfl, rfl⟩ := hrel
    by_cases hlt : k < n
    · have hkl : k < (numVals l).length := by unfold numVals; rw [List.length_map, Hlen.out]; exact hlt
      obtain ⟨b, off, rfl, hc1⟩ := H1.out.at_ hkl
      obtain ⟨b', off', rfl, hc2⟩ := H2.out.at_ hkl
      obtain ⟨z, hz⟩ : ∃ z : Nat, (numVals l)[k] = .int .i64 (z : Nat) := ⟨l[k]'(by rw [Hlen.out]; exact hlt), by simp [numVals]⟩
      rw [hz] at hc1 hc2
      have hb : ((z : Int) != (z : Int)) = false := by simp
      clear hz hkl
      go_wp2_with fail
      go_quiet (fail)
      go_wp2_with fail
      go_roundw
      case rel => exact ⟨k + 1, q + nq, by omega, by go_num, rfl⟩
      case measure => simp [intOf]; omega
    · obtain rfl : k = n := by omega
      go_wp2
      go_ret
      exact ⟨rfl, below_drewN (Below.refl _ _) _⟩
theorem crash_twice {d : DiskD} (hd : DOk d) (keep : List Int) : crashD (crashD d keep) [] = crashD d keep := by
  unfold crashD
  have : crashF (crashF d.F keep) [] = crashF d.F keep := by
    funext j
    cases hf : d.F j with
    | none => rw [crashF_none hf, crashF_none (crashF_none hf)]
    | some f =>
      have hj : j < 64 := by
        rcases Nat.lt_or_ge j 64 with h1 | h1
        · exact h1
        · rw [hd.high j h1] at hf; cases hf
      have hfast := hd.fast j f hf
      rw [crashF_at hj (crashF_at hj hf), crashF_at hj hf]
      have hk := keepN_le keep (rank d.F j) (f.all.length - f.fast)
      generalize hm : f.fast + keepN keep (rank d.F j) (f.all.length - f.fast) = m at *
      have e : crashed keep (rank d.F j) f = ⟨f.all.take m, m⟩ := by unfold crashed; rw [hm]
      rw [e]
      unfold crashed keepN
      simp [List.take_take]
  simp only [this]
/-- What the shell tells of a slice of ints that came in. -/
theorem ints_of_row {w : World} {a : Option Addr} {len cap : Nat} {zs : List Int}
    (h : (a = none ∧ len = 0 ∧ cap = 0 ∧ zs = []) ∨
      ∃ x, a = some x ∧ len ≤ cap ∧ cap ≤ maxLen ∧ zs.length = cap ∧ (∀ i, i < zs.length → w.cell? (x.add i) = some (.int .i64 (zs.getD i 0))) ∧ ∀ n ∈ zs, (Lit.int .i64 n).wf = true) :
    ∃ l : List Int, Row w a len cap (intVals l) := by
  rcases h with ⟨rfl, rfl, rfl, rfl⟩ | ⟨x, rfl, hl, hm, hz, hcell, -⟩
  · exact ⟨[], Row.none w⟩
  · unfold maxLen at hm
    refine ⟨zs.take len, fun hne => ?_, by rw [intVals_len, List.length_take]; omega, hl, by omega, fun e => by cases e⟩
    have hpos : 0 < zs.length := by
      rcases zs with _ | ⟨c, l⟩
      · simp [intVals] at hne
      · simp
    obtain ⟨b, off, spot⟩ := x
    have h0 := hcell 0 hpos
    have hs : spot = none := by simpa [Addr.add] using World.cell?_spot h0
    subst hs
    refine ⟨b, off, rfl, fun k u hu => ?_⟩
    have hk : k < len ∧ k < zs.length := by
      have := (List.getElem?_eq_some_iff.1 hu).1
      rw [intVals_len, List.length_take] at this
      omega
    have h1 := hcell k hk.2
    rw [add_plain] at h1
    rw [h1]
    unfold intVals at hu
    simp [List.getElem?_take, hk.1, hk.2] at hu
    rw [← hu]
    simp [hk.2]
end Dsk
end Go.Proofs.Ytalekhafkgepnaa
