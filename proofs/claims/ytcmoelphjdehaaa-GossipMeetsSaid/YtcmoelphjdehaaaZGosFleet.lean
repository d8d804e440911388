/-
  Many nodes in a law's hands, and the row of them.
-/
import Derived.Test.YtcmoelphjdehaaaZGG4
import Derived.Test.YtcmoelphjdehaaaZGosMeet
import Derived.Test.YtcmoelphjdehaaaZViewSame
namespace Go.Proofs.Ytcmoelphjdehaaa
set_option linter.unusedSimpArgs false
set_option linter.unusedVariables false
open Go.RowKit Ru Vw
namespace Gs
set_option linter.unusedSimpArgs false
set_option linter.unusedVariables false
structure Fleet (B : Nat) (w0 w : World) (N : Nat) (g : Nat → Nat) (Q : Nat → Nat → Prop) (S : Nat → NodeD) : Prop where
  each : ∀ i, i < N → NdB B w0 w (g i) (Q i) (S i)
  apart : ∀ i, i < N → ∀ j, j < N → i ≠ j → ∀ q, Q i q → ¬ Q j q
theorem fleet_zero (B : Nat) (w0 w : World) (g : Nat → Nat) (Q : Nat → Nat → Prop) (S : Nat → NodeD) : Fleet B w0 w 0 g Q S := ⟨fun i h => absurd h (by omega), fun i h => absurd h (by omega)⟩
theorem Fleet.later {B : Nat} {w0 w w' : World} {N : Nat} {g : Nat → Nat} {Q : Nat → Nat → Prop} {S : Nat → NodeD} (h : Fleet B w0 w N g Q S) (k : Below w.heap.size w w') : Fleet B w0 w' N g Q S := ⟨fun i hi => (h.each i hi).later k, h.apart⟩
theorem Fleet.post {B : Nat} {w0 w w' : World} {N : Nat} {g : Nat → Nat} {Q : Nat → Nat → Prop} {S : Nat → NodeD} (h : Fleet B w0 w N g Q S) {j : Nat} (hj : j < N) {R : World → Value → Prop} {d : NodeD} {e : Ending} (hp : NdPost w (g j) (Q j) R d e w') :
    ∃ v, e = .returned v ∧ R w' v ∧ ∃ Q', Fleet B w0 w' N g (upd Q j Q') (upd S j d) ∧ Tn (Q j) w w' ∧ ∀ q, Q' q → Q j q ∨ w.heap.size ≤ q := by
  obtain ⟨v, he, hr, Q', h4, ht, h5⟩ := (h.each j hj).post hp
  have hno : ∀ i, i < N → i ≠ j → ∀ q, Q' q → ¬ Q i q := fun i hi hne q hq hi2 => by
    rcases h5 q hq with h6 | h6
    · exact h.apart j hj i hi (fun e => hne e.symm) q h6 hi2
    · have := (h.each i hi).nd.qlt q hi2; omega
  refine ⟨v, he, hr, Q', ⟨fun i hi => ?_, fun i hi k hk hne q hq hq2 => ?_⟩, ht, h5⟩
  · by_cases e : i = j
    · subst e
      rw [upd_same, upd_same]
      exact h4
    · rw [upd_other _ _ e, upd_other _ _ e]
      have hx := h.each i hi
      exact ⟨hx.nd.tn ht (fun q hq hq1 => h.apart j hj i hi (fun e2 => e e2.symm) q hq1 hq), h4.below, hx.own, hx.base⟩
  · by_cases e : i = j
    · subst e
      rw [upd_same] at hq
      rw [upd_other _ _ (fun e2 => hne e2.symm)] at hq2
      exact hno k hk (fun e2 => hne e2.symm) q hq hq2
    · rw [upd_other _ _ e] at hq
      by_cases e2 : k = j
      · subst e2
        rw [upd_same] at hq2
        exact hno i hi e q hq2 hq
      · rw [upd_other _ _ e2] at hq2
        exact h.apart i hi k hk hne q hq hq2
theorem Fleet.more {B : Nat} {w0 w w' : World} {N : Nat} {g : Nat → Nat} {Q : Nat → Nat → Prop} {S : Nat → NodeD} (h : Fleet B w0 w N g Q S) {gx : Nat} {Qx : Nat → Prop} {d : NodeD} (hb : Below w.heap.size w w') (hn : NdB B w0 w' gx Qx d) (hq : ∀ q, Qx q → w.heap.size ≤ q) :
    Fleet B w0 w' (N + 1) (upd g N gx) (upd Q N Qx) (upd S N d) := by
  refine ⟨fun i hi => ?_, fun i hi k hk hne q h1 h2 => ?_⟩
  · by_cases e : i = N
    · subst e
      rw [upd_same, upd_same, upd_same]
      exact hn
    · rw [upd_other _ _ e, upd_other _ _ e, upd_other _ _ e]
      exact (h.each i (by omega)).later hb
  · by_cases e : i = N
    · subst e
      rw [upd_same] at h1
      rw [upd_other _ _ (fun e2 => hne e2.symm)] at h2
      have := (h.each k (by omega)).nd.qlt q h2
      have := hq q h1
      omega
    · rw [upd_other _ _ e] at h1
      by_cases e2 : k = N
      · subst e2
        rw [upd_same] at h2
        have := (h.each i (by omega)).nd.qlt q h1
        have := hq q h2
        omega
      · rw [upd_other _ _ e2] at h2
        exact h.apart i (by omega) k (by omega) hne q h1 h2
theorem NdB.grown {B : Nat} {w0 w w' : World} {g : Nat} {Q : Nat → Prop} {d : NodeD} {row : Option Nat} (h : NdB B w0 w g Q d) (hg : w.grownBy w' row) (hq : ∀ j, row = some j → ¬ Q j ∧ B ≤ j) : NdB B w0 w' g Q d := by
  refine ⟨h.nd.stands hg.size (fun q hq2 => hg.block q (h.nd.qlt q hq2) (fun e => (hq q e.symm).1 hq2)), ?_, h.own, h.base⟩
  have hb := h.below
  have hs := h.base
  have hz := hb.size
  exact ⟨hg.os.trans hb.os, hg.tape.trans hb.tape, hg.output.trans hb.output, Nat.le_trans hb.size hg.size, fun i hi => (hg.block i (by omega) (fun e => by have := (hq i e.symm).2; omega)).trans (hb.block i hi)⟩
theorem Fleet.grown {B : Nat} {w0 w w' : World} {N : Nat} {g : Nat → Nat} {Q : Nat → Nat → Prop} {S : Nat → NodeD} {row : Option Nat} (h : Fleet B w0 w N g Q S) (hg : w.grownBy w' row) (hq : ∀ j, row = some j → (∀ i, i < N → ¬ Q i j) ∧ B ≤ j) : Fleet B w0 w' N g Q S :=
  ⟨fun i hi => (h.each i hi).grown hg (fun j e => ⟨(hq j e).1 i hi, (hq j e).2⟩), h.apart⟩
/-- Nodes as things of one cell: where they lie. -/
def ptrE : Enc Nat := ⟨fun g => [.pointer (some ⟨g, 0, none⟩)], 1, fun _ => rfl, by decide, fun p u hu => by
  rw [List.mem_singleton] at hu
  subst hu
  rfl⟩
theorem info_ptr : (Try.prog.info? 73).map (fun i => (i.zero, i.size, i.bytes)) = some (some (.pointer none), ptrE.K, 8) := by kernel_rfl
abbrev OwnP := ptrE.Own 73
def placesF (N : Nat) (g : Nat → Nat) : List Nat := (List.range N).map g
theorem places_len (N : Nat) (g : Nat → Nat) : (placesF N g).length = N := by unfold placesF; rw [List.length_map, List.length_range]
theorem places_more (N : Nat) (g : Nat → Nat) (gx : Nat) : placesF N g ++ [gx] = placesF (N + 1) (upd g N gx) := by
  unfold placesF
  rw [List.range_succ, List.map_append, List.map_cons, List.map_nil, upd_same]
  congr 1
  refine List.map_congr_left fun i hi => ?_
  have := List.mem_range.1 hi
  rw [upd_other _ _ (by omega)]
theorem ptr_at {w : World} {A : Option Addr} {n c : Nat} {N : Nat} {g : Nat → Nat} (h : ptrE.Row w A n c (placesF N g)) {k : Nat} (hk : k < N) : ∃ b off, A = some ⟨b, off, none⟩ ∧ w.cell? ⟨b, off + k, none⟩ = some (.pointer (some ⟨g k, 0, none⟩)) := by
  have hk2 : k < (placesF N g).length := by rw [places_len]; exact hk
  obtain ⟨b, off, e, _, hc⟩ := h.at_ hk2
  refine ⟨b, off, e, ?_⟩
  have h1 : (placesF N g)[k] = g k := by simp [placesF]
  have := hc 0 (.pointer (some ⟨g k, 0, none⟩)) (by rw [h1]; rfl)
  rwa [show off + k * ptrE.K + 0 = off + k by show off + k * 1 + 0 = _; omega] at this
theorem ptr_new (w : World) (g x : Nat) (T : TypeId) (h : g = w.heap.size) : ptrE.Row (w.alloc (.cells #[.pointer (some ⟨x, 0, none⟩)] T)) (some ⟨g, 0, none⟩) 1 1 [x] := by
  subst h
  exact Enc.row_new (E := ptrE) w x _ rfl T
theorem new_small {N k x : Nat} (hk : k < N) (hx : x ≤ 1000) : ∀ m ∈ (newD (k + 1) x 5 100 0).ms, Small N m := by
  intro m hm
  have hm : m ∈ [(⟨k + 1, x, 0⟩ : MemberD)] := hm
  rw [List.mem_singleton] at hm
  subst hm
  exact ⟨by simp only; omega, by simp only; omega, fun _ => rfl⟩
theorem new_own (k x : Nat) : ∃ o, getF (newD (k + 1) x 5 100 0).ms (k + 1) = some o ∧ o.state = 0 := by
  refine ⟨⟨k + 1, x, 0⟩, ?_, rfl⟩
  show getF [(⟨k + 1, x, 0⟩ : MemberD)] (k + 1) = _
  rw [getF_cons, if_pos rfl]
theorem new_okN (k x : Nat) (h1 : 1 ≤ x) : newOk (k + 1) x 5 100 = true := by
  unfold newOk
  simp only [Bool.and_eq_true, decide_eq_true_eq]
  omega
/-- The row keeps away from the nodes. -/
def Away (A : Option Addr) (N : Nat) (Q : Nat → Nat → Prop) : Prop := ∀ a, A = some a → ∀ i, i < N → ¬ Q i a.block
theorem Away.upd {A : Option Addr} {N : Nat} {Q : Nat → Nat → Prop} {w : World} {j : Nat} {Q' : Nat → Prop} (h : Away A N Q) (hj : j < N) (hlt : ∀ a, A = some a → a.block < w.heap.size) (hq : ∀ q, Q' q → Q j q ∨ w.heap.size ≤ q) : Away A N (Gs.upd Q j Q') := fun a e i hi h1 => by
  by_cases e2 : i = j
  · subst e2
    rw [upd_same] at h1
    rcases hq _ h1 with h2 | h2
    · exact h a e i hj h2
    · have := hlt a e; omega
  · rw [upd_other _ _ e2] at h1
    exact h a e i hi h1
theorem ownP_lt {B : Nat} {w : World} {A : Option Addr} {n c : Nat} {l : List Nat} (h : OwnP B w A n c l) : ∀ a, A = some a → a.block < w.heap.size := fun a e => (h.from_ a.block (by rw [e]; rfl)).2
theorem ownP_tn {B : Nat} {w w' : World} {Q : Nat → Prop} {A : Option Addr} {n c : Nat} {l : List Nat} (h : OwnP B w A n c l) (ht : Tn Q w w') (hq : ∀ a, A = some a → ¬ Q a.block) : OwnP B w' A n c l := by
  have hl := ownP_lt h
  obtain ⟨hx, h1 | ⟨g, cap, cur, e', hg, hh, r⟩⟩ := h
  · exact ⟨hx, .inl h1⟩
  · refine ⟨hx, .inr ⟨g, cap, cur, e', hg, ?_, r⟩⟩
    injection e' with e1
    subst e1
    exact (ht.block g (hl _ rfl) (hq _ rfl)).trans hh
/-- In a round, i tells j. -/
def RoundAt (B : Nat) (w0 : World) (r N : Nat) (g : Nat → Nat) (c5 ra : Nat) (S0 : Nat → NodeD) (i j : Nat) (W : World) : Prop :=
  ∃ Q S jj, Fleet B w0 W N g Q S ∧ InvR r N S0 S i jj ∧ (jj = j ∨ jj = j + 1) ∧ OwnP B W (some ⟨ra, 0, none⟩) N c5 (placesF N g) ∧ Gs.Away (some ⟨ra, 0, none⟩) N Q
/-- .. and has told it. -/
def RoundFin (B : Nat) (w0 : World) (r N : Nat) (g : Nat → Nat) (c5 ra : Nat) (S0 : Nat → NodeD) (i j : Nat) (W : World) : Prop :=
  ∃ Q S, Fleet B w0 W N g Q S ∧ InvR r N S0 S i (j + 1) ∧ OwnP B W (some ⟨ra, 0, none⟩) N c5 (placesF N g) ∧ Gs.Away (some ⟨ra, 0, none⟩) N Q
abbrev RoundS (B : Nat) (w0 : World) (r N : Nat) (g : Nat → Nat) (c5 ra : Nat) (S0 : Nat → NodeD) (i j gi gj : Nat) (W : World) : Prop :=
  RoundAt B w0 r N g c5 ra S0 i j W ∧ W.cell? ⟨ra, i, none⟩ = some (.pointer (some ⟨gi, 0, none⟩)) ∧ W.cell? ⟨ra, j, none⟩ = some (.pointer (some ⟨gj, 0, none⟩))
theorem roundS_keep {B : Nat} {w0 : World} {r N : Nat} {g : Nat → Nat} {c5 ra : Nat} {S0 : Nat → NodeD} {i j gi gj : Nat} {W W' : World} (h : RoundS B w0 r N g c5 ra S0 i j gi gj W) (hb : Below W.heap.size W W') : RoundS B w0 r N g c5 ra S0 i j gi gj W' := by
  obtain ⟨⟨Q, S, jj, h1, h2, h3, h4, h5⟩, a, b⟩ := h
  exact ⟨⟨Q, S, jj, h1.later hb, h2, h3, h4.later hb, h5⟩, by rw [hb.cell (lt_of_cell a)]; exact a, by rw [hb.cell (lt_of_cell b)]; exact b⟩
theorem ptr_zero {B : Nat} {w : World} {ra c5 N : Nat} {g : Nat → Nat} (h : OwnP B w (some ⟨ra, 0, none⟩) N c5 (placesF N g)) {k : Nat} (hk : k < N) : w.cell? ⟨ra, k, none⟩ = some (.pointer (some ⟨g k, 0, none⟩)) := by
  obtain ⟨b, off, e, hc⟩ := ptr_at h.row hk
  injection e with e
  injection e with e1 e2 _
  subst e1 e2
  rwa [Nat.zero_add] at hc
theorem roundS_fin {B : Nat} {w0 : World} {r N : Nat} {g : Nat → Nat} {c5 ra : Nat} {S0 : Nat → NodeD} {i j : Nat} {W : World} (hi : i < N) (hj : j < N) (h : RoundFin B w0 r N g c5 ra S0 i j W) : RoundS B w0 r N g c5 ra S0 i j (g i) (g j) W := by
  obtain ⟨Q, S, h1, h2, h4, h5⟩ := h
  exact ⟨⟨Q, S, j + 1, h1, h2, .inr rfl, h4, h5⟩, ptr_zero h4 hi, ptr_zero h4 hj⟩
theorem round_view {B : Nat} {w0 : World} {r N : Nat} {g : Nat → Nat} {c5 ra : Nat} {S0 : Nat → NodeD} {i j n1 : Nat} {W : World} (hN : N ≤ 16) (hi : i < N) (hj : j < N) (hne : i ≠ j) (hn1 : n1 = i + 1) (h : RoundAt B w0 r N g c5 ra S0 i j W) :
    Calls Try.prog 42 #[.pointer (some ⟨g i, 0, none⟩)] W (fun e w5 => ∃ Av n5 cv, e = .returned (.slice Av n5 cv) ∧
      Hid (Calls Try.prog 43 #[.pointer (some ⟨g j, 0, none⟩), .int .u64 (n1 : Nat), .slice Av n5 cv, .int .u64 1] w5 (fun e w' => e = .returned (.int .i64 0) ∧ RoundFin B w0 r N g c5 ra S0 i j w')) ∧ Below W.heap.size W w5) := by
  subst hn1
  obtain ⟨Q, S, jj, hF, hV, hjj, hP, hA⟩ := h
  have hfi := invR_f hV
  refine Calls.mono (view_any (g i) (Q i) (S i) W (hF.each i hi).nd) ?_
  rintro e w5 ⟨Av, cv, rfl, hv, hav, hb5⟩
  have hF5 := hF.later hb5
  have hP5 := hP.later hb5
  refine ⟨Av, _, cv, rfl, hid_ ?_, hb5⟩
  refine Calls.mono (hear_any (g j) (Q j) (S j) (i + 1) 1 Av _ cv (S i).ms w5 (hF5.each j hj).nd hv (hfi.ok i hi).wf (fun a e _ hq => by have := (hF.each j hj).nd.qlt _ hq; have := hav a e; omega) (by omega)) ?_
  intro e w' hx
  obtain ⟨v, rfl, hv2, Q', h4, ht, hq⟩ := hF5.post hj hx
  have hz : hearK (S j) (S i).ms = 0 := told_zero hfi hN hi hj
  obtain rfl : v = .int .i64 0 := by rw [← hz]; exact hv2
  have hnew : InvR r N S0 (upd S j (toldD S i j)) i (j + 1) := by
    rcases hjj with rfl | rfl
    · exact invR_step hV hN hi hj hne
    · exact invR_keep hV hN hi hj hne
  exact ⟨rfl, upd Q j Q', upd S j (toldD S i j), h4, hnew, ownP_tn hP5 ht (fun a e hq => hA a e j hj hq), hA.upd hj (ownP_lt hP5) hq⟩
end Gs
end Go.Proofs.Ytcmoelphjdehaaa
