/-
  What a log and its disk keep: plain mathematics.
-/
import Derived.Test.YthjhofmjhmnddaaGreatMGAI
import Derived.Test.YthjhofmjhmnddaaGreatMGAJ
import Derived.Test.YthjhofmjhmnddaaGreatMGAL
set_option linter.unusedSimpArgs false
set_option linter.unusedVariables false
namespace Go.Proofs.YthjhofmjhmnddaaGreat
open Go.RowKit Fm Dsk
namespace Wl
structure LogOk (d : DiskD) (most : Int) (base : Nat) (L : List FS) (N U : Nat) : Prop where
 ok : DOk d
 up : d.down = false
 rest : ∀ j, (∀ i, i < L.length → j ≠ rg base i) → d.F j = none
 has : ∀ i (h : i < L.length), ∃ ff, d.F (rg base i) = some ⟨L[i].all, ff⟩
 num : ∀ i (h : i < L.length), L[i].num = rg base i
 torn : ∀ i (h : i < L.length), L[i].torn = 0
 all : ∀ i (h : i < L.length), L[i].all = framed (headB L[i].first) ++ frames L[i].recs
 small : ∀ i (h : i < L.length), ∀ r ∈ L[i].recs, r.length ≤ 8192
 ahead : ∀ i (h : i + 1 < L.length), most ≤ (L[i].all.length : Int)
 next : ∀ i (h : i + 1 < L.length), L[i + 1].first = nextF L[i]
 bnd : ∀ i (h : i < L.length), nextF L[i] ≤ N
 n63 : L.length ≤ 63
 b64 : base < 64
 used : usedF d.F ≤ U
 big : N ≤ 1000000
theorem files_ring {F : Files} {base n : Nat} (hb : base < 64) (hn : n ≤ 63) (hs : ∀ i, i < n → (F (rg base i)).isSome = true) (hno : ∀ j, (∀ i, i < n → j ≠ rg base i) → F j = none) : filesF F = ringL base n := by
 by_cases hw : base + n ≤ 64
 ·have key : ∀ k, k ≤ 64 → filesTo F k = List.range' base (min (k - base) n) := by
   intro k
   induction k with
   | zero => intro _; simp [filesTo]
   | succ k ih =>
     intro hk
     rw [filesTo_succ, ih (by omega)]
     by_cases h1 : k < base
     ·rw [hno k (fun i hi => by unfold rg; omega), show min (k - base) n = 0 by omega, show min (k + 1 - base) n = 0 by omega]
      simp
     ·by_cases h2 : base + n ≤ k
      ·rw [hno k (fun i hi => by unfold rg; omega), show min (k - base) n = n by omega, show min (k + 1 - base) n = n by omega]
       simp
      ·have h3 := hs (k - base) (by omega)
       rw [show rg base (k - base) = k by unfold rg; omega] at h3
       rw [h3, show min (k - base) n = k - base by omega, show min (k + 1 - base) n = k - base + 1 by omega]
       simp only [if_true]
       rw [List.range'_concat]
       congr 2
       omega
  unfold filesF
  rw [key 64 (Nat.le_refl _), show min (64 - base) n = n by omega]
  refine List.ext_getElem (by rw [List.length_range', ringL_length]) (fun i h1 h2 => ?_)
  rw [List.length_range'] at h1
  simp only [List.getElem_range', ringL, List.getElem_map, List.getElem_range, sN]
  rw [if_pos hw]
  omega
 ·obtain ⟨st, hst⟩ : ∃ st, st = base + n - 64 := ⟨_, rfl⟩
  have key : ∀ k, k ≤ 64 → filesTo F k = List.range' 0 (min k st) ++ List.range' base (k - base) := by
   intro k
   induction k with
   | zero => intro _; simp [filesTo]
   | succ k ih =>
     intro hk
     rw [filesTo_succ, ih (by omega)]
     by_cases h1 : k < st
     ·have h3 := hs (64 - base + k) (by omega)
      rw [show rg base (64 - base + k) = k by unfold rg; omega] at h3
      rw [h3, show min k st = k by omega, show min (k + 1) st = k + 1 by omega, show k - base = 0 by omega, show k + 1 - base = 0 by omega]
      simp only [if_true, List.range'_zero, List.append_nil]
      rw [List.range'_concat]
      simp
     ·by_cases h2 : k < base
      ·rw [hno k (fun i hi => by unfold rg; omega), show min k st = st by omega, show min (k + 1) st = st by omega, show k - base = 0 by omega, show k + 1 - base = 0 by omega]
       simp
      ·have h3 := hs (k - base) (by omega)
       rw [show rg base (k - base) = k by unfold rg; omega] at h3
       rw [h3, show min k st = st by omega, show min (k + 1) st = st by omega, show k + 1 - base = k - base + 1 by omega]
       simp only [if_true]
       rw [List.range'_concat, List.append_assoc]
       congr 3
       omega
  unfold filesF
  rw [key 64 (Nat.le_refl _), show min 64 st = st by omega]
  refine List.ext_getElem (by rw [List.length_append, List.length_range', List.length_range', ringL_length]; omega) (fun i h1 h2 => ?_)
  rw [ringL_length] at h2
  simp only [ringL, List.getElem_map, List.getElem_range, sN]
  rw [if_neg hw, ← hst]
  by_cases h3 : i < st
  ·rw [if_pos h3, List.getElem_append_left (by rw [List.length_range']; exact h3), List.getElem_range']
   omega
  ·rw [if_neg h3, List.getElem_append_right (by rw [List.length_range']; omega), List.getElem_range']
   simp only [List.length_range']
   omega
theorem LogOk.files {d : DiskD} {most : Int} {base N U : Nat} {L : List FS} (h : LogOk d most base L N U) : filesF d.F = ringL base L.length :=
 files_ring h.b64 h.n63 (fun i hi => by obtain ⟨ff, e⟩ := h.has i hi; rw [e]; rfl) h.rest
theorem LogOk.known {d : DiskD} {most : Int} {base N U : Nat} {L : List FS} (h : LogOk d most base L N U) : KnownD d L := by
 intro _
 refine ⟨by rw [h.files, ringL_length], fun f hf => ?_⟩
 rw [List.getLast?_eq_getElem?] at hf
 obtain ⟨hlt, e⟩ := List.getElem?_eq_some_iff.1 hf
 obtain ⟨ff, h1⟩ := h.has _ hlt
 refine ⟨ff, ?_⟩
 rw [← e, h.num _ hlt]
 exact h1
theorem LogOk.all_le {d : DiskD} {most : Int} {base N U : Nat} {L : List FS} (h : LogOk d most base L N U) {i : Nat} (hi : i < L.length) : L[i].all.length ≤ 1048576 := by
 obtain ⟨ff, h1⟩ := h.has i hi
 have h2 := size_le_used d.F (j := rg base i) (rg_lt _ _)
 have h3 : sizeAt d.F (rg base i) = L[i].all.length := by unfold sizeAt; rw [h1]
 have := h.ok.used
 have := h.ok.room2
 omega
theorem LogOk.lok {d : DiskD} {most : Int} {base N U : Nat} {L : List FS} (h : LogOk d most base L N U) : LOk L := by
 have key : ∀ f ∈ L, ∃ i, ∃ hi : i < L.length, L[i] = f := fun f hf => List.mem_iff_getElem.1 hf
 refine ⟨fun f hf => ?_, h.n63, fun f hf => ?_, fun f hf => ?_, fun f hf => ?_⟩
 ·obtain ⟨i, hi, rfl⟩ := key f hf
  rw [h.num i hi]
  exact rg_lt _ _
 ·obtain ⟨i, hi, rfl⟩ := key f hf
  have := h.bnd i hi
  have := h.big
  omega
 ·obtain ⟨i, hi, rfl⟩ := key f hf
  have := h.all_le hi
  omega
 ·obtain ⟨i, hi, rfl⟩ := key f hf
  have := h.bnd i hi
  have := h.big
  unfold nextF at *
  omega
theorem loadedS_of {f : FS} (ht : f.torn = 0) (ha : f.all = framed (headB f.first) ++ frames f.recs) (hs : ∀ r ∈ f.recs, r.length ≤ 8192) (hb : nextF f ≤ 1000000) : loadedS f.num f.all = f ∧ HeadOk f.all := by
 have h1 : f.all = frames (headB f.first :: f.recs) := by rw [ha, frames_cons]
 have h2 : allOf f.all = (headB f.first :: f.recs, f.all.length, 0) := by
  rw [h1]
  refine all_whole _ (fun x hx => ?_)
  rcases List.mem_cons.1 hx with e | hx
  ·rw [e, headB_length]; omega
  ·exact hs x hx
 have hfi : f.first < 18446744073709551616 := by unfold nextF at hb; omega
 constructor
 ·unfold loadedS wholeW
  rw [h2]
  simp only [List.take_length, Nat.sub_self, numOf_head hfi]
  cases f
  simp only at ht
  subst ht
  rfl
 ·intro x t hx
  rw [h2] at hx
  simp only [List.cons.injEq] at hx
  obtain ⟨rfl, -⟩ := hx
  refine ⟨headB_length _, ?_⟩
  rw [numOf_head hfi]
  unfold nextF at hb
  omega
def allAt (L : List FS) (i : Nat) : List UInt8 := match L[i]? with | some f => f.all | none => []
theorem allAt_lt {L : List FS} {i : Nat} (h : i < L.length) : allAt L i = L[i].all := by unfold allAt; rw [List.getElem?_eq_getElem h]
theorem LogOk.loaded {d : DiskD} {most : Int} {base N U : Nat} {L : List FS} (h : LogOk d most base L N U) {i : Nat} (hi : i < L.length) : loadedS (rg base i) (allAt L i) = L[i] ∧ HeadOk (allAt L i) := by
 have h1 := loadedS_of (h.torn i hi) (h.all i hi) (h.small i hi) (Nat.le_trans (h.bnd i hi) h.big)
 rw [h.num i hi] at h1
 rw [allAt_lt hi]
 exact h1
theorem LogOk.ne {d : DiskD} {most : Int} {base N U : Nat} {L : List FS} (h : LogOk d most base L N U) {i : Nat} (hi : i < L.length) : ¬ L[i].all = [] := by
 rw [h.all i hi]
 exact framed_ne _ _
theorem LogOk.disk {d : DiskD} {most : Int} {base N U : Nat} {L : List FS} (h : LogOk d most base L N U) (hm : 64 ≤ most) : DiskOk d base L.length (allAt L) := by
 refine ⟨h.files, h.up, fun i hi => ?_, fun i hi => ?_, fun i hi => (h.loaded hi).2, fun i hi => ?_, fun i hi => ?_, fun i hi => ?_, h.n63, h.b64⟩
 ·rw [allAt_lt hi]
  exact h.has i hi
 ·rw [allAt_lt hi]
  exact h.all_le hi
 ·rw [(h.loaded (show i < L.length by omega)).1]
  have := h.ahead i hi
  exact ⟨h.torn i (by omega), by omega⟩
 ·rw [(h.loaded hi).1, (h.loaded (show i < L.length by omega)).1]
  exact .inr (h.next i hi)
 ·rw [(h.loaded hi).1]
  have h1 := h.bnd i hi
  have h2 := h.big
  have h3 : L[i].recs.length ≤ nextF L[i] := by unfold nextF; omega
  exact ⟨by omega, by omega⟩
theorem LogOk.loadedL {d : DiskD} {most : Int} {base N U : Nat} {L : List FS} (h : LogOk d most base L N U) : Wl.loadedL base L.length (allAt L) L.length = L := by
 refine List.ext_getElem (by rw [loadedL_len]) (fun i h1 h2 => ?_)
 rw [loadedL_get, if_pos h2, (h.loaded h2).1]
theorem LogOk.open_ {d : DiskD} {most : Int} {base N U : Nat} {L : List FS} (h : LogOk d most base L N U) : openL base L.length (allAt L) = L ∧ openD d base L.length (allAt L) = d := by
 rcases hl : L.length with _ | m
 ·exact ⟨(List.eq_nil_of_length_eq_zero hl).symm, rfl⟩
 ·have hm : m < L.length := by omega
  have h1 := (h.loaded hm).1
  have h2 := h.loadedL
  rw [hl] at h2
  have h3 := h.ne hm
  have h4 := h.torn m hm
  constructor
  ·show (if (loadedS (rg base m) (allAt L m)).all = [] then (Wl.loadedL base (m + 1) (allAt L) (m + 1)).take m else (Wl.loadedL base (m + 1) (allAt L) (m + 1)).set m (mendF (loadedS (rg base m) (allAt L m)))) = L
   rw [h1, if_neg h3, h2]
   have e : mendF L[m] = L[m] := by
    unfold mendF
    rw [if_neg h3]
    have : ∀ f : FS, f.torn = 0 → (⟨f.num, f.first, f.recs, f.all, 0⟩ : FS) = f := fun f hf => by cases f; simp only at hf; subst hf; rfl
    exact this _ h4
   rw [e]
   exact List.set_getElem_self hm
  ·show mendD d (loadedS (rg base m) (allAt L m)) = d
   rw [h1]
   unfold mendD
   rw [if_neg h3, if_pos h4]
theorem LogOk.new {d : DiskD} {most : Int} (ok : DOk d) (hF : d.F = noF) (hup : d.down = false) : LogOk d most 0 [] 0 0 :=
 ⟨ok, hup, fun j _ => by rw [hF]; rfl, fun i h => absurd h (Nat.not_lt_zero i), fun i h => absurd h (Nat.not_lt_zero i), fun i h => absurd h (Nat.not_lt_zero i), fun i h => absurd h (Nat.not_lt_zero i), fun i h => absurd h (Nat.not_lt_zero i), fun i h => absurd h (Nat.not_lt_zero _), fun i h => absurd h (Nat.not_lt_zero _), fun i h => absurd h (Nat.not_lt_zero i), by simp, by omega, by rw [hF, used_noF]; exact Nat.le_refl _, by omega⟩
end Wl
end Go.Proofs.YthjhofmjhmnddaaGreat
/-
 What appending makes of a log: plain mathematics.
-/
namespace Go.Proofs.YthjhofmjhmnddaaGreat
open Go.RowKit Fm Dsk
namespace Wl
theorem askK_has {d : DiskD} (hup : d.down = false) {j : Nat} {c : List UInt8} {ff : Nat} (h : d.F j = some ⟨c, ff⟩) : askK d (j : Nat) = 0 := by
 unfold askK
 rw [hup]
 simp only [Bool.false_eq_true, if_false]
 rw [if_pos ⟨by omega, by rw [show ((j : Nat) : Int).toNat = j by omega, h]; rfl⟩]
theorem app_cases {d : DiskD} (hup : d.down = false) (ha : d.armed = false) {j : Nat} (hj : j < 64) (b : List UInt8) :
  (appK d (j : Nat) b.length = 9 ∧ d.room < usedF d.F + b.length ∧ appD d (j : Nat) b = d) ∨ (appK d (j : Nat) b.length = 0 ∧ usedF d.F + b.length ≤ d.room ∧ appD d (j : Nat) b = ⟨d.room, layF d.F j b, false, d.left, false⟩) := by
 unfold appK appD
 rw [hup]
 have hc : ¬ (((j : Nat) : Int) < 0 ∨ (64 : Int) ≤ ((j : Nat) : Int)) := by omega
 simp only [Bool.false_eq_true, if_false, if_neg hc]
 by_cases h : d.room < usedF d.F + b.length
 ·rw [if_pos h, if_pos h]
  exact .inl ⟨rfl, h, rfl⟩
 ·have ht : takeN d b.length = b.length := by unfold takeN; rw [ha]; simp
  have hl : leftN d b.length = d.left := by unfold leftN; rw [ha]; simp
  rw [if_neg h, if_neg h, if_neg (by rw [ht]; omega)]
  refine .inr ⟨rfl, by omega, ?_⟩
  unfold appF
  rw [ht, hl, ha, hup, show ((j : Nat) : Int).toNat = j by omega, List.take_length]
  simp
theorem syncD_eq {d : DiskD} (hup : d.down = false) {j : Nat} {c : List UInt8} {ff : Nat} (h : d.F j = some ⟨c, ff⟩) : syncD d (j : Nat) = withF d (setF d.F j (some ⟨c, c.length⟩)) := by
 unfold syncD
 rw [if_pos (askK_has hup h)]
 unfold syncF
 rw [show ((j : Nat) : Int).toNat = j by omega, fileAt_some h]
theorem LogOk.sync {d : DiskD} {most : Int} {base N U : Nat} {L : List FS} (h : LogOk d most base L N U) {m : Nat} (hm : m < L.length) : LogOk (syncD d (L[m].num : Nat)) most base L N U ∧ (syncD d (L[m].num : Nat)).armed = d.armed ∧ (syncD d (L[m].num : Nat)).room = d.room := by
 obtain ⟨ff, hf⟩ := h.has m hm
 have hok := syncD_ok h.ok (L[m].num : Nat)
 have h64 : rg base m < 64 := rg_lt _ _
 rw [h.num m hm] at hok ⊢
 have hu : usedF (setF d.F (rg base m) (some ⟨L[m].all, L[m].all.length⟩)) = usedF d.F := by
  have h1 := used_set d.F (some ⟨L[m].all, L[m].all.length⟩) 64 h64
  have h2 : sizeAt d.F (rg base m) = L[m].all.length := by unfold sizeAt; rw [hf]
  have h3 : sizeAt (setF d.F (rg base m) (some ⟨L[m].all, L[m].all.length⟩)) (rg base m) = L[m].all.length := by unfold sizeAt; rw [setF_same]
  unfold usedF
  omega
 rw [syncD_eq h.up hf] at hok ⊢
 refine ⟨⟨hok, h.up, fun j hj => ?_, fun i hi => ?_, h.num, h.torn, h.all, h.small, h.ahead, h.next, h.bnd, h.n63, h.b64, by show usedF (setF _ _ _) ≤ U; rw [hu]; exact h.used, h.big⟩, rfl, rfl⟩
 ·show setF _ _ _ j = none
  rw [setF_other _ _ (hj m hm)]
  exact h.rest j hj
 ·show ∃ ff, setF _ _ _ (rg base i) = _
  by_cases e : i = m
  ·subst e
   exact ⟨_, setF_same _ _ _⟩
  ·rw [setF_other _ _ (fun e2 => e (rg_inj (by have := h.n63; omega) (by have := h.n63; omega) e2))]
   exact h.has i hi
theorem LogOk.put {d : DiskD} {most : Int} {base N U : Nat} {L : List FS} (h : LogOk d most base L N U) {m : Nat} (hm : m + 1 = L.length) (r : List UInt8) (hr : r.length ≤ 8192) (hroom : usedF d.F + (framed r).length ≤ d.room) (hN : N < 1000000) :
  LogOk ⟨d.room, layF d.F (rg base m) (framed r), false, d.left, false⟩ most base (L.set m (putS (L[m]) (framed r) r)) (N + 1) (U + (framed r).length) := by
 have hml : m < L.length := by omega
 have h64 : rg base m < 64 := rg_lt _ _
 obtain ⟨ff, hf⟩ := h.has m hml
 have hok : DOk ⟨d.room, layF d.F (rg base m) (framed r), false, d.left, false⟩ := by
  have h1 := appF_ok (d := ⟨d.room, d.F, false, d.left, false⟩) ⟨h.ok.room1, h.ok.room2, h.ok.used, h.ok.fast, h.ok.high, h.ok.left⟩ h64 (b := framed r) hroom
  unfold appF takeN leftN at h1
  simpa using h1
 have hlen : (L.set m (putS (L[m]) (framed r) r)).length = L.length := List.length_set
 have hget : ∀ i (hi : i < (L.set m (putS (L[m]) (framed r) r)).length), (L.set m (putS (L[m]) (framed r) r))[i] = if m = i then putS (L[m]) (framed r) r else L[i]'(by rwa [hlen] at hi) := fun i hi => by rw [List.getElem_set]
 refine ⟨hok, rfl, fun j hj => ?_, fun i hi => ?_, fun i hi => ?_, fun i hi => ?_, fun i hi => ?_, fun i hi => ?_, fun i hi => ?_, fun i hi => ?_, fun i hi => ?_, by rw [hlen]; exact h.n63, h.b64, ?_, by omega⟩
 ·rw [hlen] at hj
  show setF _ _ _ j = none
  rw [setF_other _ _ (hj m hml)]
  exact h.rest j hj
 ·show ∃ ff, setF _ _ _ (rg base i) = _
  rw [hget i hi]
  by_cases e : m = i
  ·subst e
   rw [if_pos rfl, setF_same, fileAt_some hf]
   exact ⟨_, rfl⟩
  ·rw [hlen] at hi
   rw [if_neg e, setF_other _ _ (fun e2 => e (rg_inj (by have := h.n63; omega) (by have := h.n63; omega) e2).symm)]
   exact h.has i hi
 ·rw [hget i hi]
  by_cases e : m = i
  ·subst e; rw [if_pos rfl]; exact h.num m hml
  ·rw [if_neg e]; exact h.num i (by rwa [hlen] at hi)
 ·rw [hget i hi]
  by_cases e : m = i
  ·subst e; rw [if_pos rfl]; exact h.torn m hml
  ·rw [if_neg e]; exact h.torn i (by rwa [hlen] at hi)
 ·rw [hget i hi]
  by_cases e : m = i
  ·subst e
   rw [if_pos rfl]
   show L[m].all ++ framed r = framed (headB L[m].first) ++ frames (L[m].recs ++ [r])
   rw [frames_snoc, ← List.append_assoc, ← h.all m hml]
  ·rw [if_neg e]; exact h.all i (by rwa [hlen] at hi)
 ·rw [hget i hi]
  by_cases e : m = i
  ·subst e
   rw [if_pos rfl]
   intro x hx
   rcases List.mem_append.1 (show x ∈ L[m].recs ++ [r] from hx) with h1 | h1
   ·exact h.small m hml x h1
   ·rw [List.mem_singleton.1 h1]; exact hr
  ·rw [if_neg e]; exact h.small i (by rwa [hlen] at hi)
 ·rw [hget i (by omega), if_neg (by rw [hlen] at hi; omega)]
  exact h.ahead i (by rwa [hlen] at hi)
 ·rw [hget i (by omega), if_neg (by rw [hlen] at hi; omega), hget (i + 1) hi]
  by_cases e : m = i + 1
  ·subst e
   rw [if_pos rfl]
   exact h.next i (by rwa [hlen] at hi)
  ·rw [if_neg e]
   exact h.next i (by rwa [hlen] at hi)
 ·rw [hget i hi]
  by_cases e : m = i
  ·subst e
   rw [if_pos rfl]
   have h1 := h.bnd m hml
   unfold nextF at h1 ⊢
   show L[m].first + (L[m].recs ++ [r]).length ≤ N + 1
   rw [List.length_append, List.length_singleton]
   omega
  ·rw [if_neg e]
   have := h.bnd i (by rwa [hlen] at hi)
   omega
 ·show usedF (layF _ _ _) ≤ _
  rw [used_lay _ _ h64]
  have := h.used
  omega
theorem LogOk.begin_ {d : DiskD} {most : Int} {base N U : Nat} {L : List FS} (h : LogOk d most base L N U) (h62 : L.length ≤ 62) (first : Nat) (hfst : ∀ f, L.getLast? = some f → first = nextF f) (hfN : first ≤ N) (hlast : ∀ f, L.getLast? = some f → most ≤ (f.all.length : Int)) (r : List UInt8) (hr : r.length ≤ 8192) (hroom : usedF d.F + (framed (headB first) ++ framed r).length ≤ d.room) (hN : N < 1000000) :
  LogOk ⟨d.room, layF d.F (rg base L.length) (framed (headB first) ++ framed r), false, d.left, false⟩ most base (L ++ [⟨rg base L.length, first, [r], framed (headB first) ++ framed r, 0⟩]) (N + 1) (U + (framed (headB first) ++ framed r).length) := by
 have hok : DOk ⟨d.room, layF d.F (rg base L.length) (framed (headB first) ++ framed r), false, d.left, false⟩ := by
  have h1 := appF_ok (d := ⟨d.room, d.F, false, d.left, false⟩) ⟨h.ok.room1, h.ok.room2, h.ok.used, h.ok.fast, h.ok.high, h.ok.left⟩ (rg_lt base L.length) (b := framed (headB first) ++ framed r) hroom
  unfold appF takeN leftN at h1
  simp only [Bool.false_eq_true, if_false, List.take_length, Nat.lt_irrefl] at h1
  exact h1
 have hno : d.F (rg base L.length) = none := h.rest _ (fun i hi e2 => by have := rg_inj (by omega) (by omega) e2; omega)
 have hlen : (L ++ [(⟨rg base L.length, first, [r], framed (headB first) ++ framed r, 0⟩ : FS)]).length = L.length + 1 := by simp
 have hget : ∀ i (hi : i < (L ++ [(⟨rg base L.length, first, [r], framed (headB first) ++ framed r, 0⟩ : FS)]).length), (i = L.length ∧ (L ++ [(⟨rg base L.length, first, [r], framed (headB first) ++ framed r, 0⟩ : FS)])[i] = ⟨rg base L.length, first, [r], framed (headB first) ++ framed r, 0⟩) ∨ ∃ h : i < L.length, (L ++ [(⟨rg base L.length, first, [r], framed (headB first) ++ framed r, 0⟩ : FS)])[i] = L[i] := fun i hi => by
  by_cases e : i < L.length
  ·exact .inr ⟨e, List.getElem_append_left e⟩
  ·have e2 : i = L.length := by rw [hlen] at hi; omega
   subst e2
   exact .inl ⟨rfl, by simp⟩
 refine ⟨hok, rfl, fun j hj => ?_, fun i hi => ?_, fun i hi => ?_, fun i hi => ?_, fun i hi => ?_, fun i hi => ?_, fun i hi => ?_, fun i hi => ?_, fun i hi => ?_, by rw [hlen]; omega, h.b64, ?_, by omega⟩
 ·rw [hlen] at hj
  show setF _ _ _ j = none
  rw [setF_other _ _ (hj L.length (by omega))]
  exact h.rest j (fun i hi => hj i (by omega))
 ·show ∃ ff, setF _ _ _ (rg base i) = _
  rcases hget i hi with ⟨e, e2⟩ | ⟨hl, e2⟩
  ·rw [e2]
   subst e
   rw [setF_same]
   have : fileAt d.F (rg base L.length) = ⟨[], 0⟩ := by unfold fileAt; rw [hno]
   rw [this]
   exact ⟨_, rfl⟩
  ·rw [e2, setF_other _ _ (fun e3 => by have := rg_inj (by omega) (by omega) e3; omega)]
   exact h.has i hl
 ·rcases hget i hi with ⟨e, e2⟩ | ⟨hl, e2⟩
  ·rw [e2, e]
  ·rw [e2]; exact h.num i hl
 ·rcases hget i hi with ⟨e, e2⟩ | ⟨hl, e2⟩
  ·rw [e2]
  ·rw [e2]; exact h.torn i hl
 ·rcases hget i hi with ⟨e, e2⟩ | ⟨hl, e2⟩
  ·rw [e2]; simp [frames]
  ·rw [e2]; exact h.all i hl
 ·rcases hget i hi with ⟨e, e2⟩ | ⟨hl, e2⟩
  ·rw [e2]
   intro x hx
   rw [List.mem_singleton.1 hx]; exact hr
  ·rw [e2]; exact h.small i hl
 ·rw [hlen] at hi
  rcases hget i (by rw [hlen]; omega) with ⟨e, e2⟩ | ⟨hl, e2⟩
  ·omega
  ·rw [e2]
   by_cases e3 : i + 1 < L.length
   ·exact h.ahead i e3
   ·exact hlast L[i] (by rw [List.getLast?_eq_getElem?, show L.length - 1 = i by omega, List.getElem?_eq_getElem hl])
 ·rw [hlen] at hi
  rcases hget i (by rw [hlen]; omega) with ⟨e, e2⟩ | ⟨hl, e2⟩
  ·omega
  ·rw [e2]
   rcases hget (i + 1) (by rw [hlen]; omega) with ⟨e3, e4⟩ | ⟨hl3, e4⟩
   ·rw [e4]
    exact hfst L[i] (by rw [List.getLast?_eq_getElem?, show L.length - 1 = i by omega, List.getElem?_eq_getElem hl])
   ·rw [e4]
    exact h.next i hl3
 ·rcases hget i hi with ⟨e, e2⟩ | ⟨hl, e2⟩
  ·rw [e2]
   show first + 1 ≤ N + 1
   omega
  ·rw [e2]
   have := h.bnd i hl
   omega
 ·show usedF (layF _ _ _) ≤ _
  rw [used_lay _ _ (rg_lt _ _)]
  have := h.used
  omega
theorem recsL_snoc (L : List FS) (f : FS) : recsL (L ++ [f]) = recsL L ++ f.recs := by unfold recsL; simp
theorem recsL_set {L : List FS} {m : Nat} (hm : m + 1 = L.length) (f : FS) (r : List UInt8) (hf : f.recs = (L[m]'(by omega)).recs ++ [r]) : recsL (L.set m f) = recsL L ++ [r] := by
 have hml : m < L.length := by omega
 have e1 : L = L.take m ++ [L[m]] := by
  rw [← List.take_succ_eq_append_getElem hml, hm, List.take_length]
 have e2 : L.set m f = L.take m ++ [f] := by
  rw [List.set_eq_take_append_cons_drop, if_pos hml, show m + 1 = L.length from hm, List.drop_length]
 rw [e2, recsL_snoc, hf]
 conv => rhs; rw [e1]
 rw [recsL_snoc, List.append_assoc]
structure AppOk (d : DiskD) (most : Int) (base : Nat) (L : List FS) (N U : Nat) (r : List UInt8) (k : Int) (d' : DiskD) (L' : List FS) : Prop where
 k0 : k = 0
 ok : LogOk d' most base L' (N + 1) (U + r.length + 24)
 recs : recsL L' = recsL L ++ [r]
 arm : d'.armed = false
 len : L'.length ≤ L.length + 1
 room : d'.room = d.room
 keep : L.length = 1 → (∀ f ∈ L, (f.all.length : Int) < most) → L'.length = 1
theorem framed_len2 (first : Nat) (r : List UInt8) : (framed (headB first) ++ framed r).length = r.length + 24 := by
 rw [List.length_append, framed_length, framed_length, headB_length]
 omega
theorem LogOk.mono {d : DiskD} {most : Int} {base N U U' : Nat} {L : List FS} (h : LogOk d most base L N U) (hU : U ≤ U') : LogOk d most base L N U' :=
 ⟨h.ok, h.up, h.rest, h.has, h.num, h.torn, h.all, h.small, h.ahead, h.next, h.bnd, h.n63, h.b64, Nat.le_trans h.used hU, h.big⟩
theorem start_ok {d : DiskD} {most : Int} {base N U : Nat} {L : List FS} (h : LogOk d most base L N U) (ha : d.armed = false) (h62 : L.length ≤ 62) (first : Nat) (hfst : ∀ f, L.getLast? = some f → first = nextF f) (hfN : first ≤ N) (hlast : ∀ f, L.getLast? = some f → most ≤ (f.all.length : Int)) (r : List UInt8) (hr : r.length ≤ 8192) (hN : N < 1000000) (hk : L.length = 1 → (∀ f ∈ L, (f.all.length : Int) < most) → False) :
  ((startL d L (rg base L.length) first r).1 = 9 ∧ d.room < U + r.length + 24) ∨ AppOk d most base L N U r (startL d L (rg base L.length) first r).1 (startL d L (rg base L.length) first r).2.1 (startL d L (rg base L.length) first r).2.2 := by
 have hl := framed_len2 first r
 rcases app_cases h.up ha (rg_lt base L.length) (framed (headB first) ++ framed r) with ⟨e1, e2, e3⟩ | ⟨e1, e2, e3⟩
 ·left
  have := h.used
  exact ⟨e1, by omega⟩
 ·right
  have h1 := h.begin_ h62 first hfst hfN hlast r hr e2 hN
  unfold startL
  simp only
  rw [e1, e3, if_pos rfl]
  refine ⟨rfl, h1.mono (by omega), by rw [recsL_snoc], rfl, by simp, rfl, fun h1 h2 => absurd h2 (fun h2 => hk h1 h2)⟩
theorem LogOk.append {d : DiskD} {most : Int} {base N U : Nat} {L : List FS} (h : LogOk d most base L N U) (h0 : L = [] → base = 0) (ha : d.armed = false) (r : List UInt8) (hr : r.length ≤ 8192) (hN : N < 1000000) :
  ((appendL d most L r).1 = 9 ∧ (63 ≤ L.length ∨ d.room < U + r.length + 24)) ∨ AppOk d most base L N U r (appendL d most L r).1 (appendL d most L r).2.1 (appendL d most L r).2.2 := by
 rcases hl : L.getLast? with _ | f
 ·have hnil : L = [] := List.getLast?_eq_none_iff.1 hl
  have e : appendL d most L r = startL d L (rg base L.length) 0 r := by
   unfold appendL beginL
   rw [hl]
   simp only
   rw [h0 hnil, hnil]
   rfl
  rw [e]
  rcases start_ok h ha (by rw [hnil]; simp) 0 (by rw [hl]; simp) (Nat.zero_le _) (by rw [hl]; simp) r hr hN (by rw [hnil]; simp) with h1 | h1
  ·exact .inl ⟨h1.1, .inr h1.2⟩
  ·exact .inr h1
 ·have hl2 := hl
  rw [List.getLast?_eq_getElem?] at hl2
  obtain ⟨hlt, hfe⟩ := List.getElem?_eq_some_iff.1 hl2
  by_cases hm : most ≤ (f.all.length : Int)
  ·by_cases h63 : 63 ≤ L.length
   ·left
    have e : appendL d most L r = (9, d, L) := by
     unfold appendL
     rw [hl]
     simp only
     rw [if_pos hm]
     unfold beginL
     rw [if_pos h63]
    rw [e]
    exact ⟨rfl, .inl h63⟩
   ·obtain ⟨hs, hsa, hsr⟩ := h.sync hlt
    rw [hfe] at hs hsa hsr
    obtain ⟨ff, hff⟩ := h.has _ hlt
    rw [← h.num _ hlt, hfe] at hff
    have hnum : (f.num + 1) % 64 = rg base L.length := by
     have h1 := h.num _ hlt
     rw [hfe] at h1
     rw [h1, rg_succ]
     congr 1
     omega
    have e : appendL d most L r = startL (syncD d (f.num : Nat)) L (rg base L.length) (nextF f) r := by
     unfold appendL
     rw [hl]
     simp only
     rw [if_pos hm]
     unfold beginL
     rw [if_neg h63, hl]
     simp only
     rw [if_pos (askK_has h.up hff), hnum]
    rw [e]
    have hb := h.bnd _ hlt
    rw [hfe] at hb
    rcases start_ok hs (by rw [hsa]; exact ha) (by omega) (nextF f) (by rw [hl]; intro x hx; cases hx; rfl) hb (by rw [hl]; intro x hx; cases hx; exact hm) r hr hN (fun _ h2 => by have := h2 f (List.mem_of_getLast? hl); omega) with h1 | h1
    ·rw [hsr] at h1
     exact .inl ⟨h1.1, .inr h1.2⟩
    ·exact .inr ⟨h1.k0, h1.ok, h1.recs, h1.arm, h1.len, by rw [h1.room, hsr], h1.keep⟩
  ·have hnum := h.num _ hlt
   rw [hfe] at hnum
   have e : appendL d most L r = (appK d (f.num : Nat) (framed r).length, appD d (f.num : Nat) (framed r), if appK d (f.num : Nat) (framed r).length = 0 then L.set (L.length - 1) (putS f (framed r) r) else L) := by
    unfold appendL
    rw [hl]
    simp only
    rw [if_neg hm]
   rw [e, hnum]
   have hfl := framed_length r
   rcases app_cases h.up ha (rg_lt base (L.length - 1)) (framed r) with ⟨e1, e2, e3⟩ | ⟨e1, e2, e3⟩
   ·left
    have := h.used
    exact ⟨e1, .inr (by omega)⟩
   ·right
    have h1 := h.put (m := L.length - 1) (by omega) r hr e2 hN
    rw [hfe] at h1
    simp only
    rw [e1, e3, if_pos rfl]
    exact ⟨rfl, h1.mono (by omega), recsL_set (by omega) _ r (by rw [hfe]; rfl), rfl, by rw [List.length_set]; omega, rfl, fun h2 _ => by rw [List.length_set]; exact h2⟩
end Wl
end Go.Proofs.YthjhofmjhmnddaaGreat
/-
 Syncing a log.
-/
namespace Go.Proofs.YthjhofmjhmnddaaGreat
open Go.RowKit Fm Dsk
namespace Wl
theorem sN_onto {base n j : Nat} (hb : base < 64) (hn : n ≤ 63) (hj : j < n) : ∃ m, m < n ∧ sN base n j = rg base m := by
 unfold sN rg
 by_cases h : base + n ≤ 64
 ·exact ⟨j, hj, by rw [if_pos h]; omega⟩
 ·rw [if_neg h]
  by_cases h2 : j < base + n - 64
  ·exact ⟨64 - base + j, by omega, by rw [if_pos h2]; omega⟩
  ·exact ⟨j - (base + n - 64), by omega, by rw [if_neg h2]; omega⟩
theorem rg_onto {base n m : Nat} (hb : base < 64) (hn : n ≤ 63) (hm : m < n) : ∃ j, j < n ∧ sN base n j = rg base m :=
 ⟨(stN base n + m) % n, Nat.mod_lt _ (by omega), sN_rot hb hn hm⟩
structure SyA (w : World) (gl gd : Nat) (X F : Nat → Prop) (Qd0 Pl : Nat → Prop) (P : Nat → Nat → Prop) (g : Nat → Nat) (Af : Option Addr) (cf : Nat) (d0 : DiskD) (most : Int) (base : Nat) (L : List FS) (N U : Nat) (A : Option Addr) (i : Nat) (wr : World) (d : DiskD) (Qd X' : Nat → Prop) : Prop where
 lg : LgIn wr gl gd Qd X' Pl P g Af cf d most L
 ok : LogOk d most base L N U
 arm : d.armed = d0.armed
 room : d.room = d0.room
 fast : ∀ m (h : m < L.length), (∃ j, j < i ∧ sN base L.length j = rg base m) → d.F (rg base m) = some ⟨L[m].all, L[m].all.length⟩
 tn : Tn F w wr
 ft : Foot (fun q => F q ∨ w.heap.size ≤ q) Qd Pl P L
 x : ∀ q, X' q → X q ∨ w.heap.size ≤ q
 xx : ∀ q, X q → X' q
 row : ∀ b, A = some ⟨b, 0, none⟩ → ¬ Qd b ∧ ∀ j, j < L.length → wr.cell? ⟨b, j, none⟩ = some (.int .i64 ((sN base L.length j : Nat) : Int))
theorem SyA.step {w wr w' : World} {gl gd : Nat} {X F Qd0 Pl Qd X' Q' : Nat → Prop} {P : Nat → Nat → Prop} {g : Nat → Nat} {Af A : Option Addr} {cf : Nat} {d0 d : DiskD} {most : Int} {base N U i : Nat} {L : List FS} (h : SyA w gl gd X F Qd0 Pl P g Af cf d0 most base L N U A i wr d Qd X') (hi : i < L.length)
  (hd : Dk w' gd Q' (syncD d (((sN base L.length i : Nat) : Int)))) (t : Tn Qd wr w') (hq : ∀ q, Q' q → Qd q ∨ wr.heap.size ≤ q) : SyA w gl gd X F Qd0 Pl P g Af cf d0 most base L N U A (i + 1) w' (syncD d (((sN base L.length i : Nat) : Int))) Q' (fun q => X' q ∨ Q' q) := by
 obtain ⟨m, hm, hme⟩ := sN_onto h.ok.b64 h.ok.n63 hi
 rw [hme] at hd ⊢
 obtain ⟨s1, s2, s3⟩ := h.ok.sync hm
 rw [h.ok.num m hm] at s1 s2 s3
 obtain ⟨ff, hff⟩ := h.ok.has m hm
 have hsz := h.tn.size
 refine ⟨h.lg.disk hd t hq, s1, by rw [s2, h.arm], by rw [s3, h.room], fun m2 hm2 hj => ?_, h.tn.trans t (fun q hq2 => h.ft.d q hq2), h.ft.qd (fun q hq2 => ?_), fun q hq2 => ?_, fun q hq2 => .inl (h.xx q hq2), fun b hA => ?_⟩
 ·rw [syncD_eq h.ok.up hff]
  show setF _ _ _ (rg base m2) = _
  by_cases e : m2 = m
  ·subst e
   rw [setF_same]
  ·have hne : rg base m2 ≠ rg base m := fun e2 => e (rg_inj (by have := h.ok.n63; omega) (by have := h.ok.n63; omega) e2)
   rw [setF_other _ _ hne]
   obtain ⟨j, hj1, hj2⟩ := hj
   refine h.fast m2 hm2 ⟨j, ?_, hj2⟩
   have : j ≠ i := by rintro rfl; rw [hme] at hj2; exact hne hj2.symm
   omega
 ·rcases hq q hq2 with h2 | h2
  ·exact h.ft.d q h2
  ·right; omega
 ·rcases hq2 with h1 | h1
  ·exact h.x q h1
  ·rcases hq q h1 with h2 | h2
   ·exact h.x q (h.lg.dx q h2)
   ·right; omega
 ·obtain ⟨r1, r2⟩ := h.row b hA
  refine ⟨fun hq2 => ?_, fun j hj => cell_tn (r2 j hj) t r1⟩
  rcases hq b hq2 with h3 | h3
  ·exact r1 h3
  ·have := lt_of_cell (r2 i hi)
   have h4 : b < wr.heap.size := this
   omega
def SyPost (w : World) (gl gd : Nat) (X F : Nat → Prop) (d0 : DiskD) (most : Int) (base : Nat) (L : List FS) (N U : Nat) (e : Ending) (w' : World) : Prop :=
 ∃ d, LogOk d most base L N U ∧ d.armed = d0.armed ∧ d.room = d0.room ∧ (∀ j (h : j < L.length), d.F (rg base j) = some ⟨L[j].all, L[j].all.length⟩) ∧ LgPost w gl gd X F (.int .i64 0) d most L e w'
section
variable {w : World} {gl gd : Nat} {Qd X Pl F : Nat → Prop} {P : Nat → Nat → Prop} {g : Nat → Nat} {Af : Option Addr} {cf : Nat} {d : DiskD} {most : Int} {L : List FS}
set_option maxRecDepth 20000 in
set_option maxHeartbeats 8000000 in
theorem lsync_any {base N U : Nat} (h : LgIn w gl gd Qd X Pl P g Af cf d most L) (hF : Foot F Qd Pl P L) (ok : LogOk d most base L N U) : Calls Tryz.prog 33 #[.pointer (some ⟨gl, 0, none⟩)] w (SyPost w gl gd X F d most base L N U) := by
 have HN := hid_ (none_any h)
 obtain ⟨c0, c1, c2⟩ := l_facts h.whole
 have HDn := hid_ (down_any gd Qd d w h.dk)
 rw [ok.up] at HDn
 have HFi := hid_ (files_any gd Qd d w h.dk)
 unfold FilesPost at HFi
 rw [ok.files, ringL_length] at HFi
 have H := hid_ h
 have HOk := hid_ ok
 have HLn := hid_ ok.n63
 have HF := hid_ hF
 clear h ok hF
 go_enter Tryz.func33, Tryz.ntmps33
 go_wp2_with fail
 (with_reducible refine Calls.mono HN.out ?_)
 rintro e w1 ⟨rfl, rfl⟩
 go_wp2_with fail
 (with_reducible refine Calls.mono HDn.out ?_)
 rintro e w1 ⟨rfl, rfl⟩
 go_wp2_with fail
 (with_reducible refine Calls.mono HFi.out ?_)
 rintro e w1 ⟨A, c, rfl, ho, hb⟩
 have HB1 := hid_ hb
 have HS0 := hid_ (show SyA w gl gd X F Qd Pl P g Af cf d most base L N U A 0 w1 d Qd X from
  ⟨H.out.below hb, HOk.out, rfl, rfl, fun m _ hj => by obtain ⟨j, hj, -⟩ := hj; exact absurd hj (Nat.not_lt_zero j), Tn.of_below hb, HF.out.wide (fun q hq => .inl hq), fun q hq => .inl hq, fun q hq => hq, fun b hA => by
   subst hA
   have h2 := (ho.from_ b rfl).1
   refine ⟨fun hq => by have := H.out.dk.qlt b hq; omega, fun j hj => ?_⟩
   obtain ⟨b', e1, e2⟩ := nums_at ho hj
   injection e1 with e1
   injection e1 with e1
   subst e1
   exact e2 j hj⟩)
 have HO := hid_ ho
 have hcl : L.length ≤ c := HO.out.row.cap
 have hcm : c ≤ 9223372036854775807 := HO.out.row.max
 clear hb ho c0 c1 c2
 go_wp2_with fail
 go_loopw [19] (fun vi wr => ∃ (i : Nat) (d' : DiskD) (Qd' X' : Nat → Prop), i ≤ L.length ∧ vi = .int .i64 (i : Nat) ∧ Hid (SyA w gl gd X F Qd Pl P g Af cf d most base L N U A i wr d' Qd' X')) (fun vi _ => L.length - (intOf vi).toNat)
 case atStart => exact ⟨0, d, Qd, X, Nat.zero_le _, rfl, HS0⟩
 case round =>
  obtain ⟨i, d', Qd', X', hi, rfl, HS⟩ := hrel
  have hL63 : (L.length : Int) ≤ 63 := by have := HLn.out; omega
  by_cases hlt : i < L.length
  ·obtain ⟨b, rfl, -⟩ := nums_at HO.out hlt
   have hcell := (HS.out.row b rfl).2 i hlt
   obtain ⟨d0, d1, d2⟩ := l_facts HS.out.lg.whole
   obtain ⟨m, hm, hme⟩ := sN_onto HOk.out.b64 HOk.out.n63 hlt
   have HC := hid_ (sync_any ((sN base L.length i : Nat) : Int) (by omega) (by have := rg_lt base m; rw [hme]; omega) gd Qd' d' wr HS.out.lg.dk)
   obtain ⟨ff, hff⟩ := HS.out.ok.has m hm
   rw [← hme] at hff
   rw [askK_has HS.out.ok.up hff] at HC
   obtain ⟨p, hp⟩ : ∃ p : Nat, p = sN base L.length i := ⟨_, rfl⟩
   have HPp := hid_ hp
   rw [← hp] at HC hcell
   have x1 : (i : Int) < (L.length : Int) := by omega
   have x2 : (0 : Int) ≤ (i : Int) := by omega
   have HK := hid_ hlt
   clear hlt hff hp d1 d2 hme hm
   go_wp2_with fail
   (with_reducible refine Calls.mono HC.out ?_)
   rintro e w3 ⟨rfl, Q', hk, t1, hq⟩
   rw [HPp.out] at hk
   have HS2 := hid_ (HS.out.step HK.out hk t1 hq)
   clear hk t1 hq hcell d0
   go_wp2_with fail
   go_roundw
   case rel => exact ⟨i + 1, _, _, _, by have := HK.out; omega, by go_num, HS2⟩
   case measure => have := HK.out; simp [intOf]; omega
  ·have x1 : ¬ (i : Int) < (L.length : Int) := by omega
   have HI := hid_ (show i = L.length by omega)
   clear hlt
   go_wp2_with fail
   go_ret
   have h := HS.out
   exact ⟨d', h.ok, h.arm, h.room, fun j hj => h.fast j hj (by obtain ⟨j2, h2, h3⟩ := rg_onto h.ok.b64 h.ok.n63 hj; exact ⟨j2, by rw [HI.out]; exact h2, h3⟩), rfl, X', h.lg.upper h.ft, h.tn, h.x, h.xx⟩
end
end Wl
end Go.Proofs.YthjhofmjhmnddaaGreat
/-
 A log of one file, a record that isn't fast, and a crash that takes it: plain mathematics.
-/
namespace Go.Proofs.YthjhofmjhmnddaaGreat
open Go.RowKit Fm Dsk
namespace Wl
theorem LogOk.fits {d : DiskD} {most : Int} {base N U : Nat} {L : List FS} (h : LogOk d most base L N U) (h0 : L = [] → base = 0) (ha : d.armed = false) (r : List UInt8) (hr : r.length ≤ 8192) (hN : N < 1000000) (h62 : L.length ≤ 62) (hroom : U + r.length + 24 ≤ d.room) : AppOk d most base L N U r (appendL d most L r).1 (appendL d most L r).2.1 (appendL d most L r).2.2 := by
 rcases h.append h0 ha r hr hN with ⟨-, h1 | h1⟩ | h1
 ·omega
 ·omega
 ·exact h1
end Wl
end Go.Proofs.YthjhofmjhmnddaaGreat
