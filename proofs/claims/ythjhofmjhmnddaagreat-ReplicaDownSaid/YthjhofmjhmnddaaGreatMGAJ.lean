/-
  A log whose last file was written to, or that has one file more.
-/
import Derived.Test.YthjhofmjhmnddaaGreatMGAF
import Derived.Test.YthjhofmjhmnddaaGreatMGAI
set_option linter.unusedSimpArgs false
set_option linter.unusedVariables false
namespace Go.Proofs.YthjhofmjhmnddaaGreat
open Go.RowKit Fm Dsk
namespace Wl
def updP (P : Nat → Nat → Prop) (m : Nat) (Q : Nat → Prop) : Nat → Nat → Prop := fun i => if i = m then Q else P i
def updG (g : Nat → Nat) (m x : Nat) : Nat → Nat := fun i => if i = m then x else g i
theorem updP_same (P : Nat → Nat → Prop) (m : Nat) (Q : Nat → Prop) : updP P m Q m = Q := by simp [updP]
theorem updP_other (P : Nat → Nat → Prop) {m i : Nat} (Q : Nat → Prop) (h : i ≠ m) : updP P m Q i = P i := by simp [updP, h]
theorem updG_same (g : Nat → Nat) (m x : Nat) : updG g m x m = x := by simp [updG]
theorem updG_other (g : Nat → Nat) {m i : Nat} (x : Nat) (h : i ≠ m) : updG g m x i = g i := by simp [updG, h]
theorem FsIn.wrote {w w' : World} {X P0 Pi Qd Qd' X' P' : Nat → Prop} {g0 gd gi : Nat} {d' : DiskD} {f' fi : FS} (h : FsIn w X Pi gi fi) (hw : Wr w w' g0 gd Qd X P0 d' f' Qd' X' P') (hp : ∀ q, Pi q → ¬ P0 q) (hq : ∀ q, Pi q → ¬ Qd q) (h0 : ∀ q, P0 q → X q) (hx : ∀ q, Qd q → X q) : FsIn w' X' Pi gi fi :=
 (h.more hw.x (fun q hq2 => hw.xx q (h.px q hq2))).tn hw.tn (fun q hq2 hq3 => by
  rcases hq3 with h1 | h1
  ·exact hp q hq2 h1
  ·exact hq q hq2 h1) (fun q hq3 => by
  rcases hq3 with h1 | h1
  ·exact .inl (hw.xx q (h0 q h1))
  ·exact .inl (hw.xx q (hx q h1)))
theorem Foot.snoc {F Qd Pl Pl' P0 : Nat → Prop} {P : Nat → Nat → Prop} {L : List FS} (h : Foot F Qd Pl P L) (k : ∀ q, P0 q → F q) (k2 : ∀ q, Pl' q → F q) (f : FS) : Foot F Qd Pl' (updP P L.length P0) (L ++ [f]) := by
 refine ⟨h.d, k2, fun i hi q hq => ?_⟩
 rw [List.length_append, List.length_singleton] at hi
 by_cases e : i = L.length
 ·subst e
  rw [updP_same] at hq
  exact k q hq
 ·rw [updP_other _ _ e] at hq
  exact h.p i (by omega) q hq
theorem Foot.set {F Qd Pl P0 : Nat → Prop} {P : Nat → Nat → Prop} {L : List FS} (h : Foot F Qd Pl P L) (k : ∀ q, P0 q → F q) (m : Nat) (f : FS) : Foot F Qd Pl (updP P m P0) (L.set m f) := by
 refine ⟨h.d, h.l, fun i hi q hq => ?_⟩
 rw [List.length_set] at hi
 by_cases e : i = m
 ·subst e
  rw [updP_same] at hq
  exact k q hq
 ·rw [updP_other _ _ e] at hq
  exact h.p i hi q hq
section
variable {w w' : World} {gl gd : Nat} {Qd X Pl Qd' X' P' : Nat → Prop} {P : Nat → Nat → Prop} {g : Nat → Nat} {Af : Option Addr} {cf : Nat} {d d' : DiskD} {most : Int} {L : List FS}
theorem LgIn.wrote_last (h : LgIn w gl gd Qd X Pl P g Af cf d most L) {m : Nat} (hm : m < L.length) {f' : FS} (hw : Wr w w' (g m) gd Qd X (P m) d' f' Qd' X' P') : LgIn w' gl gd Qd' X' Pl (updP P m P') g Af cf d' most (L.set m f') := by
 have hplm : ∀ q, Pl q → ¬ (P m q ∨ Qd q) := fun q h1 h2 => by
  rcases h2 with h2 | h2
  ·exact h.plp m hm q h2 h1
  ·exact h.pld q h1 h2
 have hPX : ∀ q, P m q → X q := (h.fs m hm).px
 have hnew : ∀ q, P' q → P m q ∨ w.heap.size ≤ q := hw.p
 refine ⟨hw.dk, hw.qx, hw.xlt, ?_, ?_, ?_, h.plg, h.pla, fun q hq => hw.xx q (h.plx q hq), fun q hq hq2 => ?_, ?_, ?_, ?_⟩
 ·rw [List.length_set]
  exact h.whole.tn hw.tn (hplm gl h.plg)
 ·rw [List.length_set]
  exact h.row.stands (fun k hk => hw.tn.block k (h.row.blk_lt k hk) (hplm k (h.pla k hk)))
 ·intro i hi
  rw [List.length_set] at hi
  by_cases e : i = m
  ·subst e
   rw [updP_same]
   simpa using hw.fs
  ·rw [updP_other _ _ e, List.getElem_set_ne (Ne.symm e)]
   exact (h.fs i hi).wrote hw (h.pp i m hi hm e) (h.pd i hi) hPX h.dx
 ·rcases hw.q q hq2 with h1 | h1
  ·exact h.pld q hq h1
  ·have := h.xlt q (h.plx q hq); omega
 ·intro i hi q hq hq2
  rw [List.length_set] at hi
  by_cases e : i = m
  ·subst e
   rw [updP_same] at hq
   rcases hnew q hq with h1 | h1
   ·exact h.plp i hi q h1 hq2
   ·have := h.xlt q (h.plx q hq2); omega
  ·rw [updP_other _ _ e] at hq
   exact h.plp i hi q hq hq2
 ·intro i hi q hq hq2
  rw [List.length_set] at hi
  by_cases e : i = m
  ·subst e
   rw [updP_same] at hq
   exact hw.ap q hq hq2
  ·rw [updP_other _ _ e] at hq
   rcases hw.q q hq2 with h1 | h1
   ·exact h.pd i hi q hq h1
   ·have := h.xlt q ((h.fs i hi).px q hq); omega
 ·intro i j hi hj hne q h1 h2
  rw [List.length_set] at hi hj
  by_cases e : i = m
  ·subst e
   rw [updP_same] at h1
   rw [updP_other _ _ (Ne.symm hne)] at h2
   rcases hnew q h1 with h3 | h3
   ·exact h.pp i j hi hj hne q h3 h2
   ·have := h.xlt q ((h.fs j hj).px q h2); omega
  ·rw [updP_other _ _ e] at h1
   by_cases e2 : j = m
   ·subst e2
    rw [updP_same] at h2
    rcases hnew q h2 with h3 | h3
    ·exact h.pp i j hi hj hne q h1 h3
    ·have := h.xlt q ((h.fs i hi).px q h1); omega
   ·rw [updP_other _ _ e2] at h2
    exact h.pp i j hi hj hne q h1 h2
theorem LgIn.wrote_new (h : LgIn w gl gd Qd X Pl P g Af cf d most L) {g0 : Nat} {P0 : Nat → Prop} {f' : FS} (hw : Wr w w' g0 gd Qd X P0 d' f' Qd' X' P') (h0 : ∀ q, P0 q → X q) (h1 : ∀ q, P0 q → ¬ Pl q) (h2 : ∀ i, i < L.length → ∀ q, P i q → ¬ P0 q) :
  LgIn w' gl gd Qd' X' Pl P g Af cf d' most L ∧ (∀ q, P' q → ¬ Pl q) ∧ (∀ i, i < L.length → ∀ q, P i q → ¬ P' q) := by
 have hplm : ∀ q, Pl q → ¬ (P0 q ∨ Qd q) := fun q h1' h2 => by
  rcases h2 with h2 | h2
  ·exact h1 q h2 h1'
  ·exact h.pld q h1' h2
 refine ⟨⟨hw.dk, hw.qx, hw.xlt, h.whole.tn hw.tn (hplm gl h.plg), h.row.stands (fun k hk => hw.tn.block k (h.row.blk_lt k hk) (hplm k (h.pla k hk))), fun i hi => (h.fs i hi).wrote hw (h2 i hi) (h.pd i hi) h0 h.dx, h.plg, h.pla, fun q hq => hw.xx q (h.plx q hq), fun q hq hq2 => ?_, h.plp, fun i hi q hq hq2 => ?_, h.pp⟩, fun q hq hq2 => ?_, fun i hi q hq hq2 => ?_⟩
 ·rcases hw.q q hq2 with h3 | h3
  ·exact h.pld q hq h3
  ·have := h.xlt q (h.plx q hq); omega
 ·rcases hw.q q hq2 with h3 | h3
  ·exact h.pd i hi q hq h3
  ·have := h.xlt q ((h.fs i hi).px q hq); omega
 ·rcases hw.p q hq with h3 | h3
  ·exact h1 q h3 hq2
  ·have := h.xlt q (h.plx q hq2); omega
 ·rcases hw.p q hq2 with h3 | h3
  ·exact h2 i hi q hq h3
  ·have := h.xlt q ((h.fs i hi).px q hq); omega
theorem LgIn.more (h : LgIn w gl gd Qd X Pl P g Af cf d most L) {g0 : Nat} {P0 : Nat → Prop} {f : FS} (hf : FsIn w X P0 g0 f) (h1 : ∀ q, P0 q → ¬ Pl q) (h2 : ∀ i, i < L.length → ∀ q, P i q → ¬ P0 q) (h3 : ∀ q, P0 q → ¬ Qd q)
  {w1 w2 w3 : World} {A' : Option Addr} {c' : Nat} (b1 : Below w.heap.size w w1) (g2 : w1.grownBy w2 (blockOf Af)) (r2 : RowT 134 w2 A' (L.length + 1) c' (ptrs g L.length ++ [ptrV g0])) (a2 : ∀ k, blockOf A' = some k → blockOf Af = some k ∨ w1.heap.size ≤ k)
  (e3 : w3 = w2.setCell ⟨gl, 2, none⟩ (.slice A' (L.length + 1) c')) :
  ∃ X' Pl', LgIn w3 gl gd Qd X' Pl' (updP P L.length P0) (updG g L.length g0) A' c' d most (L ++ [f]) ∧ Tn Pl w w3 ∧ (∀ q, X' q → X q ∨ w.heap.size ≤ q) ∧ (∀ q, X q → X' q) ∧ ∀ q, Pl' q → Pl q ∨ w.heap.size ≤ q := by
 have T1 : Tn Pl w w1 := Tn.of_below b1
 have T2 : Tn Pl w w2 := T1.grown g2 (fun j hj => .inl (h.pla j hj))
 have T3 : Tn Pl w w3 := by rw [e3]; exact T2.set (.inl h.plg) 2 _
 have hs1 := b1.size
 have hAg : blockOf Af ≠ some gl := by
  intro hk
  obtain ⟨cur, hc⟩ := rowT_whole h.row hk
  exact absurd (whole_type hc h.whole) (by decide)
 have W2 : Whole w2 gl 128 (cellsL gd most Af L.length cf) := whole_grown (h.whole.below b1 h.whole.lt) g2 hAg
 have hAg2 : blockOf A' ≠ some gl := by
  intro hk
  obtain ⟨cur, hc⟩ := rowT_whole r2 hk
  exact absurd (whole_type hc W2) (by decide)
 have R3 : RowT 134 w3 A' (L.length + 1) c' (ptrs g L.length ++ [ptrV g0]) := by
  rw [e3]
  exact r2.stands (fun k hk => Below.heap_setCell w2 ⟨gl, 2, none⟩ _ k (by rintro rfl; exact hAg2 hk))
 have hx : ∀ q, (X q ∨ blockOf A' = some q) → X q ∨ w.heap.size ≤ q := fun q hq => by
  rcases hq with hq | hq
  ·exact .inl hq
  ·rcases a2 q hq with h4 | h4
   ·exact .inl (h.plx q (h.pla q h4))
   ·right; omega
 have hpl : ∀ q, (Pl q ∨ blockOf A' = some q) → Pl q ∨ w.heap.size ≤ q := fun q hq => by
  rcases hq with hq | hq
  ·exact .inl hq
  ·rcases a2 q hq with h4 | h4
   ·exact .inl (h.pla q h4)
   ·right; omega
 refine ⟨(fun q => X q ∨ blockOf A' = some q), (fun q => Pl q ∨ blockOf A' = some q), ⟨h.dk.tn T3 (fun q hq hq2 => h.pld q hq2 hq), fun q hq => .inl (h.dx q hq), ?_, ?_, ?_, ?_, .inl h.plg, fun k hk => .inr hk, ?_, ?_, ?_, ?_, ?_⟩, T3, hx, fun q hq => .inl hq, hpl⟩
 ·rintro q (hq | hq)
  ·exact Nat.lt_of_lt_of_le (h.xlt q hq) T3.size
  ·exact R3.blk_lt q hq
 ·rw [e3, List.length_append, List.length_singleton]
  have h4 := W2.store 2 (.slice A' (L.length + 1) c')
  exact h4
 ·rw [List.length_append, List.length_singleton, ptrs_succ, updG_same]
  have e : ptrs (updG g L.length g0) L.length = ptrs g L.length := by
   unfold ptrs
   refine List.map_congr_left (fun i hi => ?_)
   rw [updG_other _ _ (by have := List.mem_range.1 hi; omega)]
  rw [e]
  exact R3
 ·intro i hi
  rw [List.length_append, List.length_singleton] at hi
  by_cases e : i = L.length
  ·subst e
   rw [updP_same, updG_same]
   simp only [List.getElem_append_right (Nat.le_refl _), Nat.sub_self, List.getElem_cons_zero]
   exact (hf.more hx (fun q hq => .inl (hf.px q hq))).tn T3 h1 (fun q hq => .inl (.inl (h.plx q hq)))
  ·have hi2 : i < L.length := by omega
   rw [updP_other _ _ e, updG_other _ _ e, List.getElem_append_left hi2]
   exact ((h.fs i hi2).more hx (fun q hq => .inl ((h.fs i hi2).px q hq))).tn T3 (h.plp i hi2) (fun q hq => .inl (.inl (h.plx q hq)))
 ·rintro q (hq | hq)
  ·exact .inl (h.plx q hq)
  ·exact .inr hq
 ·intro q hq hq2
  rcases hpl q hq with h4 | h4
  ·exact h.pld q h4 hq2
  ·have := h.xlt q (h.dx q hq2); omega
 ·intro i hi q hq hq2
  rw [List.length_append, List.length_singleton] at hi
  by_cases e : i = L.length
  ·subst e
   rw [updP_same] at hq
   rcases hpl q hq2 with h4 | h4
   ·exact h1 q hq h4
   ·have := hf.plt q hq; omega
  ·rw [updP_other _ _ e] at hq
   have hi2 : i < L.length := by omega
   rcases hpl q hq2 with h4 | h4
   ·exact h.plp i hi2 q hq h4
   ·have := (h.fs i hi2).plt q hq; omega
 ·intro i hi q hq hq2
  rw [List.length_append, List.length_singleton] at hi
  by_cases e : i = L.length
  ·subst e
   rw [updP_same] at hq
   exact h3 q hq hq2
  ·rw [updP_other _ _ e] at hq
   exact h.pd i (by omega) q hq hq2
 ·intro i j hi hj hne q q1 q2
  rw [List.length_append, List.length_singleton] at hi hj
  by_cases e : i = L.length
  ·subst e
   rw [updP_same] at q1
   rw [updP_other _ _ (Ne.symm hne)] at q2
   exact h2 j (by omega) q q2 q1
  ·rw [updP_other _ _ e] at q1
   by_cases e2 : j = L.length
   ·subst e2
    rw [updP_same] at q2
    exact h2 i (by omega) q q1 q2
   ·rw [updP_other _ _ e2] at q2
    exact h.pp i j (by omega) (by omega) hne q q1 q2
theorem LgIn.grow {X2 : Nat → Prop} (h : LgIn w gl gd Qd X Pl P g Af cf d most L) (b : Below w.heap.size w w') (h1 : ∀ q, X q → X2 q) (h2 : ∀ q, X2 q → X q ∨ (w.heap.size ≤ q ∧ q < w'.heap.size)) : LgIn w' gl gd Qd X2 Pl P g Af cf d most L :=
 ⟨h.dk.below b, fun q hq => h1 q (h.dx q hq), fun q hq => by
  rcases h2 q hq with h3 | h3
  ·exact Nat.lt_of_lt_of_le (h.xlt q h3) b.size
  ·exact h3.2, h.whole.below b h.whole.lt, h.row.below b, fun i hi => ((h.fs i hi).more (fun q hq => (h2 q hq).imp id And.left) (fun q hq => h1 q ((h.fs i hi).px q hq))).below b, h.plg, h.pla, fun q hq => h1 q (h.plx q hq), h.pld, h.plp, h.pd, h.pp⟩
theorem LgIn.aside {Q : Nat → Prop} (h : LgIn w gl gd Qd X Pl P g Af cf d most L) (k : Tn Q w w') (h1 : ∀ q, Q q → X q) (h2 : ∀ q, Q q → ¬ Qd q) (h3 : ∀ q, Q q → ¬ Pl q) (h4 : ∀ i, i < L.length → ∀ q, P i q → ¬ Q q) : LgIn w' gl gd Qd X Pl P g Af cf d most L :=
 ⟨h.dk.tn k (fun q hq hq2 => h2 q hq2 hq), h.dx, fun q hq => Nat.lt_of_lt_of_le (h.xlt q hq) k.size, h.whole.tn k (fun hq => h3 gl hq h.plg), h.row.stands (fun b hb => k.block b (h.row.blk_lt b hb) (fun hq => h3 b hq (h.pla b hb))), fun i hi => (h.fs i hi).tn k (h4 i hi) (fun q hq => .inl (h1 q hq)), h.plg, h.pla, h.plx, h.pld, h.plp, h.pd, h.pp⟩
end
end Wl
end Go.Proofs.YthjhofmjhmnddaaGreat
/-
 How a log's next file begins.
-/
namespace Go.Proofs.YthjhofmjhmnddaaGreat
open Go.RowKit Fm Dsk
namespace Wl
def startL (d : DiskD) (L : List FS) (num first : Nat) (r : List UInt8) : Int × DiskD × List FS :=
 (appK d (num : Nat) (framed (headB first) ++ framed r).length, appD d (num : Nat) (framed (headB first) ++ framed r), if appK d (num : Nat) (framed (headB first) ++ framed r).length = 0 then L ++ [⟨num, first, [r], framed (headB first) ++ framed r, 0⟩] else L)
def beginL (d : DiskD) (L : List FS) (r : List UInt8) : Int × DiskD × List FS :=
 if 63 ≤ L.length then (9, d, L) else match L.getLast? with
 | none => startL d L 0 0 r
 | some f => if askK d (f.num : Nat) = 0 then startL (syncD d (f.num : Nat)) L ((f.num + 1) % 64) (nextF f) r else (askK d (f.num : Nat), d, L)
theorem lgPost_mk {w w' : World} {gl gd : Nat} {X F X' Qd' Pl' : Nat → Prop} {P' : Nat → Nat → Prop} {g' : Nat → Nat} {Af' : Option Addr} {cf' : Nat} {v v' : Value} {d d' : DiskD} {most : Int} {L L' : List FS} (hv : v' = v) (h : LgIn w' gl gd Qd' X' Pl' P' g' Af' cf' d' most L') (hf : Foot (fun q => F q ∨ w.heap.size ≤ q) Qd' Pl' P' L') (hd : d' = d) (hL : L' = L) (ht : Tn F w w') (h1 : ∀ q, X' q → X q ∨ w.heap.size ≤ q) (h2 : ∀ q, X q → X' q) : LgPost w gl gd X F v d most L (.returned v') w' := by
 subst hv hd hL
 exact ⟨rfl, X', h.upper hf, ht, h1, h2⟩
theorem lgPost_mk2 {w w' : World} {gl gd : Nat} {X F X' : Nat → Prop} {v v' : Value} {d d' : DiskD} {most : Int} {L L' : List FS} (hv : v' = v) (h : LgF w' gl gd X' (growF F w w') d' most L') (hd : d' = d) (hL : L' = L) (ht : Tn F w w') (h1 : ∀ q, X' q → X q ∨ w.heap.size ≤ q) (h2 : ∀ q, X q → X' q) : LgPost w gl gd X F v d most L (.returned v') w' := by
 subst hv hd hL
 exact ⟨rfl, X', h, ht, h1, h2⟩
theorem new_file {w : World} {X : Nat → Prop} {gn num first : Nat} (h : Whole w gn 136 #[.int .i64 (num : Nat), .int .u64 (first : Nat), .slice none 0 0, .slice none 0 0, .int .i64 0]) (hx : X gn) : FsIn w X (fun q => q = gn) gn ⟨num, first, [], [], 0⟩ :=
 ⟨rfl, fun q hq => by rw [hq]; exact h.lt, fun q hq => by rw [hq]; exact hx, none, 0, none, 0, h, RecsT.none _ _, Own.none _ _, (fun k hk => by cases hk), (fun k hk => by cases hk)⟩
theorem info_ptr : (Tryz.prog.info? 134).map (fun i => (i.zero, i.size, i.bytes)) = some (some (.pointer none), 1, 8) := by kernel_rfl
section
variable {w : World} {gl gd : Nat} {Qd X Pl F : Nat → Prop} {P : Nat → Nat → Prop} {g : Nat → Nat} {Af : Option Addr} {cf : Nat} {d : DiskD} {most : Int} {L : List FS}
set_option maxRecDepth 20000 in
set_option maxHeartbeats 8000000 in
theorem begin_none (Ar : Option Addr) (nr cr : Nat) (r : List UInt8) (h : LgIn w gl gd Qd X Pl P g Af cf d most L) (hF : Foot F Qd Pl P L) (hL : L = []) (hr : SlN X w Ar nr cr r) (hnr : nr ≤ 8192) : Calls Tryz.prog 105 #[.pointer (some ⟨gl, 0, none⟩), .slice Ar nr cr] w (LgPost w gl gd X F (.int .i64 (beginL d L r).1) (beginL d L r).2.1 most (beginL d L r).2.2) := by
 have HNx := hid_ (next_any h (by rw [hL]; decide) (by rw [hL]; simp))
 have HBL := hid_ (show beginL d L r = startL d L 0 0 r by rw [hL]; rfl)
 rw [show nextL L = 0 by rw [hL]; rfl] at HNx
 obtain ⟨c0, c1, c2⟩ := l_facts h.whole
 have hl0 : L.length = 0 := by rw [hL]; rfl
 have HL0 := hid_ hl0
 have HLB := hid_ (show L.length ≤ 63 by omega)
 rw [hl0] at c2
 have H := hid_ h
 have HF := hid_ hF
 have HF0 := hid_ (hF.wide (F' := fun q => F q ∨ w.heap.size ≤ q) (fun q hq => .inl hq))
 have HR0 := hid_ hr
 have HNr := hid_ hnr
 clear h hF hr hnr hL hl0
 go_enter Tryz.func105, Tryz.ntmps105
 go_wp2_with fail
 (with_reducible refine Calls.mono HNx.out ?_)
 rintro e w1 ⟨rfl, hb1⟩
 have HB2 := hid_ (hb1.alloc hb1.size (.cells #[.int .i64 0, .int .u64 0, .slice none 0 0, .slice none 0 0, .int .i64 0] 136))
 have GN0 := hid_ (whole_new w1 136 #[.int .i64 0, .int .u64 0, .slice none 0 0, .slice none 0 0, .int .i64 0])
 have hsz1 := hb1.size
 clear hb1 c0 c1 c2
 go_wp2_with fail
 obtain ⟨gn, hgn⟩ : ∃ gn, gn = w1.heap.size := ⟨_, rfl⟩
 have LG1 := hid_ (H.out.grow (X2 := fun q => X q ∨ q = w1.heap.size) HB2.out (fun q hq => .inl hq) (fun q hq => by
  rcases hq with hq | hq
  ·exact .inl hq
  ·right; rw [hq]; exact ⟨hsz1, GN0.out.lt⟩))
 have HLa := hid_ (last_any LG1.out)
 rw [show lastP g L.length = none by unfold lastP; rw [if_pos HL0.out]] at HLa
 (with_reducible refine Calls.mono HLa.out ?_)
 rintro e w3 ⟨rfl, q, hw3⟩
 obtain ⟨wt, hwt⟩ : ∃ wt : World, wt = w3 := ⟨_, rfl⟩
 subst hwt
 have LG := hid_ (show LgIn wt gl gd Qd (fun q => X q ∨ q = w1.heap.size) Pl P g Af cf d most L by rw [hw3]; exact LG1.out.below (below_drewN (Below.refl _ _) q))
 have GN := hid_ (show Whole wt w1.heap.size 136 #[.int .i64 ((0 : Nat) : Int), .int .u64 ((0 : Nat) : Int), .slice none 0 0, .slice none 0 0, .int .i64 0] by rw [hw3]; exact GN0.out.drewN q)
 have HBt := hid_ (show Below w.heap.size w wt by rw [hw3]; exact below_drewN HB2.out q)
 clear hw3 hgn
 have HXn := hid_ (show (fun q => X q ∨ q = w1.heap.size) w1.heap.size from .inr rfl)
 have HGN := hid_ (show ¬ Qd w1.heap.size ∧ ¬ Pl w1.heap.size ∧ ∀ i, i < L.length → ¬ P i w1.heap.size from ⟨fun hq => by have := H.out.xlt _ (H.out.dx _ hq); omega, fun hq => by have := H.out.xlt _ (H.out.plx _ hq); omega, fun i hi hq => by have := (H.out.fs i hi).plt _ hq; omega⟩)
 have HT := hid_ (show Tn F w wt from Tn.of_below HBt.out)
 have HX1 := hid_ (show ∀ q, (X q ∨ q = w1.heap.size) → X q ∨ w.heap.size ≤ q from fun q hq => by
  rcases hq with hq | hq
  ·exact .inl hq
  ·right; omega)
 have HX2 := hid_ (show ∀ q, X q → (X q ∨ q = w1.heap.size) from fun q hq => .inl hq)
 have HR := hid_ ((HR0.out.more HX1.out).tn (Q := fun _ => False) (Tn.of_below HBt.out) (fun _ e => e.elim))
 have HFB := hid_ (show (0 : Nat) < 18446744073709551616 by decide)
 have gfirst : wt.cell? ⟨w1.heap.size, 1, none⟩ = some (.int .u64 (0 : Nat)) := GN.out.cell 1 _ rfl
 have HHd := hid_ (head_any 0 wt HFB.out)
 go_wp2_with fail
 (with_reducible refine Calls.mono HHd.out ?_)
 rintro e wa ⟨Aa, ca, rfl, hoa, hba⟩
 have LGa := hid_ (LG.out.below hba)
 have GNa := hid_ (GN.out.below hba GN.out.lt)
 have HRa := hid_ (HR.out.tn (Q := fun _ => False) (Tn.of_below hba) (fun _ e => e.elim))
 have HTa := hid_ (HT.out.then_below hba)
 have HPu := hid_ (put_nil Aa 8 ca (headB 0) wa hoa.sl (by omega))
 have hwsa := hba.size
 clear gfirst hoa hba
 go_wp2_with fail
 (with_reducible refine Calls.mono HPu.out ?_)
 rintro e wb ⟨Ab, cb, rfl, hob, hbb⟩
 have LGb := hid_ (LGa.out.below hbb)
 have GNb := hid_ (GNa.out.below hbb GNa.out.lt)
 have HRb := hid_ (HRa.out.tn (Q := fun _ => False) (Tn.of_below hbb) (fun _ e => e.elim))
 have HTb := hid_ (HTa.out.then_below hbb)
 obtain ⟨cl0, cl1, cl2⟩ := l_facts LGb.out.whole
 have HWr := hid_ (write_any (fun q => X q ∨ q = w1.heap.size) (fun q => q = w1.heap.size) w1.heap.size gd Qd d ⟨0, 0, [], [], 0⟩ Ab 16 cb (framed (headB 0)) Ar nr cr r wb (new_file GNb.out (Or.inr rfl)) LGb.out.dk LGb.out.dx LGb.out.xlt (fun q hq => by rw [hq]; exact HGN.out.1) hob.sl HRb.out HNr.out (by omega) (by simp) (by simp))
 have hwsb := hbb.size
 clear hob hbb
 go_wp2_with fail
 (with_reducible refine Calls.mono HWr.out ?_)
 rintro e wc ⟨rfl, Q2, X2, P2, hw⟩
 obtain ⟨lg2, np, nf⟩ := LGb.out.wrote_new hw (fun q hq => by rw [hq]; exact (Or.inr rfl)) (fun q hq => by rw [hq]; exact HGN.out.2.1) (fun i hi q hq hq2 => HGN.out.2.2 i hi (by rw [← hq2]; exact hq))
 have HFQ := hid_ (show ∀ q, Qd q → F q ∨ w.heap.size ≤ q from fun q hq => .inl (HF.out.d q hq))
 have HTc := hid_ (HTb.out.trans hw.tn (fun q hq => by
  rcases hq with hq | hq
  ·rw [hq]; right; omega
  ·exact HFQ.out q hq))
 have HFt := hid_ (show Foot (fun q => F q ∨ w.heap.size ≤ q) Q2 Pl P L from HF0.out.qd (fun q hq => by
  rcases hw.q q hq with h1 | h1
  ·exact HFQ.out q h1
  ·right; have := HTb.out.size; omega))
 have HFp := hid_ (show ∀ q, P2 q → F q ∨ w.heap.size ≤ q from fun q hq => by
  rcases hw.p q hq with h1 | h1
  ·rw [h1]; right; omega
  ·right; have := HTb.out.size; omega)
 have HXc := hid_ (show ∀ q, X2 q → X q ∨ w.heap.size ≤ q from fun q hq => by
  rcases hw.x q hq with h1 | h1
  ·exact HX1.out q h1
  ·right; have := HTb.out.size; omega)
 have HXd := hid_ (show ∀ q, X q → X2 q from fun q hq => hw.xx q (HX2.out q hq))
 have LG2 := hid_ lg2
 have HFn := hid_ hw.fs
 have HNp := hid_ (And.intro np (And.intro nf hw.ap))
 clear lg2 np nf hw cl0 cl1 cl2
 have HKD := hid_ (show startL d L 0 0 r = startL d L 0 0 r from rfl)
 obtain ⟨k, hk⟩ : ∃ k, appK d (0 : Nat) (framed (headB 0) ++ framed r).length = k := ⟨_, rfl⟩
 simp only [hk] at HFn ⊢
 have HK := hid_ hk
 obtain ⟨c0, c1, c2⟩ := l_facts LG2.out.whole
 have hfz := LG2.out.whole.free 2
 by_cases hk0 : k = 0
 ·subst hk0
  rw [if_pos rfl] at HFn
  have hmx := LG2.out.row.2.2.1
  have hcp := LG2.out.row.2.1
  have hLb : L.length ≤ 63 := HLB.out
  have HRes := hid_ (show (startL d L 0 0 r) = (0, appD d (0 : Nat) (framed (headB 0) ++ framed r), L ++ [⟨0, 0, [r], framed (headB 0) ++ framed r, 0⟩]) by unfold startL; rw [HK.out, if_pos rfl])
  have HZ := hid_ (fun (W : World) (hg : (wc.alloc (.cells #[ptrV w1.heap.size] 134)).grownBy W (blockOf Af)) => show W.cell? ⟨gl, 2, none⟩ = some (.slice Af L.length cf) ∧ W.frozen? ⟨gl, 2, none⟩ = false from by
   have hAg : blockOf Af ≠ some gl := by
    intro hk
    obtain ⟨cur, hc⟩ := rowT_whole LG2.out.row hk
    exact absurd (whole_type hc LG2.out.whole) (by decide)
   have h1 := whole_grown (LG2.out.whole.alloc (.cells #[ptrV w1.heap.size] 134)) hg hAg
   exact ⟨h1.cell 2 _ rfl, h1.free 2⟩)
  have HRw := hid_ (LG2.out.row.below ((Below.refl wc.heap.size wc).alloc (Nat.le_refl _) (.cells #[ptrV w1.heap.size] 134)))
  clear hk hfz
  go_wp2_with (first
   | (at_builtin; refine wpList_T (e := 134) rfl (.tmp 73) (.tmp 75) 126 rfl _ 8 Tryz.underlying126 info_ptr rfl Af L.length cf (ptrs g L.length) rfl HRw.out wc.heap.size (ptrV w1.heap.size) rfl rfl (at_new _ _ _) (by omega) (by omega) ?_; intro A9 c9 w9 hr9 hg9 ha9; have hz9 := HZ.out w9 hg9; have z9 := hz9.1; have y9 := hz9.2; have H9 := hid_ (And.intro hr9 (And.intro hg9 ha9)); clear hr9 hg9 ha9 hz9)
   | fail)
  go_ret
  obtain ⟨X4, Pl4, lg4, t4, x4, xx4, pl4⟩ := LG2.out.more HFn.out HNp.out.1 HNp.out.2.1 HNp.out.2.2 ((Below.refl wc.heap.size wc).alloc (Nat.le_refl _) (.cells #[ptrV w1.heap.size] 134)) H9.out.2.1 H9.out.1 H9.out.2.2 rfl
  exact lgPost_mk (by rw [HBL.out, HRes.out]; rfl) lg4 (HFt.out.snoc HFp.out (fun q hq => by
   rcases pl4 q hq with h1 | h1
   ·exact HFt.out.l q h1
   ·right; have := HTc.out.size; omega) _) (by rw [HBL.out, HRes.out]) (by rw [HBL.out, HRes.out]; rfl) (HTc.out.trans t4 (fun q hq => HFt.out.l q hq)) (fun q hq => by
   rcases x4 q hq with h1 | h1
   ·exact HXc.out q h1
   ·right; have := HTc.out.size; omega) (fun q hq => xx4 q (HXd.out q hq))
 ·have HRes := hid_ (show (startL d L 0 0 r) = (k, appD d (0 : Nat) (framed (headB 0) ++ framed r), L) by unfold startL; rw [HK.out, if_neg hk0])
  have e9 : (k != 0) = true := by simpa using hk0
  clear hk hk0
  go_wp2_with fail
  go_ret
  exact lgPost_mk (by rw [HBL.out, HRes.out]; rfl) LG2.out HFt.out (by rw [HBL.out, HRes.out]) (by rw [HBL.out, HRes.out]) HTc.out HXc.out HXd.out
theorem begin_full (Ar : Option Addr) (nr cr : Nat) (r : List UInt8) (h : LgIn w gl gd Qd X Pl P g Af cf d most L) (hF : Foot F Qd Pl P L) (hL : 63 ≤ L.length) : Calls Tryz.prog 105 #[.pointer (some ⟨gl, 0, none⟩), .slice Ar nr cr] w (LgPost w gl gd X F (.int .i64 (beginL d L r).1) (beginL d L r).2.1 most (beginL d L r).2.2) := by
 have HBL := hid_ (show beginL d L r = (9, d, L) by unfold beginL; rw [if_pos hL])
 obtain ⟨c0, c1, c2⟩ := l_facts h.whole
 have H := hid_ h
 have HF := hid_ hF
 have HF0 := hid_ (hF.wide (F' := fun q => F q ∨ w.heap.size ≤ q) (fun q hq => .inl hq))
 have e1 : decide ((63 : Int) ≤ (L.length : Int)) = true := decide_eq_true (by omega)
 have e2 : decide ((L.length : Int) ≥ 63) = true := decide_eq_true (by omega)
 have e3 : decide (63 ≤ L.length) = true := decide_eq_true hL
 clear h hF hL
 go_enter Tryz.func105, Tryz.ntmps105
 go_wp2_with fail
 go_ret
 exact lgPost_mk (by rw [HBL.out]; rfl) H.out HF0.out (by rw [HBL.out]) (by rw [HBL.out]) (Tn.refl _ _) (fun q hq => .inl hq) (fun q hq => hq)
set_option maxRecDepth 20000 in
set_option maxHeartbeats 8000000 in
theorem begin_some (Ar : Option Addr) (nr cr : Nat) (r : List UInt8) (h : LgIn w gl gd Qd X Pl P g Af cf d most L) (hF : Foot F Qd Pl P L) {m : Nat} (hm : L.length = m + 1) (hm62 : m + 1 ≤ 62) {f : FS} (hf : L[m]? = some f) (hnum : f.num < 64) (hfi : nextF f < 9223372036854775808) (hrl : ∀ f ∈ L, f.recs.length ≤ 9223372036854775807) (hr : SlN X w Ar nr cr r) (hnr : nr ≤ 8192) : Calls Tryz.prog 105 #[.pointer (some ⟨gl, 0, none⟩), .slice Ar nr cr] w (LgPost w gl gd X F (.int .i64 (beginL d L r).1) (beginL d L r).2.1 most (beginL d L r).2.2) := by
 have hgl : L.getLast? = some f := by rw [List.getLast?_eq_getElem?, hm, Nat.add_sub_cancel]; exact hf
 have hml : m < L.length := by omega
 have hfe : L[m] = f := by rw [List.getElem?_eq_getElem hml] at hf; exact Option.some.inj hf
 have hnl : nextL L = nextF f := by unfold nextL; rw [hgl]
 have HNx := hid_ (next_any h (by rw [hnl]; omega) hrl)
 rw [hnl] at HNx
 have HBL0 := hid_ (show beginL d L r = if askK d (f.num : Nat) = 0 then startL (syncD d (f.num : Nat)) L ((f.num + 1) % 64) (nextF f) r else (askK d (f.num : Nat), d, L) by unfold beginL; rw [if_neg (by omega), hgl])
 have HLB := hid_ (show L.length ≤ 63 by omega)
 have HLP := hid_ (show lastP g L.length = some ⟨g m, 0, none⟩ by unfold lastP; rw [hm, if_neg (by omega), Nat.add_sub_cancel])
 obtain ⟨c0, c1, c2⟩ := l_facts h.whole
 have hlen := hid_ hm
 have H := hid_ h
 have HF := hid_ hF
 have HF0 := hid_ (hF.wide (F' := fun q => F q ∨ w.heap.size ≤ q) (fun q hq => .inl hq))
 have HR0 := hid_ hr
 have HNr := hid_ hnr
 have HNum := hid_ hnum
 have HFB := hid_ (show nextF f < 18446744073709551616 by omega)
 have HFe := hid_ (show ∀ h : m < L.length, L[m] = f from fun _ => hfe)
 have HMl := hid_ hml
 have e1 : decide ((63 : Int) ≤ (L.length : Int)) = false := decide_eq_false (by omega)
 have e2 : decide ((L.length : Int) ≥ 63) = false := decide_eq_false (by omega)
 have e3 : decide (63 ≤ L.length) = false := decide_eq_false (by omega)
 generalize hfx : nextF f = fx at *
 clear h hF hr hnr hgl hml hfe hnl hrl hf hm hfi hfx hnum
 go_enter Tryz.func105, Tryz.ntmps105
 go_wp2_with fail
 (with_reducible refine Calls.mono HNx.out ?_)
 rintro e w1 ⟨rfl, hb1⟩
 have HB2 := hid_ (hb1.alloc hb1.size (.cells #[.int .i64 0, .int .u64 (fx : Nat), .slice none 0 0, .slice none 0 0, .int .i64 0] 136))
 have GN0 := hid_ (whole_new w1 136 #[.int .i64 0, .int .u64 (fx : Nat), .slice none 0 0, .slice none 0 0, .int .i64 0])
 have hsz1 := hb1.size
 clear hb1 c0 c1 c2
 go_wp2_with fail
 have LG1 := hid_ (H.out.grow (X2 := fun q => X q ∨ q = w1.heap.size) HB2.out (fun q hq => .inl hq) (fun q hq => by
  rcases hq with hq | hq
  ·exact .inl hq
  ·right; rw [hq]; exact ⟨hsz1, GN0.out.lt⟩))
 have HLa := hid_ (last_any LG1.out)
 rw [HLP.out] at HLa
 (with_reducible refine Calls.mono HLa.out ?_)
 rintro e w3 ⟨rfl, q, hw3⟩
 have LG3 := hid_ (show LgIn w3 gl gd Qd (fun q => X q ∨ q = w1.heap.size) Pl P g Af cf d most L by rw [hw3]; exact LG1.out.below (below_drewN (Below.refl _ _) q))
 have GN3 := hid_ (show Whole w3 w1.heap.size 136 #[.int .i64 0, .int .u64 (fx : Nat), .slice none 0 0, .slice none 0 0, .int .i64 0] by rw [hw3]; exact GN0.out.drewN q)
 have HB3 := hid_ (show Below w.heap.size w w3 by rw [hw3]; exact below_drewN HB2.out q)
 clear hw3
 obtain ⟨c0, c1, c2⟩ := l_facts LG3.out.whole
 have hfs3 := LG3.out.fs m HMl.out
 rw [HFe.out _] at hfs3
 have HFs3 := hid_ hfs3
 obtain ⟨Ar3, cr3, Aa3, ca3, m1, -⟩ := hfs3.mem
 obtain ⟨b0, -, -, -, -⟩ := s_facts m1
 have HSy := hid_ (sync_any (f.num : Nat) (by have := HNum.out; omega) (by have := HNum.out; omega) gd Qd d w3.drew LG3.out.dk.drew)
 have b0d : w3.drew.cell? ⟨g m, 0, none⟩ = some (.int .i64 (f.num : Nat)) := b0
 have c0d : w3.drew.cell? ⟨gl, 0, none⟩ = some (.pointer (some ⟨gd, 0, none⟩)) := c0
 clear m1 hfs3
 go_wp2_with fail
 go_still_tail 8, (by kernel_rfl)
 go_wp2_with fail
 (with_reducible refine Calls.mono HSy.out ?_)
 rintro e w4 ⟨rfl, Qd2, hd4, ht4, hq4⟩
 have H4 := hid_ (And.intro hd4 (And.intro ht4 hq4))
 clear hd4 ht4 hq4
 clear b0 b0d c0 c0d c1 c2
 have LG4 := hid_ ((LG3.out.below (Below.drew (Below.refl _ _))).disk H4.out.1 H4.out.2.1 H4.out.2.2)
 have GNno := hid_ (show ¬ Qd w1.heap.size ∧ ¬ Pl w1.heap.size ∧ (∀ i, i < L.length → ¬ P i w1.heap.size) from ⟨fun hq => by have := H.out.xlt _ (H.out.dx _ hq); omega, fun hq => by have := H.out.xlt _ (H.out.plx _ hq); omega, fun i hi hq => by have := (H.out.fs i hi).plt _ hq; omega⟩)
 have GN4 := hid_ ((GN3.out.drew).tn H4.out.2.1 GNno.out.1)
 have GNq := hid_ (show ¬ Qd2 w1.heap.size from fun hq => by
  rcases H4.out.2.2 _ hq with h1 | h1
  ·exact GNno.out.1 h1
  ·have := GN3.out.drew.lt; omega)
 have T4 := hid_ (show Tn F w w4 from (Tn.of_below HB3.out).trans (Tn.trans (Tn.of_below (Below.drew (Below.refl w3.heap.size w3))) H4.out.2.1 (fun q hq => .inl hq)) (fun q hq => .inl (HF.out.d q hq)))
 have X41 := hid_ (show ∀ q, ((X q ∨ q = w1.heap.size) ∨ Qd2 q) → X q ∨ w.heap.size ≤ q from fun q hq => by
  rcases hq with (hq | hq) | hq
  ·exact .inl hq
  ·right; omega
  ·rcases H4.out.2.2 q hq with h1 | h1
   ·exact .inl (H.out.dx q h1)
   ·right; have := HB3.out.size; exact Nat.le_trans this h1)
 have HFQ := hid_ (show ∀ q, Qd2 q → F q ∨ w.heap.size ≤ q from fun q hq => by
  rcases H4.out.2.2 q hq with h1 | h1
  ·exact .inl (HF.out.d q h1)
  ·right; have := HB3.out.size; exact Nat.le_trans this h1)
 have X42 := hid_ (show ∀ q, X q → ((X q ∨ q = w1.heap.size) ∨ Qd2 q) from fun q hq => .inl (.inl hq))
 have HR4 := hid_ ((((HR0.out.more (X' := fun q => X q ∨ q = w1.heap.size) (fun q hq => by
  rcases hq with hq | hq
  ·exact .inl hq
  ·right; omega)).tn (Q := fun _ => False) (Tn.of_below HB3.out) (fun _ e => e.elim)).more (X' := fun q => (X q ∨ q = w1.heap.size) ∨ Qd2 q) (fun q hq => by
  rcases hq with hq | hq
  ·exact .inl hq
  ·rcases H4.out.2.2 q hq with h1 | h1
   ·exact .inl (.inl (H.out.dx q h1))
   ·exact .inr h1)).tn (w' := w4) (Q := Qd) ((Tn.of_below (Below.drew (Below.refl w3.heap.size w3))).trans H4.out.2.1 (fun q hq => .inl hq)) (fun q hq => .inl (.inl (.inl (H.out.dx q hq)))))
 by_cases hk0 : askK d (f.num : Nat) = 0
 ·have HBL1 := hid_ (show beginL d L r = startL (syncD d (f.num : Nat)) L ((f.num + 1) % 64) fx r by rw [HBL0.out, if_pos hk0])
  rw [hk0]
  have hfs4 := LG4.out.fs m HMl.out
  rw [HFe.out _] at hfs4
  obtain ⟨Ar4, cr4, Aa4, ca4, m1, -⟩ := hfs4.mem
  obtain ⟨b0, -, -, -, -⟩ := s_facts m1
  obtain ⟨n', hn'⟩ : ∃ n' : Nat, n' = (f.num + 1) % 64 := ⟨_, rfl⟩
  have HN' := hid_ (show ((f.num : Int) + 1) % 64 = (n' : Nat) by rw [hn']; omega)
  have HN2 := hid_ (show Int.tmod ((f.num : Int) + 1) 64 = (n' : Nat) by rw [hn']; have := Int.tmod_eq_emod_of_nonneg (a := (f.num : Int) + 1) (b := 64) (by omega); rw [this]; omega)
  have hN1 := HN'.out
  have hN2 := HN2.out
  have HBL := hid_ (show beginL d L r = startL (syncD d (f.num : Nat)) L n' fx r by rw [hn']; exact HBL1.out)
  generalize syncD d (f.num : Nat) = dt at *
  have z0 : w4.cell? ⟨w1.heap.size, 0, none⟩ = some (.int .i64 0) := GN4.out.cell 0 _ rfl
  have y0 := GN4.out.free 0
  have z1 : w4.cell? ⟨w1.heap.size, 1, none⟩ = some (.int .u64 (fx : Nat)) := GN4.out.cell 1 _ rfl
  have hnum2 := HNum.out
  clear hfs4 m1 hn' hk0
  go_wp2_with fail
  obtain ⟨wt, hwt⟩ : ∃ wt : World, wt = w4.setCell ⟨w1.heap.size, 0, none⟩ (.int .i64 (n' : Nat)) := ⟨_, rfl⟩
  have TS := hid_ (show Tn (fun q => q = w1.heap.size) w4 wt by rw [hwt]; exact Tn.set (Q := fun q => q = w1.heap.size) (Tn.refl _ w4) (g := w1.heap.size) (Or.inl rfl) 0 _)
  have GN := hid_ (show Whole wt w1.heap.size 136 #[.int .i64 (n' : Nat), .int .u64 (fx : Nat), .slice none 0 0, .slice none 0 0, .int .i64 0] by rw [hwt]; exact GN4.out.store 0 _)
  rw [← hwt]
  clear hwt z0 y0 z1 b0
  have HGN := hid_ (show ¬ Qd2 w1.heap.size ∧ ¬ Pl w1.heap.size ∧ ∀ i, i < L.length → ¬ P i w1.heap.size from ⟨GNq.out, GNno.out.2.1, GNno.out.2.2⟩)
  have LG := hid_ (LG4.out.aside TS.out (fun q hq => by rw [hq]; exact .inl (.inr rfl)) (fun q hq => by rw [hq]; exact HGN.out.1) (fun q hq => by rw [hq]; exact HGN.out.2.1) (fun i hi q hq hq2 => HGN.out.2.2 i hi (by rw [← hq2]; exact hq)))
  have HT := hid_ (T4.out.trans TS.out (fun q hq => by rw [hq]; right; omega))
  have HX1 := X41
  have HX2 := X42
  have HR := hid_ (HR4.out.tn TS.out (fun q hq => by rw [hq]; exact .inl (.inl (.inr rfl))))
  have HHd := hid_ (head_any fx wt HFB.out)
  (with_reducible refine Calls.mono HHd.out ?_)
  rintro e wa ⟨Aa, ca, rfl, hoa, hba⟩
  have LGa := hid_ (LG.out.below hba)
  have GNa := hid_ (GN.out.below hba GN.out.lt)
  have HRa := hid_ (HR.out.tn (Q := fun _ => False) (Tn.of_below hba) (fun _ e => e.elim))
  have HTa := hid_ (HT.out.then_below hba)
  have HPu := hid_ (put_nil Aa 8 ca (headB fx) wa hoa.sl (by omega))
  have hwsa := hba.size
  clear hoa hba
  go_wp2_with fail
  (with_reducible refine Calls.mono HPu.out ?_)
  rintro e wb ⟨Ab, cb, rfl, hob, hbb⟩
  have LGb := hid_ (LGa.out.below hbb)
  have GNb := hid_ (GNa.out.below hbb GNa.out.lt)
  have HRb := hid_ (HRa.out.tn (Q := fun _ => False) (Tn.of_below hbb) (fun _ e => e.elim))
  have HTb := hid_ (HTa.out.then_below hbb)
  obtain ⟨cl0, cl1, cl2⟩ := l_facts LGb.out.whole
  have HWr := hid_ (write_any (fun q => (X q ∨ q = w1.heap.size) ∨ Qd2 q) (fun q => q = w1.heap.size) w1.heap.size gd Qd2 dt ⟨n', fx, [], [], 0⟩ Ab 16 cb (framed (headB fx)) Ar nr cr r wb (new_file GNb.out (Or.inl (Or.inr rfl))) LGb.out.dk LGb.out.dx LGb.out.xlt (fun q hq => by rw [hq]; exact HGN.out.1) hob.sl HRb.out HNr.out (by omega) (by simp) (by simp))
  have hwsb := hbb.size
  clear hob hbb
  go_wp2_with fail
  (with_reducible refine Calls.mono HWr.out ?_)
  rintro e wc ⟨rfl, Q2, X2, P2, hw⟩
  obtain ⟨lg2, np, nf⟩ := LGb.out.wrote_new hw (fun q hq => by rw [hq]; exact (Or.inl (Or.inr rfl))) (fun q hq => by rw [hq]; exact HGN.out.2.1) (fun i hi q hq hq2 => HGN.out.2.2 i hi (by rw [← hq2]; exact hq))
  have HTc := hid_ (HTb.out.trans hw.tn (fun q hq => by
   rcases hq with hq | hq
   ·rw [hq]; right; omega
   ·exact HFQ.out q hq))
  have HFt := hid_ (show Foot (fun q => F q ∨ w.heap.size ≤ q) Q2 Pl P L from HF0.out.qd (fun q hq => by
   rcases hw.q q hq with h1 | h1
   ·exact HFQ.out q h1
   ·right; have := HTb.out.size; omega))
  have HFp := hid_ (show ∀ q, P2 q → F q ∨ w.heap.size ≤ q from fun q hq => by
   rcases hw.p q hq with h1 | h1
   ·rw [h1]; right; omega
   ·right; have := HTb.out.size; omega)
  have HXc := hid_ (show ∀ q, X2 q → X q ∨ w.heap.size ≤ q from fun q hq => by
   rcases hw.x q hq with h1 | h1
   ·exact HX1.out q h1
   ·right; have := HTb.out.size; omega)
  have HXd := hid_ (show ∀ q, X q → X2 q from fun q hq => hw.xx q (HX2.out q hq))
  have LG2 := hid_ lg2
  have HFn := hid_ hw.fs
  have HNp := hid_ (And.intro np (And.intro nf hw.ap))
  clear lg2 np nf hw cl0 cl1 cl2
  have HKD := hid_ (show startL dt L n' fx r = startL dt L n' fx r from rfl)
  obtain ⟨k, hk⟩ : ∃ k, appK dt (n' : Nat) (framed (headB fx) ++ framed r).length = k := ⟨_, rfl⟩
  simp only [hk] at HFn ⊢
  have HK := hid_ hk
  obtain ⟨c0, c1, c2⟩ := l_facts LG2.out.whole
  have hfz := LG2.out.whole.free 2
  by_cases hk0 : k = 0
  ·subst hk0
   rw [if_pos rfl] at HFn
   have hmx := LG2.out.row.2.2.1
   have hcp := LG2.out.row.2.1
   have hLb : L.length ≤ 63 := HLB.out
   have HRes := hid_ (show (startL dt L n' fx r) = (0, appD dt (n' : Nat) (framed (headB fx) ++ framed r), L ++ [⟨n', fx, [r], framed (headB fx) ++ framed r, 0⟩]) by unfold startL; rw [HK.out, if_pos rfl])
   have HZ := hid_ (fun (W : World) (hg : (wc.alloc (.cells #[ptrV w1.heap.size] 134)).grownBy W (blockOf Af)) => show W.cell? ⟨gl, 2, none⟩ = some (.slice Af L.length cf) ∧ W.frozen? ⟨gl, 2, none⟩ = false from by
    have hAg : blockOf Af ≠ some gl := by
     intro hk
     obtain ⟨cur, hc⟩ := rowT_whole LG2.out.row hk
     exact absurd (whole_type hc LG2.out.whole) (by decide)
    have h1 := whole_grown (LG2.out.whole.alloc (.cells #[ptrV w1.heap.size] 134)) hg hAg
    exact ⟨h1.cell 2 _ rfl, h1.free 2⟩)
   have HRw := hid_ (LG2.out.row.below ((Below.refl wc.heap.size wc).alloc (Nat.le_refl _) (.cells #[ptrV w1.heap.size] 134)))
   clear hk hfz
   go_wp2_with (first
    | (at_builtin; refine wpList_T (e := 134) rfl (.tmp 73) (.tmp 75) 126 rfl _ 8 Tryz.underlying126 info_ptr rfl Af L.length cf (ptrs g L.length) rfl HRw.out wc.heap.size (ptrV w1.heap.size) rfl rfl (at_new _ _ _) (by omega) (by omega) ?_; intro A9 c9 w9 hr9 hg9 ha9; have hz9 := HZ.out w9 hg9; have z9 := hz9.1; have y9 := hz9.2; have H9 := hid_ (And.intro hr9 (And.intro hg9 ha9)); clear hr9 hg9 ha9 hz9)
    | fail)
   go_ret
   obtain ⟨X4, Pl4, lg4, t4, x4, xx4, pl4⟩ := LG2.out.more HFn.out HNp.out.1 HNp.out.2.1 HNp.out.2.2 ((Below.refl wc.heap.size wc).alloc (Nat.le_refl _) (.cells #[ptrV w1.heap.size] 134)) H9.out.2.1 H9.out.1 H9.out.2.2 rfl
   exact lgPost_mk (by rw [HBL.out, HRes.out]; rfl) lg4 (HFt.out.snoc HFp.out (fun q hq => by
   rcases pl4 q hq with h1 | h1
   ·exact HFt.out.l q h1
   ·right; have := HTc.out.size; omega) _) (by rw [HBL.out, HRes.out]) (by rw [HBL.out, HRes.out]; rfl) (HTc.out.trans t4 (fun q hq => HFt.out.l q hq)) (fun q hq => by
    rcases x4 q hq with h1 | h1
    ·exact HXc.out q h1
    ·right; have := HTc.out.size; omega) (fun q hq => xx4 q (HXd.out q hq))
  ·have HRes := hid_ (show (startL dt L n' fx r) = (k, appD dt (n' : Nat) (framed (headB fx) ++ framed r), L) by unfold startL; rw [HK.out, if_neg hk0])
   have e9 : (k != 0) = true := by simpa using hk0
   clear hk hk0
   go_wp2_with fail
   go_ret
   exact lgPost_mk (by rw [HBL.out, HRes.out]; rfl) LG2.out HFt.out (by rw [HBL.out, HRes.out]) (by rw [HBL.out, HRes.out]) HTc.out HXc.out HXd.out
 ·have HBL := hid_ (show beginL d L r = (askK d (f.num : Nat), d, L) by rw [HBL0.out, if_neg hk0])
  have hsd : syncD d (f.num : Nat) = d := by unfold syncD; rw [if_neg hk0]
  rw [hsd] at LG4
  have e9 : (askK d (f.num : Nat) != 0) = true := by simpa using hk0
  generalize askK d (f.num : Nat) = k at *
  clear hk0 hsd
  go_wp2_with fail
  go_ret
  exact lgPost_mk (by rw [HBL.out]; rfl) LG4.out (HF0.out.qd HFQ.out) (by rw [HBL.out]) (by rw [HBL.out]) T4.out X41.out X42.out
end
end Wl
end Go.Proofs.YthjhofmjhmnddaaGreat
/-
 How a record is appended to a log.
-/
namespace Go.Proofs.YthjhofmjhmnddaaGreat
open Go.RowKit Fm Dsk
namespace Wl
def appendL (d : DiskD) (most : Int) (L : List FS) (r : List UInt8) : Int × DiskD × List FS := match L.getLast? with
 | none => beginL d L r
 | some f => if most ≤ (f.all.length : Int) then beginL d L r else
  (appK d (f.num : Nat) (framed r).length, appD d (f.num : Nat) (framed r), if appK d (f.num : Nat) (framed r).length = 0 then L.set (L.length - 1) (putS f (framed r) r) else L)
theorem LgPost.after {w w2 w' : World} {gl gd : Nat} {X F : Nat → Prop} {v : Value} {d : DiskD} {most : Int} {L : List FS} {e : Ending} (hb : Below w.heap.size w w2) (h : LgPost w2 gl gd X F v d most L e w') : LgPost w gl gd X F v d most L e w' := by
 obtain ⟨he, X', h1, h2, h3, h4⟩ := h
 have hs := hb.size
 exact ⟨he, X', h1.wide (fun q hq => hq.imp id (fun hq => ⟨Nat.le_trans hs hq.1, hq.2⟩)), (Tn.of_below hb).trans h2 (fun q hq => .inl hq), fun q hq => by
  rcases h3 q hq with h5 | h5
  ·exact .inl h5
  ·right; omega, h4⟩
structure LOk (L : List FS) : Prop where
 num : ∀ f ∈ L, f.num < 64
 len : L.length ≤ 63
 next : ∀ f ∈ L, nextF f < 9223372036854775808
 all : ∀ f ∈ L, f.all.length ≤ 1000000000
 recs : ∀ f ∈ L, f.recs.length ≤ 1000000000
section
variable {w : World} {gl gd : Nat} {Qd X Pl F : Nat → Prop} {P : Nat → Nat → Prop} {g : Nat → Nat} {Af : Option Addr} {cf : Nat} {d : DiskD} {most : Int} {L : List FS}
theorem begin_any (Ar : Option Addr) (nr cr : Nat) (r : List UInt8) (h : LgIn w gl gd Qd X Pl P g Af cf d most L) (hF : Foot F Qd Pl P L) (ok : LOk L) (hr : SlN X w Ar nr cr r) (hnr : nr ≤ 8192) : Calls Tryz.prog 105 #[.pointer (some ⟨gl, 0, none⟩), .slice Ar nr cr] w (LgPost w gl gd X F (.int .i64 (beginL d L r).1) (beginL d L r).2.1 most (beginL d L r).2.2) := by
 by_cases h63 : 63 ≤ L.length
 ·exact begin_full Ar nr cr r h hF h63
 ·rcases Nat.eq_zero_or_pos L.length with h0 | h0
  ·exact begin_none Ar nr cr r h hF (List.eq_nil_of_length_eq_zero h0) hr hnr
  ·have hml : L.length - 1 < L.length := by omega
   have hmem := List.getElem_mem hml
   exact begin_some Ar nr cr r h hF (m := L.length - 1) (by omega) (by omega) (List.getElem?_eq_getElem hml) (ok.num _ hmem) (ok.next _ hmem) (fun f hf => by have := ok.recs f hf; omega) hr hnr
set_option maxRecDepth 20000 in
set_option maxHeartbeats 8000000 in
theorem append_any (Ar : Option Addr) (nr cr : Nat) (r : List UInt8) (h : LgIn w gl gd Qd X Pl P g Af cf d most L) (hF : Foot F Qd Pl P L) (hk : KnownD d L) (ok : LOk L) (hr : SlN X w Ar nr cr r) (hnr : nr ≤ 8192) :
  Calls Tryz.prog 74 #[.pointer (some ⟨gl, 0, none⟩), .slice Ar nr cr] w (LgPost w gl gd X F (.int .i64 (appendL d most L r).1) (appendL d most L r).2.1 most (appendL d most L r).2.2) := by
 have HN := hid_ (none_any h)
 have HLk := hid_ (look_any h hk ok.num)
 have H := hid_ h
 have HF := hid_ hF
 have HR := hid_ hr
 have HOk := hid_ ok
 have HNr := hid_ hnr
 have e1 : decide ((nr : Int) > 8192) = false := decide_eq_false (by omega)
 have e2 : decide ((8192 : Int) < (nr : Int)) = false := decide_eq_false (by omega)
 have e3 : decide (8192 < nr) = false := decide_eq_false (by omega)
 clear h hF hk ok hr hnr
 go_enter Tryz.func74, Tryz.ntmps74
 go_wp2_with fail
 (with_reducible refine Calls.mono HN.out ?_)
 rintro e w1 ⟨rfl, rfl⟩
 go_wp2_with fail
 (with_reducible refine Calls.mono HLk.out ?_)
 rintro e w2 ⟨rfl, hb⟩
 have HB2 := hid_ hb
 have H2 := hid_ (H.out.below hb)
 have HLa := hid_ (last_any H2.out)
 clear hb
 go_wp2_with fail
 (with_reducible refine Calls.mono HLa.out ?_)
 rintro e w3 ⟨rfl, q, hw3⟩
 have H3 := hid_ (show LgIn w3 gl gd Qd X Pl P g Af cf d most L by rw [hw3]; exact H2.out.below (below_drewN (Below.refl _ _) q))
 have HB3 := hid_ (show Below w.heap.size w w3 by rw [hw3]; exact below_drewN HB2.out q)
 clear hw3
 obtain ⟨c0, c1, c2⟩ := l_facts H3.out.whole
 rcases Nat.eq_zero_or_pos L.length with h0 | h0
 ·have hl0 : L = [] := List.eq_nil_of_length_eq_zero h0
  have HA := hid_ (show appendL d most L r = beginL d L r by rw [hl0]; rfl)
  rw [show lastP g L.length = none by unfold lastP; rw [if_pos h0]]
  clear h0 hl0
  go_wp2_with fail
  go_quiet (fail)
  have HBq := hid_ (below_drewN HB3.out nq)
  have Hq := hid_ (H3.out.below (below_drewN (Below.refl w3.heap.size w3) nq))
  clear c0 c1 c2
  generalize w3.drewN nq = wq at *
  have HBe := hid_ (begin_any Ar nr cr r Hq.out HF.out HOk.out (HR.out.tn (Q := fun _ => False) (Tn.of_below HBq.out) (fun _ e => e.elim)) HNr.out)
  go_wp2_with fail
  (with_reducible refine Calls.mono HBe.out ?_)
  rintro e w5 hp
  obtain ⟨rfl, X', hlg, ht, hx1, hx2⟩ := LgPost.after HBq.out hp
  have HP := hid_ (And.intro hlg (And.intro ht (And.intro hx1 hx2)))
  clear hp hlg ht hx1 hx2
  go_wp2_with fail
  go_ret
  exact lgPost_mk2 (by rw [HA.out]; rfl) HP.out.1 (by rw [HA.out]) (by rw [HA.out]) HP.out.2.1 HP.out.2.2.1 HP.out.2.2.2
 ·have hml : L.length - 1 < L.length := by omega
  have hgl : L.getLast? = some L[L.length - 1] := by rw [List.getLast?_eq_getElem?, List.getElem?_eq_getElem hml]
  have hmem := List.getElem_mem hml
  have hrb := HOk.out.all _ hmem
  have hrr := HOk.out.recs _ hmem
  rw [show lastP g L.length = some ⟨g (L.length - 1), 0, none⟩ by unfold lastP; rw [if_neg (by omega)]]
  have HMl := hid_ hml
  have HF3 := hid_ (H3.out.fs _ hml)
  obtain ⟨f, hf⟩ : ∃ f, L[L.length - 1]? = some f := ⟨_, List.getElem?_eq_getElem hml⟩
  have HFe := hid_ (show ∀ h : L.length - 1 < L.length, L[L.length - 1]'h = f from fun h => by rw [List.getElem?_eq_getElem h] at hf; exact Option.some.inj hf)
  have hgl2 : L.getLast? = some f := by rw [List.getLast?_eq_getElem?]; exact hf
  have hrb2 : f.all.length ≤ 1000000000 := by rw [← HFe.out hml]; exact hrb
  have hrr2 : f.recs.length ≤ 1000000000 := by rw [← HFe.out hml]; exact hrr
  have HF4 := hid_ (show FsIn w3 X (P (L.length - 1)) (g (L.length - 1)) f by rw [← HFe.out hml]; exact HF3.out)
  clear hgl hrb hrr HF3 hmem hf
  have hgl := hgl2
  have hrb := hrb2
  have hrr := hrr2
  have HF3 := HF4
  clear hgl2 hrb2 hrr2
  obtain ⟨Al, cl, Aa, ca, m1, -⟩ := HF3.out.mem
  obtain ⟨b0, b1, b2, b3, b4⟩ := s_facts m1
  by_cases hmost : most ≤ (f.all.length : Int)
  ·have HA := hid_ (show appendL d most L r = beginL d L r by unfold appendL; rw [hgl]; show (if _ then _ else _) = _; rw [if_pos hmost])
   have g1 : decide (most ≤ (f.all.length : Int)) = true := decide_eq_true hmost
   have g2 : decide ((f.all.length : Int) ≥ most) = true := decide_eq_true hmost
   clear h0 hgl hmost m1 hml
   go_wp2_with fail
   go_quiet (fail)
   have HBq := hid_ (below_drewN HB3.out nq)
   have Hq := hid_ (H3.out.below (below_drewN (Below.refl w3.heap.size w3) nq))
   clear c0 c1 c2 b0 b1 b2 b3 b4
   generalize w3.drewN nq = wq at *
   have HBe := hid_ (begin_any Ar nr cr r Hq.out HF.out HOk.out (HR.out.tn (Q := fun _ => False) (Tn.of_below HBq.out) (fun _ e => e.elim)) HNr.out)
   go_wp2_with fail
   (with_reducible refine Calls.mono HBe.out ?_)
   rintro e w5 hp
   obtain ⟨rfl, X', hlg, ht, hx1, hx2⟩ := LgPost.after HBq.out hp
   have HP := hid_ (And.intro hlg (And.intro ht (And.intro hx1 hx2)))
   clear hp hlg ht hx1 hx2
   go_wp2_with fail
   go_ret
   exact lgPost_mk2 (by rw [HA.out]; rfl) HP.out.1 (by rw [HA.out]) (by rw [HA.out]) HP.out.2.1 HP.out.2.2.1 HP.out.2.2.2
  ·have HA := hid_ (show appendL d most L r = (appK d (f.num : Nat) (framed r).length, appD d (f.num : Nat) (framed r), if appK d (f.num : Nat) (framed r).length = 0 then L.set (L.length - 1) (putS f (framed r) r) else L) by unfold appendL; rw [hgl]; show (if _ then _ else _) = _; rw [if_neg hmost])
   have g1 : decide (most ≤ (f.all.length : Int)) = false := decide_eq_false hmost
   have g2 : decide ((f.all.length : Int) ≥ most) = false := decide_eq_false (by omega)
   clear h0 hgl hmost m1 hml
   go_wp2_with fail
   go_quiet (fail)
   have HBq := hid_ (below_drewN HB3.out nq)
   have Hq := hid_ (H3.out.below (below_drewN (Below.refl w3.heap.size w3) nq))
   clear c0 c1 c2 b0 b1 b2 b3 b4
   generalize w3.drewN nq = wq at *
   obtain ⟨c0, c1, c2⟩ := l_facts Hq.out.whole
   have hfq : FsIn wq X (P (L.length - 1)) (g (L.length - 1)) f := by rw [← HFe.out HMl.out]; exact Hq.out.fs _ HMl.out
   have HWr := hid_ (write_any X (P (L.length - 1)) (g (L.length - 1)) gd Qd d f none 0 0 [] Ar nr cr r wq hfq Hq.out.dk Hq.out.dx Hq.out.xlt (Hq.out.pd _ HMl.out) (Sl.none _) (HR.out.tn (Q := fun _ => False) (Tn.of_below HBq.out) (fun _ e => e.elim)) HNr.out (by omega) hrb hrr)
   rw [List.nil_append] at HWr
   clear hfq
   go_wp2_with fail
   (with_reducible refine Calls.mono HWr.out ?_)
   rintro e w5 ⟨rfl, Q2, X2, P2, hw⟩
   have HW := hid_ hw
   have hsq := HBq.out.size
   clear hw
   go_wp2_with fail
   go_ret
   have hTn : Tn F wq w5 := HW.out.tn.sub (fun q hq => by
    rcases hq with hq | hq
    ·exact HF.out.p _ HMl.out q hq
    ·exact HF.out.d q hq)
   have hFt : ∀ f', Foot (fun q => F q ∨ wq.heap.size ≤ q) Q2 Pl (updP P (L.length - 1) P2) (L.set (L.length - 1) f') := fun f' => Foot.set ((HF.out.wide (F' := fun q => F q ∨ wq.heap.size ≤ q) (fun q hq => .inl hq)).qd (fun q hq => (HW.out.q q hq).imp (HF.out.d q) id)) (fun q hq => (HW.out.p q hq).imp (HF.out.p _ HMl.out q) id) _ _
   refine LgPost.after HBq.out ?_
   by_cases hk0 : appK d (f.num : Nat) (framed r).length = 0
   ·have hlg := Hq.out.wrote_last HMl.out HW.out
    rw [if_pos hk0] at hlg
    exact lgPost_mk (by rw [HA.out]; rfl) hlg (hFt _) (by rw [HA.out]) (by rw [HA.out]; simp only; rw [if_pos hk0]) hTn HW.out.x HW.out.xx
   ·have hlg := Hq.out.wrote_last HMl.out HW.out
    rw [if_neg hk0] at hlg
    exact lgPost_mk (by rw [HA.out]; rfl) hlg (hFt _) (by rw [HA.out]) (by rw [HA.out]; simp only; rw [if_neg hk0, ← HFe.out HMl.out]; exact List.set_getElem_self HMl.out) hTn HW.out.x HW.out.xx
end
end Wl
end Go.Proofs.YthjhofmjhmnddaaGreat
