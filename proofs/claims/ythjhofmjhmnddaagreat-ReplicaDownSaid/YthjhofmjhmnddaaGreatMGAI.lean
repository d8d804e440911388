/-
  The log with its disk in memory; what it answers without reading: none, last, next.
-/
import Derived.Test.YthjhofmjhmnddaaGreatMGAE
import Derived.Test.YthjhofmjhmnddaaGreatMGAF
import Derived.Test.YthjhofmjhmnddaaGreatMGAH
import Derived.Test.YthjhofmjhmnddaaGreatMGAQ
import Derived.Test.YthjhofmjhmnddaaGreatMGBA
set_option linter.unusedSimpArgs false
set_option linter.unusedVariables false
namespace Go.Proofs.YthjhofmjhmnddaaGreat
open Go.RowKit Fm Dsk
namespace Wl
abbrev ptrV (g : Nat) : Value := .pointer (some ⟨g, 0, none⟩)
def ptrs (g : Nat → Nat) (n : Nat) : List Value := (List.range n).map (fun i => ptrV (g i))
theorem ptrs_length (g : Nat → Nat) (n : Nat) : (ptrs g n).length = n := by simp [ptrs]
theorem ptrs_get (g : Nat → Nat) {n i : Nat} (h : i < n) : (ptrs g n)[i]? = some (ptrV (g i)) := by simp [ptrs, h]
theorem ptrs_succ (g : Nat → Nat) (n : Nat) : ptrs g (n + 1) = ptrs g n ++ [ptrV (g n)] := by simp [ptrs, List.range_succ]
def cellsL (gd : Nat) (most : Int) (Af : Option Addr) (n cf : Nat) : Array Value := #[.pointer (some ⟨gd, 0, none⟩), .int .i64 most, .slice Af n cf]
structure LgIn (w : World) (gl gd : Nat) (Qd X Pl : Nat → Prop) (P : Nat → Nat → Prop) (g : Nat → Nat) (Af : Option Addr) (cf : Nat) (d : DiskD) (most : Int) (L : List FS) : Prop where
 dk : Dk w gd Qd d
 dx : ∀ q, Qd q → X q
 xlt : ∀ q, X q → q < w.heap.size
 whole : Whole w gl 128 (cellsL gd most Af L.length cf)
 row : RowT 134 w Af L.length cf (ptrs g L.length)
 fs : ∀ i (h : i < L.length), FsIn w X (P i) (g i) L[i]
 plg : Pl gl
 pla : ∀ k, blockOf Af = some k → Pl k
 plx : ∀ q, Pl q → X q
 pld : ∀ q, Pl q → ¬ Qd q
 plp : ∀ i, i < L.length → ∀ q, P i q → ¬ Pl q
 pd : ∀ i, i < L.length → ∀ q, P i q → ¬ Qd q
 pp : ∀ i j, i < L.length → j < L.length → i ≠ j → ∀ q, P i q → ¬ P j q
def LgX (w : World) (gl gd : Nat) (X : Nat → Prop) (d : DiskD) (most : Int) (L : List FS) : Prop := ∃ Qd Pl P g Af cf, LgIn w gl gd Qd X Pl P g Af cf d most L
structure Foot (F Qd Pl : Nat → Prop) (P : Nat → Nat → Prop) (L : List FS) : Prop where
 d : ∀ q, Qd q → F q
 l : ∀ q, Pl q → F q
 p : ∀ i, i < L.length → ∀ q, P i q → F q
theorem Foot.wide {F F' Qd Pl : Nat → Prop} {P : Nat → Nat → Prop} {L : List FS} (h : Foot F Qd Pl P L) (k : ∀ q, F q → F' q) : Foot F' Qd Pl P L := ⟨fun q hq => k q (h.d q hq), fun q hq => k q (h.l q hq), fun i hi q hq => k q (h.p i hi q hq)⟩
theorem Foot.qd {F Qd Qd' Pl : Nat → Prop} {P : Nat → Nat → Prop} {L : List FS} (h : Foot F Qd Pl P L) (k : ∀ q, Qd' q → F q) : Foot F Qd' Pl P L := ⟨k, h.l, h.p⟩
theorem LgIn.foot {w : World} {gl gd : Nat} {Qd X Pl : Nat → Prop} {P : Nat → Nat → Prop} {g : Nat → Nat} {Af : Option Addr} {cf : Nat} {d : DiskD} {most : Int} {L : List FS} (h : LgIn w gl gd Qd X Pl P g Af cf d most L) : Foot X Qd Pl P L := ⟨h.dx, h.plx, fun i hi => (h.fs i hi).px⟩
def LgF (w : World) (gl gd : Nat) (X F : Nat → Prop) (d : DiskD) (most : Int) (L : List FS) : Prop := ∃ Qd Pl P g Af cf, LgIn w gl gd Qd X Pl P g Af cf d most L ∧ Foot F Qd Pl P L
theorem LgF.x {w : World} {gl gd : Nat} {X F : Nat → Prop} {d : DiskD} {most : Int} {L : List FS} (h : LgF w gl gd X F d most L) : LgX w gl gd X d most L := by
 obtain ⟨Qd, Pl, P, g, Af, cf, h1, -⟩ := h
 exact ⟨Qd, Pl, P, g, Af, cf, h1⟩
theorem LgX.f {w : World} {gl gd : Nat} {X : Nat → Prop} {d : DiskD} {most : Int} {L : List FS} (h : LgX w gl gd X d most L) : LgF w gl gd X X d most L := by
 obtain ⟨Qd, Pl, P, g, Af, cf, h1⟩ := h
 exact ⟨Qd, Pl, P, g, Af, cf, h1, h1.foot⟩
theorem LgF.wide {w : World} {gl gd : Nat} {X F F' : Nat → Prop} {d : DiskD} {most : Int} {L : List FS} (h : LgF w gl gd X F d most L) (k : ∀ q, F q → F' q) : LgF w gl gd X F' d most L := by
 obtain ⟨Qd, Pl, P, g, Af, cf, h1, h2⟩ := h
 exact ⟨Qd, Pl, P, g, Af, cf, h1, h2.wide k⟩
def growF (F : Nat → Prop) (w w' : World) : Nat → Prop := fun q => F q ∨ (w.heap.size ≤ q ∧ q < w'.heap.size)
def LgPost (w : World) (gl gd : Nat) (X F : Nat → Prop) (v : Value) (d : DiskD) (most : Int) (L : List FS) (e : Ending) (w' : World) : Prop :=
 e = .returned v ∧ ∃ X', LgF w' gl gd X' (growF F w w') d most L ∧ Tn F w w' ∧ (∀ q, X' q → X q ∨ w.heap.size ≤ q) ∧ ∀ q, X q → X' q
theorem LgIn.upper {w w' : World} {gl gd : Nat} {Qd X Pl F : Nat → Prop} {P : Nat → Nat → Prop} {g : Nat → Nat} {Af : Option Addr} {cf : Nat} {d : DiskD} {most : Int} {L : List FS} (h : LgIn w' gl gd Qd X Pl P g Af cf d most L) (k : Foot (fun q => F q ∨ w.heap.size ≤ q) Qd Pl P L) : LgF w' gl gd X (growF F w w') d most L :=
 ⟨Qd, Pl, P, g, Af, cf, h, fun q hq => (k.d q hq).imp id (fun k1 => ⟨k1, h.xlt q (h.dx q hq)⟩), fun q hq => (k.l q hq).imp id (fun k1 => ⟨k1, h.xlt q (h.plx q hq)⟩), fun i hi q hq => (k.p i hi q hq).imp id (fun k1 => ⟨k1, h.xlt q ((h.fs i hi).px q hq)⟩)⟩
theorem LgIn.below {w w' : World} {gl gd : Nat} {Qd X Pl : Nat → Prop} {P : Nat → Nat → Prop} {g : Nat → Nat} {Af : Option Addr} {cf : Nat} {d : DiskD} {most : Int} {L : List FS} (h : LgIn w gl gd Qd X Pl P g Af cf d most L) (k : Below w.heap.size w w') : LgIn w' gl gd Qd X Pl P g Af cf d most L :=
 ⟨h.dk.below k, h.dx, fun q hq => Nat.lt_of_lt_of_le (h.xlt q hq) k.size, h.whole.below k h.whole.lt, h.row.below k, fun i hi => (h.fs i hi).below k, h.plg, h.pla, h.plx, h.pld, h.plp, h.pd, h.pp⟩
theorem LgX.below {w w' : World} {gl gd : Nat} {X : Nat → Prop} {d : DiskD} {most : Int} {L : List FS} (h : LgX w gl gd X d most L) (k : Below w.heap.size w w') : LgX w' gl gd X d most L := by
 obtain ⟨Qd, Pl, P, g, Af, cf, h⟩ := h
 exact ⟨Qd, Pl, P, g, Af, cf, h.below k⟩
theorem LgF.below {w w' : World} {gl gd : Nat} {X F : Nat → Prop} {d : DiskD} {most : Int} {L : List FS} (h : LgF w gl gd X F d most L) (k : Below w.heap.size w w') : LgF w' gl gd X F d most L := by
 obtain ⟨Qd, Pl, P, g, Af, cf, h, h2⟩ := h
 exact ⟨Qd, Pl, P, g, Af, cf, h.below k, h2⟩
theorem LgIn.disk {w w' : World} {gl gd : Nat} {Qd X Pl Qd' : Nat → Prop} {P : Nat → Nat → Prop} {g : Nat → Nat} {Af : Option Addr} {cf : Nat} {d d' : DiskD} {most : Int} {L : List FS} (h : LgIn w gl gd Qd X Pl P g Af cf d most L)
  (hd : Dk w' gd Qd' d') (ht : Tn Qd w w') (hq : ∀ q, Qd' q → Qd q ∨ w.heap.size ≤ q) : LgIn w' gl gd Qd' (fun q => X q ∨ Qd' q) Pl P g Af cf d' most L := by
 have hx : ∀ q, (X q ∨ Qd' q) → X q ∨ w.heap.size ≤ q := fun q hq2 => by
  rcases hq2 with h1 | h1
  ·exact .inl h1
  ·rcases hq q h1 with h2 | h2
   ·exact .inl (h.dx q h2)
   ·exact .inr h2
 have hno : ∀ q, X q → ¬ Qd q → ¬ Qd' q := fun q h1 h2 h3 => by
  rcases hq q h3 with h4 | h4
  ·exact h2 h4
  ·have := h.xlt q h1; omega
 refine ⟨hd, fun q hq2 => .inr hq2, fun q hq2 => ?_, h.whole.tn ht (h.pld gl h.plg), h.row.stands (fun k hk => ht.block k (h.row.blk_lt k hk) (h.pld k (h.pla k hk))), fun i hi => ?_, h.plg, h.pla, fun q hq2 => .inl (h.plx q hq2), fun q hq2 => hno q (h.plx q hq2) (h.pld q hq2), h.plp, fun i hi q hq2 => hno q ((h.fs i hi).px q hq2) (h.pd i hi q hq2), h.pp⟩
 ·rcases hq2 with h1 | h1
  ·exact Nat.lt_of_lt_of_le (h.xlt q h1) ht.size
  ·exact hd.qlt q h1
 ·exact ((h.fs i hi).more hx (fun q hq2 => .inl ((h.fs i hi).px q hq2))).tn ht (h.pd i hi) (fun q hq2 => .inl (.inl (h.dx q hq2)))
theorem l_facts {w : World} {gl gd : Nat} {most : Int} {Af : Option Addr} {n cf : Nat} (h : Whole w gl 128 (cellsL gd most Af n cf)) :
  w.cell? ⟨gl, 0, none⟩ = some (.pointer (some ⟨gd, 0, none⟩)) ∧ w.cell? ⟨gl, 1, none⟩ = some (.int .i64 most) ∧ w.cell? ⟨gl, 2, none⟩ = some (.slice Af n cf) := ⟨h.cell 0 _ rfl, h.cell 1 _ rfl, h.cell 2 _ rfl⟩
section
variable {w : World} {gl gd : Nat} {Qd X Pl : Nat → Prop} {P : Nat → Nat → Prop} {g : Nat → Nat} {Af : Option Addr} {cf : Nat} {d : DiskD} {most : Int} {L : List FS}
set_option maxHeartbeats 2000000 in
theorem none_any (h : LgIn w gl gd Qd X Pl P g Af cf d most L) : Calls Tryz.prog 61 #[.pointer (some ⟨gl, 0, none⟩)] w (fun e w' => e = .returned (.bool false) ∧ w = w') := by
 obtain ⟨c0, -, -⟩ := l_facts h.whole
 clear h
 go_enter Tryz.func61, Tryz.ntmps61
 go_wp2_with fail
 go_ret
 exact ⟨rfl, rfl⟩
def lastP (g : Nat → Nat) (n : Nat) : Option Addr := if n = 0 then none else some ⟨g (n - 1), 0, none⟩
theorem row_at (h : LgIn w gl gd Qd X Pl P g Af cf d most L) {i : Nat} (hi : i < L.length) : ∃ b off, Af = some ⟨b, off, none⟩ ∧ w.cell? ⟨b, off + i, none⟩ = some (ptrV (g i)) := by
 have hne : ptrs g L.length ≠ [] := by
  intro e
  have := congrArg List.length e
  rw [ptrs_length] at this
  simp at this
  rw [this] at hi
  simp at hi
 obtain ⟨b, off, e, hc⟩ := h.row.holds hne
 exact ⟨b, off, e, hc i _ (ptrs_get g hi)⟩
set_option maxHeartbeats 4000000 in
theorem last_any (h : LgIn w gl gd Qd X Pl P g Af cf d most L) : Calls Tryz.prog 104 #[.pointer (some ⟨gl, 0, none⟩)] w (fun e w' => e = .returned (.pointer (lastP g L.length)) ∧ ∃ q, w' = w.drewN q) := by
 obtain ⟨c0, c1, c2⟩ := l_facts h.whole
 have hmx := h.row.2.2.1
 have hcp := h.row.2.1
 rcases Nat.eq_zero_or_pos L.length with h0 | h0
 ·have HL := hid_ (show lastP g L.length = none by unfold lastP; rw [if_pos h0])
  rw [h0] at c2
  clear h hmx hcp h0
  go_enter Tryz.func104, Tryz.ntmps104
  go_wp2_with fail
  go_ret
  exact ⟨by rw [HL.out]; rfl, 0, rfl⟩
 ·obtain ⟨m, hm⟩ : ∃ m, L.length = m + 1 := ⟨L.length - 1, by omega⟩
  have HL := hid_ (show lastP g L.length = some ⟨g m, 0, none⟩ by unfold lastP; rw [hm, if_neg (by omega), Nat.add_sub_cancel])
  obtain ⟨b, off, rfl, hc⟩ := row_at h (i := m) (by omega)
  rw [hm] at c2 hcp
  have e1 : ((m : Int) + 1 == 0) = false := by rw [beq_eq_false_iff_ne]; omega
  have e2 : (((m + 1 : Nat) : Int) == 0) = false := by rw [beq_eq_false_iff_ne]; omega
  have hwp : IntKind.i64.wrap (m : Int) = (m : Int) := IntWalk.i64_in _ (by omega)
  have n1 : (m : Int) < (m : Int) + 1 := by omega
  have n2 : (0 : Int) ≤ (m : Int) := by omega
  clear h h0 hm
  go_enter Tryz.func104, Tryz.ntmps104
  go_wp2_with fail
  go_quiet (fail)
  go_wp2_with fail
  go_ret
  exact ⟨by rw [HL.out]; rfl, nq, rfl⟩
def nextL (L : List FS) : Nat := match L.getLast? with
 | some f => nextF f
 | none => 0
set_option maxHeartbeats 4000000 in
theorem next_any (h : LgIn w gl gd Qd X Pl P g Af cf d most L) (hn : nextL L < 18446744073709551616) (hr : ∀ f ∈ L, f.recs.length ≤ 9223372036854775807) : Calls Tryz.prog 75 #[.pointer (some ⟨gl, 0, none⟩)] w (fun e w' => e = .returned (.int .u64 (nextL L : Nat)) ∧ Below w.heap.size w w') := by
 have HLa := hid_ (last_any h)
 rcases Nat.eq_zero_or_pos L.length with h0 | h0
 ·have hl0 : L = [] := List.eq_nil_of_length_eq_zero h0
  have HN := hid_ (show nextL L = 0 by rw [hl0]; rfl)
  rw [show lastP g L.length = none by unfold lastP; rw [if_pos h0]] at HLa
  clear h h0 hl0 hn hr
  go_enter Tryz.func75, Tryz.ntmps75
  go_wp2_with fail
  (with_reducible refine Calls.mono HLa.out ?_)
  rintro e w1 ⟨rfl, q, rfl⟩
  go_wp2_with fail
  go_ret
  exact ⟨by rw [HN.out]; rfl, below_drewN (Below.refl _ _) q⟩
 ·obtain ⟨m, hm⟩ : ∃ m, L.length = m + 1 := ⟨L.length - 1, by omega⟩
  have hml : m < L.length := by omega
  have HN := hid_ (show nextL L = nextF L[m] by
   unfold nextL
   rw [List.getLast?_eq_getElem?, hm, Nat.add_sub_cancel, List.getElem?_eq_getElem hml])
  rw [show lastP g L.length = some ⟨g m, 0, none⟩ by unfold lastP; rw [hm, if_neg (by omega), Nat.add_sub_cancel]] at HLa
  have HF := hid_ (fun (W : World) (hb : Below w.heap.size w W) => fnext_any X (P m) (g m) L[m] W ((h.fs m hml).below hb) (by rw [← HN.out]; exact hn) (hr _ (List.getElem_mem hml)))
  clear h h0 hn hr
  go_enter Tryz.func75, Tryz.ntmps75
  go_wp2_with fail
  (with_reducible refine Calls.mono HLa.out ?_)
  rintro e w1 ⟨rfl, q, rfl⟩
  have HB1 := hid_ (below_drewN (Below.refl w.heap.size w) q)
  go_wp2_with fail
  (with_reducible refine Calls.mono (HF.out _ HB1.out) ?_)
  rintro e w2 ⟨rfl, q2, rfl⟩
  have HB2 := hid_ (below_drewN HB1.out q2)
  go_wp2_with fail
  go_ret
  exact ⟨by rw [HN.out]; rfl, by first | exact HB2.out | exact below_drewN (Below.refl _ _) _⟩
end
end Wl
end Go.Proofs.YthjhofmjhmnddaaGreat
/-
 Looking whether the log still lies on its disk as it is known.
-/
namespace Go.Proofs.YthjhofmjhmnddaaGreat
open Go.RowKit Fm Dsk
namespace Wl
set_option maxHeartbeats 1000000 in
theorem equal_yes (A1 A2 : Option Addr) (n1 c1 n2 c2 : Nat) (l : List UInt8) (w : World) (h1 : Sl w A1 n1 c1 l) (h2 : Sl w A2 n2 c2 l) :
  Calls Tryz.prog 128 #[.slice A1 n1 c1, .slice A2 n2 c2] w fun e w' => e = .returned (.bool true) ∧ w = w' := by
 have e1 := sl_string h1
 have e2 := sl_string h2
 generalize strOf l = s at *
 clear h1 h2
 go_enter Tryz.func128, Tryz.ntmps128
 go_wp2_with fail
 go_ret
 exact ⟨by simp, rfl⟩
def KnownD (d : DiskD) (L : List FS) : Prop := d.down = false → (filesF d.F).length = L.length ∧ ∀ f, L.getLast? = some f → ∃ ff, d.F f.num = some ⟨f.all, ff⟩
abbrev OneC (w1 : World) (g : Nat) (o : Nat) (v : Value) (W : World) : Prop := Below w1.heap.size w1 W ∧ W.cell? ⟨g, o, none⟩ = some v
abbrev TwoC (w1 : World) (g o : Nat) (v : Value) (g' o' : Nat) (v' : Value) (W : World) : Prop := Below w1.heap.size w1 W ∧ W.cell? ⟨g, o, none⟩ = some v ∧ W.cell? ⟨g', o', none⟩ = some v'
theorem twoC_keep {w1 W W' : World} {g o g' o' : Nat} {v v' : Value} (h : TwoC w1 g o v g' o' v' W) (hb : Below W.heap.size W W') : TwoC w1 g o v g' o' v' W' := ⟨h.1.trans (hb.mono h.1.size), by rw [hb.cell (lt_of_cell h.2.1)]; exact h.2.1, by rw [hb.cell (lt_of_cell h.2.2)]; exact h.2.2⟩
section
variable {w : World} {gl gd : Nat} {Qd X Pl : Nat → Prop} {P : Nat → Nat → Prop} {g : Nat → Nat} {Af : Option Addr} {cf : Nat} {d : DiskD} {most : Int} {L : List FS}
set_option maxRecDepth 20000 in
set_option maxHeartbeats 8000000 in
theorem known_any (h : LgIn w gl gd Qd X Pl P g Af cf d most L) (hk : KnownD d L) (hup : d.down = false) (hnum : ∀ f ∈ L, f.num < 64) : Calls Tryz.prog 92 #[.pointer (some ⟨gl, 0, none⟩)] w (fun e w' => e = .returned (.bool true) ∧ Below w.heap.size w w') := by
 obtain ⟨hlen, hlast⟩ := hk hup
 obtain ⟨c0, c1, c2⟩ := l_facts h.whole
 have H := hid_ h
 have HFi := hid_ (fun (W : World) (hb : Below w.heap.size w W) => files_any gd Qd d W (h.dk.below hb))
 rw [show (FilesPost d.F) = FilesPost d.F from rfl] at HFi
 unfold FilesPost at HFi
 rw [hlen] at HFi
 have S0 : TwoC w gl 0 (.pointer (some ⟨gd, 0, none⟩)) gl 2 (.slice Af L.length cf) w := ⟨Below.refl _ _, c0, c2⟩
 have e1 : ((L.length : Int) != (L.length : Int)) = false := by simp
 have e2 : (L.length != L.length) = false := by simp
 have HLa := hid_ (fun (W : World) (hb : Below w.heap.size w W) => last_any (h.below hb))
 have HLast := hid_ hlast
 have HNum := hid_ hnum
 clear c0 c1 c2 hk hlast hnum h hlen
 go_enter Tryz.func92, Tryz.ntmps92
 go_wp2_with fail
 go_region_held3 (TwoC w gl 0 (.pointer (some ⟨gd, 0, none⟩)) gl 2 (.slice Af L.length cf)) (first | assumption | (refine twoC_keep (by assumption) (by assumption)) | (refine twoC_keep (by assumption) (Below.drew (Below.refl _ _))))
  (first | (go_at_call 53; (with_reducible refine Calls.mono (HFi.out _ (And.left (by assumption))) ?_); rintro e w' ⟨A1, c1, rfl, ho', hb'⟩) | fail)
 have hS : TwoC w gl 0 (.pointer (some ⟨gd, 0, none⟩)) gl 2 (.slice Af L.length cf) w' := by assumption
 obtain ⟨w1, hw1⟩ : ∃ w1 : World, w1 = w' := ⟨_, rfl⟩
 subst hw1
 have HB1 := hid_ hS.1
 clear ho' hb' hS
 go_wp2_with fail
 (with_reducible refine Calls.mono (HLa.out _ HB1.out) ?_)
 rintro e w2 ⟨rfl, q, rfl⟩
 have HB2 := hid_ (below_drewN HB1.out q)
 generalize w1.drewN q = w2 at *
 rcases Nat.eq_zero_or_pos L.length with h0 | h0
 ·rw [show lastP g L.length = none by unfold lastP; rw [if_pos h0]]
  go_wp2_with fail
  go_ret
  exact ⟨rfl, HB2.out⟩
 ·obtain ⟨m, hm⟩ : ∃ m, L.length = m + 1 := ⟨L.length - 1, by omega⟩
  have hml : m < L.length := by omega
  rw [show lastP g L.length = some ⟨g m, 0, none⟩ by unfold lastP; rw [hm, if_neg (by omega), Nat.add_sub_cancel]]
  have hgl : L.getLast? = some L[m] := by rw [List.getLast?_eq_getElem?, hm, Nat.add_sub_cancel, List.getElem?_eq_getElem hml]
  obtain ⟨ff, hff⟩ := HLast.out _ hgl
  have hn64 := HNum.out _ (List.getElem_mem hml)
  have H2 := hid_ (H.out.below HB2.out)
  have HF := hid_ (H2.out.fs m hml)
  have hk0 : askK d (L[m].num : Nat) = 0 := by
   unfold askK
   rw [hup]
   simp only [Bool.false_eq_true, if_false]
   rw [if_pos ⟨by omega, by rw [show ((L[m].num : Nat) : Int).toNat = L[m].num by omega, hff]; rfl⟩]
  have hrb : readB d (L[m].num : Nat) = L[m].all := by
   unfold readB
   rw [if_pos hk0, show ((L[m].num : Nat) : Int).toNat = L[m].num by omega, fileAt_some hff]
  have HRd := hid_ (fun (W : World) (hb : Below w2.heap.size w2 W) => read_any (L[m].num : Nat) (by omega) (by omega) gd Qd d W (H2.out.dk.below hb))
  rw [hk0, hrb] at HRd
  generalize L[m] = f at *
  clear hff hn64 hk0 hrb hgl hup
  obtain ⟨Ar, cr, Aa, ca, m1, m2, m3, m4, m5⟩ := HF.out.mem
  obtain ⟨b0, b1, b2, b3, b4⟩ := s_facts m1
  obtain ⟨c0, c1', c2⟩ := l_facts H2.out.whole
  have S1 : TwoC w2 gl 0 (.pointer (some ⟨gd, 0, none⟩)) (g m) 0 (.int .i64 (f.num : Nat)) w2 := ⟨Below.refl _ _, c0, b0⟩
  have HAll := hid_ (fun (W : World) (hb : Below w2.heap.size w2 W) => And.intro (m3.sl.below hb) ((hb.cell (p := ⟨g m, 3, none⟩) m1.lt).trans b3))
  have HEq := hid_ (fun (A : Option Addr) (c : Nat) (W : World) (h1 : Sl W A f.all.length c f.all) (h2 : Below w2.heap.size w2 W) => equal_yes A Aa f.all.length c f.all.length ca f.all W h1 (HAll.out W h2).1)
  unfold RdKPost at HRd
  clear m1 m2 m3 m4 m5 b0 b1 b2 b3 b4 c0 c1' c2 h0
  go_wp2_with fail
  go_region_held3 (TwoC w2 gl 0 (.pointer (some ⟨gd, 0, none⟩)) (g m) 0 (.int .i64 (f.num : Nat))) (first | assumption | (refine twoC_keep (by assumption) (by assumption)) | (refine twoC_keep (by assumption) (Below.drew (Below.refl _ _))))
   (first | (go_at_call 58; (with_reducible refine Calls.mono (HRd.out _ (And.left (by assumption))) ?_); rintro e w' ⟨A3, c3, rfl, ho', hb'⟩) | fail)
  have hS2 : TwoC w2 gl 0 (.pointer (some ⟨gd, 0, none⟩)) (g m) 0 (.int .i64 (f.num : Nat)) w' := by assumption
  have b3' := (HAll.out w' hS2.1).2
  have HE := hid_ (HEq.out A3 c3 w' ho'.sl hS2.1)
  have HB3 := hid_ (HB2.out.trans (hS2.1.mono HB2.out.size))
  clear ho' hb' hS2
  go_wp2_with fail
  (with_reducible refine Calls.mono HE.out ?_)
  rintro e w4 ⟨rfl, rfl⟩
  go_wp2_with fail
  go_ret
  exact ⟨rfl, HB3.out⟩
end
end Wl
end Go.Proofs.YthjhofmjhmnddaaGreat
/-
 What a known log answers: look, Files, First, Records.
-/
namespace Go.Proofs.YthjhofmjhmnddaaGreat
open Go.RowKit Fm Dsk
namespace Wl
section
variable {w : World} {gl gd : Nat} {Qd X Pl : Nat → Prop} {P : Nat → Nat → Prop} {g : Nat → Nat} {Af : Option Addr} {cf : Nat} {d : DiskD} {most : Int} {L : List FS}
set_option maxHeartbeats 4000000 in
theorem look_any (h : LgIn w gl gd Qd X Pl P g Af cf d most L) (hk : KnownD d L) (hnum : ∀ f ∈ L, f.num < 64) : Calls Tryz.prog 62 #[.pointer (some ⟨gl, 0, none⟩)] w (fun e w' => e = .returned (.tuple #[]) ∧ Below w.heap.size w w') := by
 obtain ⟨c0, c1, c2⟩ := l_facts h.whole
 have HDn := hid_ (down_any gd Qd d w h.dk)
 cases hd : d.down
 ·have HKn := hid_ (known_any h hk hd hnum)
  rw [hd] at HDn
  clear h hk hnum hd
  go_enter Tryz.func62, Tryz.ntmps62
  go_wp2_with fail
  (with_reducible refine Calls.mono HDn.out ?_)
  rintro e w1 ⟨rfl, rfl⟩
  go_wp2_with fail
  (with_reducible refine Calls.mono HKn.out ?_)
  rintro e w2 ⟨rfl, hb⟩
  have HB := hid_ hb
  clear hb
  go_wp2_with fail
  go_end0
  exact ⟨rfl, HB.out⟩
 ·rw [hd] at HDn
  clear h hk hnum hd
  go_enter Tryz.func62, Tryz.ntmps62
  go_wp2_with fail
  (with_reducible refine Calls.mono HDn.out ?_)
  rintro e w1 ⟨rfl, rfl⟩
  go_wp2_with fail
  go_end0
  exact ⟨rfl, Below.refl _ _⟩
def firstL (L : List FS) : Nat := match L with
 | [] => 0
 | f :: _ => f.first
end
end Wl
end Go.Proofs.YthjhofmjhmnddaaGreat
/-
 All the records of a log.
-/
namespace Go.Proofs.YthjhofmjhmnddaaGreat
open Go.RowKit Fm Dsk
namespace Wl
def recsL (L : List FS) : List (List UInt8) := (L.map FS.recs).flatten
theorem recsL_take {L : List FS} {k : Nat} (hk : k < L.length) : recsL (L.take (k + 1)) = recsL (L.take k) ++ L[k].recs := by
 unfold recsL
 rw [List.take_succ_eq_append_getElem hk, List.map_append, List.flatten_append]
 simp
theorem recsL_len_le {L : List FS} {k : Nat} (hk : k < L.length) : (recsL (L.take k)).length + L[k].recs.length ≤ (recsL L).length := by
 have h1 : recsL L = recsL (L.take (k + 1)) ++ recsL (L.drop (k + 1)) := by
  unfold recsL
  rw [← List.flatten_append, ← List.map_append, List.take_append_drop]
 rw [h1, List.length_append, recsL_take hk, List.length_append]
 omega
theorem RecsT.at_ {w : World} {X : Nat → Prop} {A : Option Addr} {n c : Nat} {ls : List (List UInt8)} (h : RecsT w X A n c ls) {k : Nat} (hk : k < ls.length) :
  ∃ b off A' n' c', A = some ⟨b, off, .none⟩ ∧ w.cell? ⟨b, off + k, .none⟩ = some (.slice A' n' c') ∧ Sl w A' n' c' ls[k] := by
 obtain ⟨b, off, A', n', c', e, h1, h2, _⟩ := h.sls.at_ hk
 exact ⟨b, off, A', n', c', e, h1, h2⟩
def RecsPost (w : World) (ls : List (List UInt8)) (e : Ending) (w' : World) : Prop := ∃ A c, e = .returned (.slice A ls.length c) ∧ OwnS w.heap.size w' A ls.length c ls ∧ Below w.heap.size w w'
section
variable {w : World} {gl gd : Nat} {Qd X Pl : Nat → Prop} {P : Nat → Nat → Prop} {g : Nat → Nat} {Af : Option Addr} {cf : Nat} {d : DiskD} {most : Int} {L : List FS}
set_option maxRecDepth 20000 in
set_option maxHeartbeats 8000000 in
theorem records_any (h : LgIn w gl gd Qd X Pl P g Af cf d most L) (hk : KnownD d L) (hnum : ∀ f ∈ L, f.num < 64) (hr : (recsL L).length ≤ 1000000) (hb9 : ∀ f ∈ L, ∀ r ∈ f.recs, r.length ≤ 140737488355328) : Calls Tryz.prog 32 #[.pointer (some ⟨gl, 0, none⟩)] w (RecsPost w (recsL L)) := by
 have HN := hid_ (none_any h)
 have HLk := hid_ (look_any h hk hnum)
 have H := hid_ h
 have HR := hid_ hr
 have H9 := hid_ hb9
 have hmx := h.row.2.2.1
 have hcp := h.row.2.1
 clear h hk hnum hr hb9
 go_enter Tryz.func32, Tryz.ntmps32
 go_wp2_with fail
 (with_reducible refine Calls.mono HN.out ?_)
 rintro e w1 ⟨rfl, rfl⟩
 go_wp2_with fail
 (with_reducible refine Calls.mono HLk.out ?_)
 rintro e w2 ⟨rfl, hb⟩
 have H2 := hid_ (H.out.below hb)
 obtain ⟨c0, c1, c2⟩ := l_facts H2.out.whole
 have HB2 := hid_ hb
 clear hb
 go_wp2_with fail
 go_loopw [3, 17] (fun vo vi wr => ∃ (i m : Nat) (A : Option Addr) (c : Nat), i ≤ L.length ∧ vi = .int .i64 (i : Nat) ∧ vo = .slice A m c ∧ m = (recsL (L.take i)).length ∧ Hid (OwnS w.heap.size wr A m c (recsL (L.take i))) ∧ Hid (Below w.heap.size w wr)) (fun _ vi _ => L.length - (intOf vi).toNat)
 case atStart => exact ⟨0, 0, none, 0, Nat.zero_le _, rfl, rfl, rfl, hid_ (OwnS.none _ _), HB2⟩
 case round =>
  obtain ⟨i, m, A, c, hi, rfl, rfl, hm, HO, HB⟩ := hrel
  by_cases hlt : i < L.length
  ·have Hr := hid_ (H.out.below HB.out)
   obtain ⟨b, off, hAf, hc⟩ := row_at Hr.out hlt
   subst hAf
   have HT := hid_ (recsL_take hlt)
   have HLe := hid_ (recsL_len_le hlt)
   have HM := hid_ (H9.out _ (List.getElem_mem hlt))
   obtain ⟨Ar, cr, Aa, ca, m1, m2, -, -, -⟩ := (H.out.fs i hlt).mem
   obtain ⟨-, -, b2', -, -⟩ := s_facts m1
   have b2 := (HB.out.cell (p := ⟨g i, 2, none⟩) m1.lt).trans b2'
   have HRc := hid_ (fun (W : World) (hb : Below w.heap.size w W) => m2.sls.below hb)
   have hrmx := m2.sls.max
   have hrcp := m2.sls.cap
   have x1 : (i : Int) < (L.length : Int) := by omega
   have x2 : (0 : Int) ≤ (i : Int) := by omega
   have HK := hid_ hlt
   have HMm := hid_ hm
   generalize hf : L[i] = f at *
   clear m1 m2 hf hm b2'
   go_wp2_with fail
   go_loopw [3, 26] (fun vo vj wr => ∃ (j m' : Nat) (A : Option Addr) (c : Nat), j ≤ f.recs.length ∧ vj = .int .i64 (j : Nat) ∧ vo = .slice A m' c ∧ m' ≤ m + j ∧ m + j ≤ m' ∧ Hid (OwnS w.heap.size wr A m' c (recsL (L.take i) ++ f.recs.take j)) ∧ Hid (Below w.heap.size w wr)) (fun _ vj _ => f.recs.length - (intOf vj).toNat)
   case atStart => exact ⟨0, m, A, c, Nat.zero_le _, rfl, rfl, by omega, by omega, hid_ (by rw [List.take_zero, List.append_nil]; exact HO.out), HB⟩
   case round =>
    obtain ⟨j, m', A', c', hj, rfl, rfl, hm1, hm2, HOj, HBj⟩ := hrel
    by_cases hjt : j < f.recs.length
    ·obtain ⟨b', off', A3, n3, c3, hAr, hcell, hsl, -⟩ := (HRc.out wr HBj.out).at_ hjt
     subst hAr
     have HTk := hid_ (show recsL (L.take i) ++ f.recs.take j ++ [f.recs[j]] = recsL (L.take i) ++ f.recs.take (j + 1) by rw [List.append_assoc, List.take_succ_eq_append_getElem hjt])
     have Hcl := hid_ (clone_any A3 n3 c3 _ wr hsl (by rw [← hsl.len]; exact HM.out _ (List.getElem_mem hjt)))
     have y1 : (j : Int) < (f.recs.length : Int) := by omega
     have y2 : (0 : Int) ≤ (j : Int) := by omega
     have HJ := hid_ hjt
     generalize f.recs[j] = r at *
     clear hjt hsl
     go_wp2_with (first
      | (go_at_call 63; (with_reducible refine Calls.mono Hcl.out ?_); rintro e w3 ⟨A5, c5, rfl, ho', hb'⟩; have Ho3 := hid_ ho'; have Ho2 := hid_ (HOj.out.later hb'); have Hb2 := hid_ (HBj.out.trans (hb'.mono HBj.out.size)); have Hsz := hid_ (fun k hk => (HOj.out.from_ k hk).2); clear ho' hb')
      | (at_builtin; refine wpList_slices rfl (.tmp 30) (.tmp 33) rfl w.heap.size A' m' c' _ rfl (Ho2.out.later ((Below.refl _ _).alloc (Nat.le_refl _) _)) _ 1 1 [r] rfl (one_off _ Ho3.out.sl (Ho3.out.away _ Hsz.out)) (m' + 1) _ rfl HTk.out (by have := HLe.out; have := HR.out; have := HMm.out; omega) (by have := Hb2.out.size; simp; omega) ?_; intro A4 c4 w4 ho' hb' hg'; have Ho4 := hid_ ho'; have Hb4 := hid_ ((Hb2.out.alloc Hb2.out.size _).trans hb'); clear ho' hb' hg')
      | fail)
     go_roundw
     case rel => exact ⟨j + 1, m' + 1, A4, c4, by have := HJ.out; omega, by go_num, rfl, by omega, by omega, Ho4, Hb4⟩
     case measure => have := HJ.out; simp [intOf]; omega
    ·obtain rfl : j = f.recs.length := by omega
     have HO2 := hid_ (show OwnS w.heap.size wr A' m' c' (recsL (L.take (i + 1))) by have := HOj.out; rwa [List.take_length, ← HT.out] at this)
     clear hjt
     go_wp2_with fail
     go_roundw
     case rel => exact ⟨i + 1, m', A', c', by have := HK.out; omega, by go_num, rfl, by rw [HT.out, List.length_append]; have := HMm.out; omega, HO2, HBj⟩
     case measure => have := HK.out; simp [intOf]; omega
  ·obtain rfl : i = L.length := by omega
   have HO2 := hid_ (show OwnS w.heap.size wr A m c (recsL L) by have := HO.out; rwa [List.take_of_length_le (Nat.le_refl _)] at this)
   have hm2 : m = (recsL L).length := by rw [hm, List.take_of_length_le (Nat.le_refl _)]
   subst hm2
   clear hlt
   go_wp2_with fail
   go_ret
   exact ⟨A, c, rfl, HO2.out, HB.out⟩
end
end Wl
end Go.Proofs.YthjhofmjhmnddaaGreat
/-
 All the records of a log, each in a block of its own.
-/
namespace Go.Proofs.YthjhofmjhmnddaaGreat
open Go.RowKit Fm Dsk
namespace Wl
def RecO (B : Nat) (w : World) (A : Option Addr) (n c : Nat) (ls : List (List UInt8)) : Prop := RecsT w (fun q => q < B ∨ blockOf A = some q) A n c ls ∧ ∀ k, blockOf A = some k → B ≤ k
theorem RecO.none (B : Nat) (w : World) : RecO B w .none 0 0 [] := ⟨RecsT.none _ _, fun k hk => by cases hk⟩
theorem RecO.later {B : Nat} {w w' : World} {A : Option Addr} {n c : Nat} {ls : List (List UInt8)} (h : RecO B w A n c ls) (b : Below w.heap.size w w') : RecO B w' A n c ls :=
 ⟨h.1.tn (Q := fun _ => False) (Tn.of_below b) (fun _ _ e => e) (fun _ e => e.elim), h.2⟩
theorem RecO.tn {B : Nat} {w w' : World} {A : Option Addr} {n c : Nat} {ls : List (List UInt8)} {Q : Nat → Prop} (h : RecO B w A n c ls) (t : Tn Q w w') (hq : ∀ q, Q q → q < B) : RecO B w' A n c ls :=
 ⟨h.1.tn t (fun b hb hq2 => by have := h.2 b hb; have := hq b hq2; omega) (fun q hq2 => .inl (.inl (hq q hq2))), h.2⟩
def RecoPost (w : World) (ls : List (List UInt8)) (e : Ending) (w' : World) : Prop := ∃ A c, e = .returned (.slice A ls.length c) ∧ RecO w.heap.size w' A ls.length c ls ∧ Below w.heap.size w w'
section
variable {w : World} {gl gd : Nat} {Qd X Pl : Nat → Prop} {P : Nat → Nat → Prop} {g : Nat → Nat} {Af : Option Addr} {cf : Nat} {d : DiskD} {most : Int} {L : List FS}
end
end Wl
end Go.Proofs.YthjhofmjhmnddaaGreat
