/-
  What the program's reader answers, and what it leaves.
-/
import Derived.Test.YtnpbokbfkdncmaaGreatZGA
import Derived.Test.YtnpbokbfkdncmaaGreatZGE
import Derived.Test.YtnpbokbfkdncmaaGreatZGH
import Derived.Test.YtnpbokbfkdncmaaGreatZGK
import Derived.Test.YtnpbokbfkdncmaaGreatZGL
import Derived.Deep.RegionLaw
import Derived.BigQuiet
namespace Go.Proofs.YtnpbokbfkdncmaaGreat
set_option linter.unusedSimpArgs false
set_option linter.unusedVariables false
open Go.RowKit Ru

/-- Block g is a reader to which these bytes are left; they lie in no block of Q. -/
def Rd (w : World) (g : Nat) (Q : Nat → Prop) (l : List UInt8) : Prop := ∃ A n c, Whole w g 91 #[.slice A n c] ∧ Sl w A n c l ∧ ∀ a, A = some a → l ≠ [] → a.block ≠ g ∧ ¬ Q a.block
theorem Rd.lt {w : World} {g : Nat} {Q : Nat → Prop} {l : List UInt8} (h : Rd w g Q l) : g < w.heap.size := by
  obtain ⟨A, n, c, h, _⟩ := h
  exact h.lt
theorem Rd.sub {w : World} {g : Nat} {Q Q' : Nat → Prop} {l : List UInt8} (h : Rd w g Q l) (hq : ∀ q, Q' q → Q q) : Rd w g Q' l := by
  obtain ⟨A, n, c, h1, h2, h3⟩ := h
  exact ⟨A, n, c, h1, h2, fun a e hne => ⟨(h3 a e hne).1, fun hq' => (h3 a e hne).2 (hq _ hq')⟩⟩
/-- .. is read from: that block is written, new ones may come. -/
def RdPost (w : World) (g : Nat) (Q : Nat → Prop) (v : Value) (l : List UInt8) (e : Ending) (w' : World) : Prop := e = .returned v ∧ Rd w' g Q l ∧ w.grownBy w' (some g)
theorem rdPost_mk {w w' : World} {g : Nat} {Q : Nat → Prop} {v v' : Value} {l l' : List UInt8} (e : v' = v) (h : Rd w' g Q l') (el : l' = l) (hg : w.grownBy w' (some g)) : RdPost w g Q v l (.returned v') w' := ⟨by rw [e], el ▸ h, hg⟩
theorem grown_refl (w : World) (row : Option Nat) : w.grownBy w row := ⟨rfl, rfl, rfl, Nat.le_refl _, fun _ _ _ => rfl⟩
theorem grown_trans {a b c : World} {row : Option Nat} (h : a.grownBy b row) (k : b.grownBy c row) : a.grownBy c row :=
  ⟨k.os.trans h.os, k.tape.trans h.tape, k.output.trans h.output, Nat.le_trans h.size k.size, fun i hi hne => (k.block i (Nat.lt_of_lt_of_le hi h.size) hne).trans (h.block i hi hne)⟩
theorem grown_set (w : World) (g o : Nat) (v : Value) : w.grownBy (w.setCell ⟨g, o, none⟩ v) (some g) :=
  ⟨rfl, rfl, rfl, by simp, fun i _ hne => Below.heap_setCell w _ v i (fun e => hne (by rw [e]))⟩
/-- A store into a block that came later. -/
theorem grown_new {a w : World} {row : Option Nat} (h : a.grownBy w row) {g : Nat} (hg : a.heap.size ≤ g) (o : Nat) (v : Value) : a.grownBy (w.setCell ⟨g, o, none⟩ v) row :=
  ⟨h.os, h.tape, h.output, by simpa using h.size, fun i hi hne => (Below.heap_setCell w _ v i (by show i ≠ g; omega)).trans (h.block i hi hne)⟩
theorem grown_alloc {a w : World} {row : Option Nat} (h : a.grownBy w row) (o : Obj) : a.grownBy (w.alloc o) row :=
  ⟨h.os, h.tape, h.output, by have := h.size; simp; omega, fun i hi hne => (Below.heap_alloc w o i (by have := h.size; omega)).trans (h.block i hi hne)⟩
theorem grown_drew {a w : World} {row : Option Nat} (h : a.grownBy w row) : a.grownBy w.drew row := ⟨h.os, h.tape, h.output, h.size, h.block⟩
theorem grown_below {B : Nat} {w w' : World} (h : Below B w w') (hB : w.heap.size ≤ B) (row : Option Nat) : w.grownBy w' row :=
  ⟨h.os, h.tape, h.output, h.size, fun i hi _ => h.block i (by omega)⟩
theorem below_grown_ {B g : Nat} {a w w' : World} (h : Below B a w) (hg : w.grownBy w' (some g)) (hB : B ≤ g) (hB2 : B ≤ w.heap.size) : Below B a w' :=
  ⟨hg.os.trans h.os, hg.tape.trans h.tape, hg.output.trans h.output, Nat.le_trans h.size hg.size, fun i hi => (hg.block i (by omega) (fun e => by injection e with e; omega)).trans (h.block i hi)⟩
/-- The reader stands where another block is written. -/
theorem Rd.grown {w w' : World} {g : Nat} {Q : Nat → Prop} {l : List UInt8} {row : Option Nat} (h : Rd w g Q l) (hg : w.grownBy w' row) (hne : some g ≠ row) (hr : ∀ q, row = some q → Q q) : Rd w' g Q l := by
  obtain ⟨A, n, c, h1, h2, h3⟩ := h
  refine ⟨A, n, c, h1.grown hg (Ne.symm hne), ⟨?_, h2.len, h2.cap, h2.max, h2.nil⟩, h3⟩
  intro hne2
  obtain ⟨b, off, e, hc⟩ := h2.holds hne2
  exact ⟨b, off, e, fun k u hu => hg.cell (hc k u hu) (fun e2 => (h3 ⟨b, off, Option.none⟩ e (by rintro rfl; exact hne2 rfl)).2 (hr _ e2.symm))⟩
theorem Rd.below {w w' : World} {g : Nat} {Q : Nat → Prop} {l : List UInt8} (h : Rd w g Q l) (hb : Below w.heap.size w w') : Rd w' g Q l :=
  h.grown (grown_below hb (Nat.le_refl _) none) (by intro e; cases e) (fun _ e => by cases e)
theorem Rd.alloc {w : World} {g : Nat} {Q : Nat → Prop} {l : List UInt8} (h : Rd w g Q l) (o : Obj) : Rd (w.alloc o) g Q l := h.below ((Below.refl _ _).alloc (Nat.le_refl _) _)
theorem Rd.drew {w : World} {g : Nat} {Q : Nat → Prop} {l : List UInt8} (h : Rd w g Q l) : Rd w.drew g Q l := h.below (Below.drew (Below.refl _ _))
/-- A new block holds none of the bytes that are left. -/
theorem Rd.bar {w : World} {g : Nat} {Q : Nat → Prop} {l : List UInt8} (h : Rd w g Q l) (o : Obj) (G : Nat) (hG : G = w.heap.size) : Rd (w.alloc o) g (fun q => Q q ∨ q = G) l := by
  subst hG
  obtain ⟨A, n, c, h1, h2, h3⟩ := h
  refine ⟨A, n, c, h1.alloc o, h2.below ((Below.refl _ _).alloc (Nat.le_refl _) _), fun a e hne => ⟨(h3 a e hne).1, ?_⟩⟩
  rintro (hq | hq)
  · exact (h3 a e hne).2 hq
  · obtain ⟨b, off, e2, hc⟩ := h2.holds (bytes_ne hne)
    rw [e] at e2
    cases e2
    obtain ⟨x, t, rfl⟩ := List.exists_cons_of_ne_nil hne
    have := lt_of_cell (hc 0 _ rfl)
    simp only at this hq
    omega
/-- A store into a block of Q. -/
theorem Rd.store {w : World} {g : Nat} {Q : Nat → Prop} {l : List UInt8} (h : Rd w g Q l) {q : Nat} (hq : Q q) (hne : q ≠ g) (o : Nat) (v : Value) : Rd (w.setCell ⟨q, o, none⟩ v) g Q l :=
  h.grown (grown_set w q o v) (by intro e; injection e with e; exact hne e.symm) (fun _ e => by cases e; exact hq)
theorem Sl.farg {w : World} {A : Option Addr} {n c : Nat} {l : List UInt8} (h : Sl w A n c l) {g : Nat} (ha : ∀ a, A = some a → l ≠ [] → a.block ≠ g) (o : Nat) (v : Value) : Sl (w.setCell ⟨g, o, Option.none⟩ v) A n c l := by
  refine ⟨?_, h.len, h.cap, h.max, h.nil⟩
  intro hne
  obtain ⟨b, off, e, hc⟩ := h.holds hne
  refine ⟨b, off, e, fun k u hu => (grown_set w g o v).cell (hc k u hu) (fun e2 => ?_)⟩
  injection e2 with e2
  exact ha ⟨b, off, Option.none⟩ e (by rintro rfl; exact hne rfl) e2
theorem int_at_ {k : IntKind} {a b : Int} (h : a = b) : Value.int k a = .int k b := by rw [h]
theorem hd_getD (l : List UInt8) : hd l = (l.getD 0 0).toNat := rfl
set_option maxHeartbeats 1000000 in
theorem octet_any (g : Nat) (Q : Nat → Prop) (l : List UInt8) (w : World) (h : Rd w g Q l) :
    Calls Tryz.prog 56 #[.pointer (some ⟨g, 0, none⟩)] w (RdPost w g Q (.int .u8 (hd l : Nat)) (l.drop 1)) := by
  obtain ⟨A, n, c, hw, hs, ha⟩ := h
  have hle := hs.le
  have hnc := hs.cap
  have hcm := hs.max
  have y0 := hw.cell 0 (.slice A n c) rfl
  have yf := hw.free 0
  have Hw := hid_ hw
  have Hs := hid_ hs
  have Ha := hid_ ha
  rcases l with _ | ⟨x, t⟩
  · obtain rfl : n = 0 := by rw [← hs.len]; rfl
    clear hs hw ha
    go_enter Tryz.func56, Tryz.ntmps56
    go_wp2_with fail
    go_ret
    exact rdPost_mk rfl ⟨A, 0, c, Hw.out, Hs.out, Ha.out⟩ rfl (grown_refl _ _)
  · have hn : n = t.length + 1 := by rw [← hs.len]; rfl
    obtain ⟨b, off, rfl, hc⟩ := hs.holds.at_ (k := 0) (by simp)
    have c0 : w.cell? ⟨b, off, none⟩ = some (.int .u8 (x.toNat : Int)) := by simpa using hc
    subst hn
    have Hf := hid_ (hs.from_ 1 (by omega))
    obtain ⟨hb, hbq⟩ := ha _ rfl (by simp)
    have Hbq := hid_ hbq
    have e1 : ((t.length + 1 : Nat) : Int) ≠ 0 := by omega
    have e2 : (((t.length + 1 : Nat) : Int) == 0) = false := beq_eq_false_iff_ne.2 e1
    have Hne := hid_ hb
    clear hs hw ha hc e1 hb hbq
    by_cases hc1 : c = 1
    · subst hc1
      have Hf2 := hid_ (show Sl w (some ⟨b, off, none⟩) 0 0 t from Hf.out.at_ (cutAt_same rfl) (by omega) rfl rfl)
      go_enter Tryz.func56, Tryz.ntmps56
      go_wp2_with fail
      go_ret
      exact rdPost_mk rfl ⟨_, _, _, Hw.out.store 0 _, Hf2.out.farg (fun a e _ => by cases e; exact Hne.out) 0 _, fun a e _ => by cases e; exact ⟨Hne.out, Hbq.out⟩⟩ rfl (grown_set _ _ _ _)
    · have Hf2 := hid_ (show Sl w (some ⟨b, off + 1, none⟩) t.length (c - 1) t from Hf.out.at_ (cutAt_off hc1 (by omega) rfl) (by omega) rfl rfl)
      go_enter Tryz.func56, Tryz.ntmps56
      go_wp2_with fail
      go_ret
      exact rdPost_mk rfl ⟨_, _, _, Hw.out.store 0 _, Hf2.out.farg (fun a e _ => by cases e; exact Hne.out) 0 _, fun a e _ => by cases e; exact ⟨Hne.out, Hbq.out⟩⟩ rfl (grown_set _ _ _ _)
theorem numB_hd (l : List UInt8) {k : Nat} (hk : k < 8) : bits BinOp.or IntKind.u64 (IntKind.u64.wrap ((numB l k : Nat) * 256)) ((hd (l.drop k) : Nat) : Int) = (numB l (k + 1) : Nat) := by
  have h2 := numB_lt l k
  have h3 : (256 : Nat) ^ k ≤ 256 ^ 7 := Nat.pow_le_pow_right (by omega) (by omega)
  rw [show (256 : Nat) ^ 7 = 72057594037927936 from rfl] at h3
  have e : hd (l.drop k) = (l.getD k 0).toNat := by
    unfold hd
    simp only [List.getD_eq_getElem?_getD, List.getElem?_drop, Nat.add_zero]
  have h4 : numB l (k + 1) = numB l k * 256 + hd (l.drop k) := by rw [numB, e]
  have hc : hd (l.drop k) < 256 := by rw [e]; exact UInt8.toNat_lt _
  generalize hd (l.drop k) = z at *
  rw [wrap_u64, h4]
  rw [show ((numB l k : Nat) : Int) * 256 % 18446744073709551616 = ((numB l k * 256 : Nat) : Int) by omega, u64_or_nat _ _ (by omega) (by omega)]
  have h5 := Nat.shiftLeft_add_eq_or_of_lt (b := z) (i := 8) (by omega) (numB l k)
  rw [Nat.shiftLeft_eq] at h5
  rw [← h5]
theorem hd_lt (l : List UInt8) : hd l < 256 := UInt8.toNat_lt _
theorem drop_drop1 (l : List UInt8) (k : Nat) : (l.drop k).drop 1 = l.drop (k + 1) := by rw [List.drop_drop]
set_option maxHeartbeats 1000000 in
theorem rnumber_any (g : Nat) (Q : Nat → Prop) (l : List UInt8) (w : World) (h : Rd w g Q l) :
    Calls Tryz.prog 57 #[.pointer (some ⟨g, 0, none⟩)] w (RdPost w g Q (.int .u64 (numB l 8 : Nat)) (l.drop 8)) := by
  have H := hid_ h
  clear h
  go_enter Tryz.func57, Tryz.ntmps57
  go_wp2_with fail
  go_loopw [3, 4] (fun v i wr => ∃ (k z : Nat), k ≤ 8 ∧ i = .int .i64 (k : Nat) ∧ v = .int .u64 (z : Nat) ∧ Hid (numB l k = z) ∧ Hid (Rd wr g Q (l.drop k)) ∧ Hid (w.grownBy wr (some g))) (fun _ i _ => 8 - (intOf i).toNat)
  case atStart => exact ⟨0, 0, by omega, rfl, rfl, hid_ rfl, H, hid_ (grown_refl _ _)⟩
  case round =>
    obtain ⟨k, z, hk, rfl, rfl, HZ, HR, HG⟩ := hrel
    by_cases hlt : k < 8
    · have Hs := hid_ (numB_hd l hlt)
      have hlt' := hd_lt (l.drop k)
      have Hc := hid_ (fun W h => octet_any g Q (l.drop k) W h)
      have Hd := hid_ (drop_drop1 l k)
      generalize hd (l.drop k) = y at *
      go_wp2_with fail
      refine Calls.mono (Hc.out _ HR.out) ?_
      rintro e w2 ⟨rfl, hr2, hg2⟩
      have HR2 := hid_ (Hd.out ▸ hr2)
      have HG2 := hid_ (grown_trans HG.out hg2)
      clear hr2 hg2
      go_wp2_with fail
      go_roundw
      case rel => exact ⟨k + 1, numB l (k + 1), by omega, by go_num, int_at_ (by rw [← HZ.out]; exact Hs.out), hid_ rfl, HR2, HG2⟩
      case measure => simp [intOf]; omega
    · obtain rfl : k = 8 := by omega
      go_wp2_with fail
      go_ret
      exact rdPost_mk (by have := HZ.out; subst this; rfl) HR.out rfl HG.out
set_option maxHeartbeats 1000000 in
theorem rballot_any (g : Nat) (Q : Nat → Prop) (l : List UInt8) (w : World) (h : Rd w g Q l) :
    Calls Tryz.prog 58 #[.pointer (some ⟨g, 0, none⟩)] w (RdPost w g Q (.agg #[.int .u64 (numB l 8 : Nat), .int .u64 (numB (l.drop 8) 8 : Nat)]) (l.drop 16)) := by
  have H := hid_ (h.bar (.cells #[.int .u64 0, .int .u64 0] 24) w.heap.size rfl)
  have R0 := hid_ (whole_new w 24 #[.int .u64 0, .int .u64 0])
  have hlt := h.lt
  have G0 := hid_ (grown_alloc (grown_refl w (some g)) (.cells #[.int .u64 0, .int .u64 0] 24))
  clear h
  go_enter Tryz.func58, Tryz.ntmps58
  go_wp2_with fail
  refine Calls.mono (rnumber_any g _ l _ H.out) ?_
  rintro e w1 ⟨rfl, hr1, hg1⟩
  have H1 := hid_ hr1
  have R1 := hid_ (R0.out.grown hg1 (by intro e; injection e with e; omega))
  have G1 := hid_ (grown_trans G0.out hg1)
  clear hr1 hg1
  generalize numB l 8 = x1 at *
  go_wp2_with fail
  refine Calls.mono (rnumber_any g _ _ _ H1.out) ?_
  rintro e w2 ⟨rfl, hr2, hg2⟩
  have H2 := hid_ hr2
  have R2 := hid_ (R1.out.grown hg2 (by intro e; injection e with e; omega))
  have G2 := hid_ (grown_trans G1.out hg2)
  clear hr2 hg2
  have Hd := hid_ (show (l.drop 8).drop 8 = l.drop 16 by rw [List.drop_drop])
  generalize numB (l.drop 8) 8 = x2 at *
  have y0 := R2.out.cell 0 _ rfl
  have y1 := R2.out.cell 1 _ rfl
  have f0 := R2.out.free 0
  have f1 := R2.out.free 1
  have hne : g ≠ w.heap.size := by omega
  go_wp2_with fail
  exact bodyPost_ret (v := .agg #[.int .u64 (x1 : Nat), .int .u64 (x2 : Nat)]) (by simp [results, Tryz.results58, go_sem, y0, y1]) rfl
    (rdPost_mk rfl ((((H2.out.store (.inr rfl) hne.symm 0 _).store (.inr rfl) hne.symm 1 _).sub (fun _ h => .inl h))) Hd.out (grown_new (grown_new G2.out (Nat.le_refl _) 0 _) (Nat.le_refl _) 1 _))
end Go.Proofs.YtnpbokbfkdncmaaGreat

/-
  What the program's read answers: the packet that the data tell.
-/
namespace Go.Proofs.YtnpbokbfkdncmaaGreat
set_option linter.unusedSimpArgs false
set_option linter.unusedVariables false
open Go.RowKit Ru

theorem rd_start {w : World} {A : Option Addr} {n c : Nat} {d : List UInt8} (hs : Sl w A n c d) (o : Obj) (G : Nat) (hG : G = w.heap.size) : Rd ((w.alloc o).alloc (.cells #[.slice A n c] 91)) (G + 1) (fun q => q = G) d := by
  subst hG
  refine ⟨A, n, c, whole_at _ _ _ _ (by simp), (hs.below ((Below.refl _ _).alloc (Nat.le_refl _) _)).below ((Below.refl _ _).alloc (Nat.le_refl _) _), fun a e hne => ?_⟩
  obtain ⟨b, off, e2, hc⟩ := hs.holds (bytes_ne hne)
  rw [e] at e2
  cases e2
  obtain ⟨x, t, rfl⟩ := List.exists_cons_of_ne_nil hne
  have := lt_of_cell (hc 0 _ rfl)
  simp only at this
  exact ⟨by show b ≠ _; omega, by show b ≠ _; omega⟩
/-- Where read stands: its reader in block gr, its packet in gp, the parts in gh, the result in g0. -/
structure St (w : World) (gr gp gh : Nat) (h : PartsD) (W : World) (l : List UInt8) (P : PackD) (S : PackS) : Prop where
  rd : Rd W gr (fun q => (q = w.heap.size ∨ q = gp) ∨ q = gh) l
  res : Whole W w.heap.size 30 (packCells zeroP ⟨none, 0, none, 0, none, 0⟩)
  pk : Whole W gp 30 (packCells P S)
  pt : Whole W gh 75 (partsCells h)
  below : Below w.heap.size w W
  o1 : w.heap.size < gr
  o2 : gr < gp
  o3 : gp < gh
theorem St.call {w W W' : World} {gr gp gh : Nat} {h : PartsD} {l l' : List UInt8} {P : PackD} {S : PackS} (s : St w gr gp gh h W l P S) (hg : W.grownBy W' (some gr)) (hr : Rd W' gr (fun q => (q = w.heap.size ∨ q = gp) ∨ q = gh) l') : St w gr gp gh h W' l' P S := by
  have h1 := s.o1
  have h2 := s.o2
  have h3 := s.o3
  have h4 := s.rd.lt
  exact ⟨hr, s.res.grown hg (by intro e; injection e with e; omega), s.pk.grown hg (by intro e; injection e with e; omega), s.pt.grown hg (by intro e; injection e with e; omega),
    below_grown_ s.below hg (by omega) (by omega), h1, h2, h3⟩
theorem St.set {w W : World} {gr gp gh : Nat} {h : PartsD} {l : List UInt8} {P : PackD} {S : PackS} (s : St w gr gp gh h W l P S) (P' : PackD) (S' : PackS) (i : Nat) (v : Value) (hc : (packCells P S).setIfInBounds i v = packCells P' S') : St w gr gp gh h (W.setCell ⟨gp, i, none⟩ v) l P' S' := by
  have h1 := s.o1
  have h2 := s.o2
  have h3 := s.o3
  exact ⟨s.rd.store (.inl (.inr rfl)) (by omega) i v, s.res.far (by show _ ≠ gp; omega) v, hc ▸ s.pk.store i v, s.pt.far (by show _ ≠ gp; omega) v, s.below.setCell (p := ⟨gp, i, none⟩) (by show _ ≤ gp; omega) v, h1, h2, h3⟩
theorem St.set2 {w W : World} {gr gp gh : Nat} {h : PartsD} {l : List UInt8} {P : PackD} {S : PackS} (s : St w gr gp gh h W l P S) (P' : PackD) (S' : PackS) (i j : Nat) (v u : Value) (hc : ((packCells P S).setIfInBounds i v).setIfInBounds j u = packCells P' S') : St w gr gp gh h ((W.setCell ⟨gp, i, none⟩ v).setCell ⟨gp, j, none⟩ u) l P' S' := by
  have h1 := s.o1
  have h2 := s.o2
  have h3 := s.o3
  exact ⟨(s.rd.store (.inl (.inr rfl)) (by omega) i v).store (.inl (.inr rfl)) (by omega) j u, (s.res.far (by show _ ≠ gp; omega) v).far (by show _ ≠ gp; omega) u, hc ▸ (s.pk.store i v).store j u, (s.pt.far (by show _ ≠ gp; omega) v).far (by show _ ≠ gp; omega) u, (s.below.setCell (p := ⟨gp, i, none⟩) (by show _ ≤ gp; omega) v).setCell (p := ⟨gp, j, none⟩) (by show _ ≤ gp; omega) u, h1, h2, h3⟩
/-- A packet stored into a block. -/
abbrev setPack (w : World) (g : Nat) (p : PackD) (s : PackS) : World := (((((((((((w.setCell ⟨g, 0, none⟩ (.int .i64 p.kind)).setCell ⟨g, 1, none⟩ (.int .u64 (p.trace : Nat))).setCell ⟨g, 2, none⟩ (.int .u64 (p.bn : Nat))).setCell ⟨g, 3, none⟩ (.int .u64 (p.bnode : Nat))).setCell ⟨g, 4, none⟩ (.int .u64 (p.sn : Nat))).setCell ⟨g, 5, none⟩ (.int .u64 (p.snode : Nat))).setCell ⟨g, 6, none⟩ (.int .i64 p.v)).setCell ⟨g, 7, none⟩ (.bool p.ok)).setCell ⟨g, 8, none⟩ (.slice s.a1 p.spans.length s.c1)).setCell ⟨g, 9, none⟩ (.slice s.a2 p.members.length s.c2)).setCell ⟨g, 10, none⟩ (.slice s.a3 p.ids.length s.c3))
theorem Whole.pack {w : World} {g : Nat} {P : PackD} {S : PackS} (h : Whole w g 30 (packCells P S)) (p : PackD) (s : PackS) : Whole (setPack w g p s) g 30 (packCells p s) := by
  have h11 := (((((((((((h.store 0 (.int .i64 p.kind)).store 1 (.int .u64 (p.trace : Nat))).store 2 (.int .u64 (p.bn : Nat))).store 3 (.int .u64 (p.bnode : Nat))).store 4 (.int .u64 (p.sn : Nat))).store 5 (.int .u64 (p.snode : Nat))).store 6 (.int .i64 p.v)).store 7 (.bool p.ok)).store 8 (.slice s.a1 p.spans.length s.c1)).store 9 (.slice s.a2 p.members.length s.c2)).store 10 (.slice s.a3 p.ids.length s.c3))
  have e : ((((((((((((packCells P S).setIfInBounds 0 (.int .i64 p.kind)).setIfInBounds 1 (.int .u64 (p.trace : Nat))).setIfInBounds 2 (.int .u64 (p.bn : Nat))).setIfInBounds 3 (.int .u64 (p.bnode : Nat))).setIfInBounds 4 (.int .u64 (p.sn : Nat))).setIfInBounds 5 (.int .u64 (p.snode : Nat))).setIfInBounds 6 (.int .i64 p.v)).setIfInBounds 7 (.bool p.ok)).setIfInBounds 8 (.slice s.a1 p.spans.length s.c1)).setIfInBounds 9 (.slice s.a2 p.members.length s.c2)).setIfInBounds 10 (.slice s.a3 p.ids.length s.c3)) = packCells p s := by simp [packCells]
  rw [e] at h11
  exact h11
theorem below_pack {B : Nat} {a w : World} (h : Below B a w) {g : Nat} (hg : B ≤ g) (p : PackD) (s : PackS) : Below B a (setPack w g p s) := by
  unfold setPack
  exact (((((((((((h.setCell (p := ⟨g, 0, none⟩) hg _).setCell (p := ⟨g, 1, none⟩) hg _).setCell (p := ⟨g, 2, none⟩) hg _).setCell (p := ⟨g, 3, none⟩) hg _).setCell (p := ⟨g, 4, none⟩) hg _).setCell (p := ⟨g, 5, none⟩) hg _).setCell (p := ⟨g, 6, none⟩) hg _).setCell (p := ⟨g, 7, none⟩) hg _).setCell (p := ⟨g, 8, none⟩) hg _).setCell (p := ⟨g, 9, none⟩) hg _).setCell (p := ⟨g, 10, none⟩) hg _)
theorem packIn_none (w : World) (p : PackD) (h1 : p.spans = []) (h2 : p.members = []) (h3 : p.ids = []) : PackIn w p ⟨none, 0, none, 0, none, 0⟩ :=
  ⟨by rw [h1]; exact ⟨fun h => absurd rfl h, rfl, Nat.le_refl _, (show (0 : Nat) ≤ 9223372036854775807 by omega), fun _ => rfl⟩, by rw [h2]; exact MemRow.none w, by rw [h3]; exact Row.none w⟩
theorem okeq (n : Nat) : ((n : Int) == 1) = decide (n = 1) := by
  by_cases h : n = 1
  · subst h; rfl
  · rw [decide_eq_false h, beq_eq_false_iff_ne]; omega
/-- The rows that there are lie from block B on. -/
def Fresh (B : Nat) (p : PackD) (s : PackS) : Prop := (∀ a, s.a1 = some a → p.spans ≠ [] → B ≤ a.block) ∧ (∀ a, s.a2 = some a → p.members ≠ [] → B ≤ a.block) ∧ (∀ a, s.a3 = some a → p.ids ≠ [] → B ≤ a.block)
theorem fresh_none (B : Nat) (p : PackD) : Fresh B p ⟨none, 0, none, 0, none, 0⟩ := ⟨fun _ e => by (cases e), fun _ e => by (cases e), fun _ e => by (cases e)⟩
def ReadPost (w : World) (p : PackD) (e : Ending) (w' : World) : Prop := ∃ s, e = .returned (packVal p s) ∧ PackIn w' p s ∧ Fresh w.heap.size p s ∧ Below w.heap.size w w'
theorem readPost_mk {w w' : World} {p q : PackD} {s : PackS} (h : p = q) (hi : PackIn w' p s) (hf : Fresh w.heap.size p s) (hb : Below w.heap.size w w') : ReadPost w q (.returned (packVal p s)) w' := by subst h; exact ⟨s, rfl, hi, hf, hb⟩
end Go.Proofs.YtnpbokbfkdncmaaGreat

/-
  What the program's Decode answers.
-/
namespace Go.Proofs.YtnpbokbfkdncmaaGreat
set_option linter.unusedSimpArgs false
set_option linter.unusedVariables false
open Go.RowKit Ru Fm

set_option maxHeartbeats 1000000 in
theorem equal_yes (A1 A2 : Option Addr) (n1 c1 n2 c2 : Nat) (l : List UInt8) (w : World) (h1 : Sl w A1 n1 c1 l) (h2 : Sl w A2 n2 c2 l) :
    Calls Tryz.prog 25 #[.slice A1 n1 c1, .slice A2 n2 c2] w fun e w' => e = .returned (.bool true) ∧ w = w' := by
  have e1 := sl_string h1
  have e2 := sl_string h2
  generalize strOf l = s at *
  clear h1 h2
  go_enter Tryz.func25, Tryz.ntmps25
  go_wp2_with fail
  go_ret
  exact ⟨by simp, rfl⟩
set_option maxHeartbeats 1000000 in
theorem equal_no (A1 A2 : Option Addr) (n1 c1 n2 c2 : Nat) (l1 l2 : List UInt8) (w : World) (h1 : Sl w A1 n1 c1 l1) (h2 : Sl w A2 n2 c2 l2) (h : l1 ≠ l2) :
    Calls Tryz.prog 25 #[.slice A1 n1 c1, .slice A2 n2 c2] w fun e w' => e = .returned (.bool false) ∧ w = w' := by
  have e1 := sl_string h1
  have e2 := sl_string h2
  have hne : strOf l1 ≠ strOf l2 := fun e => h (by have := congrArg strB e; rwa [strB_strOf, strB_strOf] at this)
  generalize strOf l1 = s1 at *
  generalize strOf l2 = s2 at *
  have hne2 : ¬ s1.toList = s2.toList := fun e => hne (by rw [ByteArray.toList_eq, ByteArray.toList_eq] at e; exact ByteArray.ext (Array.toList_inj.1 e))
  clear h1 h2 h hne
  go_enter Tryz.func25, Tryz.ntmps25
  go_wp2_with fail
  go_ret
  exact ⟨by simp [hne2], rfl⟩
def DecPost (w : World) (b : List UInt8) (e : Ending) (w' : World) : Prop := ∃ s, e = .returned (.tuple #[packVal (decF b).2 s, .int .i64 (decF b).1]) ∧ PackIn w' (decF b).2 s ∧ Below w.heap.size w w'
theorem decPost_mk {w w' : World} {b : List UInt8} {k : Int} {p : PackD} {s : PackS} (h : decF b = (k, p)) (hi : PackIn w' p s) (hb : Below w.heap.size w w') : DecPost w b (.returned (.tuple #[packVal p s, .int .i64 k])) w' := by
  unfold DecPost
  rw [h]
  exact ⟨s, rfl, hi, hb⟩
theorem dec_short {b : List UInt8} {k : Int} (h : (cutF b).1 = k) (hk : k ≠ 0) : decF b = (k, zeroP) := by
  unfold decF
  rw [h, if_neg hk]
theorem dec_bad {b d : List UInt8} (h : (cutF b).1 = 0) (hd : (cutF b).2.1 = d) (hr : rightP (readF d) = false) : decF b = (6, zeroP) := by
  unfold decF
  rw [if_pos h, hd, if_neg]
  rw [hr]
  rintro ⟨h, _⟩
  cases h
theorem dec_other {b d : List UInt8} (h : (cutF b).1 = 0) (hd : (cutF b).2.1 = d) (hr : encF (readF d) ≠ b) : decF b = (6, zeroP) := by
  unfold decF
  rw [if_pos h, hd, if_neg]
  exact fun h => hr h.2
theorem dec_yes {b d : List UInt8} (h : (cutF b).1 = 0) (hd : (cutF b).2.1 = d) (hr : rightP (readF d) = true) (he : encF (readF d) = b) : decF b = (0, readF d) := by
  unfold decF
  rw [if_pos h, hd, if_pos ⟨hr, he⟩]
theorem packIn_keep {w w' : World} {p : PackD} {s : PackS} {B : Nat} (h : PackIn w p s) (hb : Below B w w') (hB : w.heap.size ≤ B) : PackIn w' p s := h.below (hb.mono hB)
def Elsewhere (p : PackD) (s : PackS) (g : Nat) : Prop := (∀ a, s.a1 = some a → p.spans ≠ [] → a.block ≠ g) ∧ (∀ a, s.a2 = some a → p.members ≠ [] → a.block ≠ g) ∧ (∀ a, s.a3 = some a → p.ids ≠ [] → a.block ≠ g)
theorem fresh_else {B g : Nat} {p : PackD} {s : PackS} (h : Fresh B p s) (hg : g < B) : Elsewhere p s g := by
  obtain ⟨h1, h2, h3⟩ := h
  exact ⟨fun a e hne => by have := h1 a e hne; omega, fun a e hne => by have := h2 a e hne; omega, fun a e hne => by have := h3 a e hne; omega⟩
theorem packIn_grown {w w' : World} {p : PackD} {s : PackS} {g : Nat} (h : PackIn w p s) (hg : w.grownBy w' (some g)) (he : Elsewhere p s g) : PackIn w' p s := by
  obtain ⟨e1, e2, e3⟩ := he
  have hc : ∀ (b o : Nat) (v : Value), b ≠ g → w.cell? ⟨b, o, none⟩ = some v → w'.cell? ⟨b, o, none⟩ = some v := fun b o v hb hv => hg.cell hv (fun e => by injection e with e; exact hb e)
  refine ⟨⟨fun hne => ?_, h.r1.len, h.r1.cap, h.r1.max, h.r1.nil⟩, ⟨fun hne => ?_, h.r2.len, h.r2.cap, h.r2.max, h.r2.nil⟩, ⟨fun hne => ?_, h.r3.len, h.r3.cap, h.r3.max, h.r3.nil⟩⟩
  · obtain ⟨b, off, e, hk⟩ := h.r1.holds hne
    have hb := e1 _ e hne
    exact ⟨b, off, e, fun k hkl => by
      have := hk k hkl
      exact ⟨hc _ _ _ hb this.c0, hc _ _ _ hb this.c1, hc _ _ _ hb this.c2, hc _ _ _ hb this.c3, hc _ _ _ hb this.c4, hc _ _ _ hb this.c5, hc _ _ _ hb this.c6, hc _ _ _ hb this.c7⟩⟩
  · obtain ⟨b, off, e, hk⟩ := h.r2.holds hne
    have hb := e2 _ e hne
    exact ⟨b, off, e, fun k hkl => by
      have := hk k hkl
      exact ⟨hc _ _ _ hb this.c0, hc _ _ _ hb this.c1, hc _ _ _ hb this.c2⟩⟩
  · obtain ⟨b, off, e, hk⟩ := h.r3.holds hne
    have hb := e3 _ e (by rintro h0; apply hne; rw [h0]; rfl)
    exact ⟨b, off, e, fun k u hu => hc _ _ _ hb (hk k u hu)⟩
theorem grown_pack (w : World) (g : Nat) (p : PackD) (s : PackS) : w.grownBy (setPack w g p s) (some g) := by
  unfold setPack
  exact (grown_trans (grown_trans (grown_trans (grown_trans (grown_trans (grown_trans (grown_trans (grown_trans (grown_trans (grown_trans (grown_set _ _ _ _) (grown_set _ _ _ _)) (grown_set _ _ _ _)) (grown_set _ _ _ _)) (grown_set _ _ _ _)) (grown_set _ _ _ _)) (grown_set _ _ _ _)) (grown_set _ _ _ _)) (grown_set _ _ _ _)) (grown_set _ _ _ _)) (grown_set _ _ _ _))
theorem packIn_set {w : World} {p : PackD} {s : PackS} {g : Nat} (h : PackIn w p s) (he : Elsewhere p s g) : PackIn (setPack w g p s) p s := packIn_grown h (grown_pack w g p s) he

set_option maxRecDepth 100000 in
set_option maxHeartbeats 8000000 in
theorem decode_of (A : Option Addr) (n c : Nat) (b : List UInt8) (w : World) (hs : Sl w A n c b) (hn : n ≤ 140737488355328)
    (hread : ∀ A' n' c' W, Sl W A' n' c' (cutF b).2.1 → Calls Tryz.prog 24 #[.slice A' n' c'] W (ReadPost W (readF (cutF b).2.1))) (hwf : (readF (cutF b).2.1).Wf) (hsp : (readF (cutF b).2.1).spans.length ≤ 1000000) :
    Calls Tryz.prog 11 #[.slice A n c] w (DecPost w b) := by
  have Hcut := hid_ (fun (W : World) (hb : Below w.heap.size w W) => Fr.cut_any A n c b W (hs.below hb) hn)
  have Hs := hid_ hs
  have Hread := hid_ hread
  have Hwf := hid_ hwf
  have Hsp := hid_ hsp
  have W0 := hid_ (whole_new w 30 (packCells zeroP ⟨none, 0, none, 0, none, 0⟩))
  have Hb0 := hid_ ((Below.refl w.heap.size w).alloc (Nat.le_refl _) (.cells (packCells zeroP ⟨none, 0, none, 0, none, 0⟩) 30))
  have Hsh := hid_ (fun k (h : (cutF b).1 = k) => dec_short (b := b) h)
  have Hbad := hid_ (fun d => dec_bad (b := b) (d := d))
  have Hoth := hid_ (fun d => dec_other (b := b) (d := d))
  have Hyes := hid_ (fun d => dec_yes (b := b) (d := d))
  clear hs hread hwf hsp
  go_enter Tryz.func11, Tryz.ntmps11
  go_wp2_with fail
  refine Calls.mono (Hcut.out _ Hb0.out) ?_
  rintro e w1 ⟨A1, n1, c1, A2, n2, c2, rfl, h1, h2, hb1⟩
  have H1 := hid_ h1
  have W1 := hid_ (W0.out.below hb1 W0.out.lt)
  have Hb1 := hid_ (Hb0.out.trans (hb1.mono Hb0.out.size))
  have hlt1 := W1.out.lt
  clear h1 h2 hb1
  generalize hk : (cutF b).1 = k at *
  have Hk := hid_ hk
  clear hk
  generalize hd : (cutF b).2.1 = d at *
  have Hd := hid_ hd
  clear hd
  have r1 : ∀ o, w1.frozen? ⟨w.heap.size, o, none⟩ = false := fun o => W1.out.free o
  obtain ⟨t0, t1, t2, t3, t4, t5, t6, t7, t8, t9, t10⟩ := pack_facts W1.out
  dsimp only [zeroP] at t0 t1 t2 t3 t4 t5 t6 t7 t8 t9 t10
  by_cases hk0 : k = 0
  rotate_left
  · have ek : (k != 0) = true := bne_iff_ne.2 hk0
    have Hdec := hid_ (Hsh.out k rfl hk0)
    clear hk0
    go_wp2_with fail
    have Hy2 : Whole ((((((((((((w1.setCell ⟨w.heap.size, 0, none⟩ (.int .i64 0)).setCell ⟨w.heap.size, 1, none⟩ (.int .u64 0)).setCell ⟨w.heap.size, 2, none⟩ (.int .u64 0)).setCell ⟨w.heap.size, 3, none⟩ (.int .u64 0)).setCell ⟨w.heap.size, 4, none⟩ (.int .u64 0)).setCell ⟨w.heap.size, 5, none⟩ (.int .u64 0)).setCell ⟨w.heap.size, 6, none⟩ (.int .i64 0)).setCell ⟨w.heap.size, 7, none⟩ (.bool false)).setCell ⟨w.heap.size, 8, none⟩ (.slice none 0 0)).setCell ⟨w.heap.size, 9, none⟩ (.slice none 0 0)).setCell ⟨w.heap.size, 10, none⟩ (.slice none 0 0))) w.heap.size 30 (packCells zeroP ⟨none, 0, none, 0, none, 0⟩) ∧ Below w.heap.size w ((((((((((((w1.setCell ⟨w.heap.size, 0, none⟩ (.int .i64 0)).setCell ⟨w.heap.size, 1, none⟩ (.int .u64 0)).setCell ⟨w.heap.size, 2, none⟩ (.int .u64 0)).setCell ⟨w.heap.size, 3, none⟩ (.int .u64 0)).setCell ⟨w.heap.size, 4, none⟩ (.int .u64 0)).setCell ⟨w.heap.size, 5, none⟩ (.int .u64 0)).setCell ⟨w.heap.size, 6, none⟩ (.int .i64 0)).setCell ⟨w.heap.size, 7, none⟩ (.bool false)).setCell ⟨w.heap.size, 8, none⟩ (.slice none 0 0)).setCell ⟨w.heap.size, 9, none⟩ (.slice none 0 0)).setCell ⟨w.heap.size, 10, none⟩ (.slice none 0 0))) ∧ PackIn ((((((((((((w1.setCell ⟨w.heap.size, 0, none⟩ (.int .i64 0)).setCell ⟨w.heap.size, 1, none⟩ (.int .u64 0)).setCell ⟨w.heap.size, 2, none⟩ (.int .u64 0)).setCell ⟨w.heap.size, 3, none⟩ (.int .u64 0)).setCell ⟨w.heap.size, 4, none⟩ (.int .u64 0)).setCell ⟨w.heap.size, 5, none⟩ (.int .u64 0)).setCell ⟨w.heap.size, 6, none⟩ (.int .i64 0)).setCell ⟨w.heap.size, 7, none⟩ (.bool false)).setCell ⟨w.heap.size, 8, none⟩ (.slice none 0 0)).setCell ⟨w.heap.size, 9, none⟩ (.slice none 0 0)).setCell ⟨w.heap.size, 10, none⟩ (.slice none 0 0))) zeroP ⟨none, 0, none, 0, none, 0⟩ := ⟨(W1.out).pack zeroP ⟨none, 0, none, 0, none, 0⟩, below_pack (Hb1.out) (Nat.le_refl _) zeroP ⟨none, 0, none, 0, none, 0⟩, packIn_none _ _ rfl rfl rfl⟩
    clear t0 t1 t2 t3 t4 t5 t6 t7 t8 t9 t10 r1
    generalize (((((((((((w1.setCell ⟨w.heap.size, 0, none⟩ (.int .i64 0)).setCell ⟨w.heap.size, 1, none⟩ (.int .u64 0)).setCell ⟨w.heap.size, 2, none⟩ (.int .u64 0)).setCell ⟨w.heap.size, 3, none⟩ (.int .u64 0)).setCell ⟨w.heap.size, 4, none⟩ (.int .u64 0)).setCell ⟨w.heap.size, 5, none⟩ (.int .u64 0)).setCell ⟨w.heap.size, 6, none⟩ (.int .i64 0)).setCell ⟨w.heap.size, 7, none⟩ (.bool false)).setCell ⟨w.heap.size, 8, none⟩ (.slice none 0 0)).setCell ⟨w.heap.size, 9, none⟩ (.slice none 0 0)).setCell ⟨w.heap.size, 10, none⟩ (.slice none 0 0)) = W9 at Hy2 ⊢
    obtain ⟨Hy, Hby, Hin⟩ := Hy2
    obtain ⟨y0, y1, y2, y3, y4, y5, y6, y7, y8, y9, y10⟩ := pack_facts Hy
    try dsimp only [zeroP] at y0 y1 y2 y3 y4 y5 y6 y7 y8 y9 y10
    refine bodyPost_ret (v := .tuple #[packVal zeroP ⟨none, 0, none, 0, none, 0⟩, .int .i64 k]) (by simp [results, Tryz.results11, go_sem, y0, y1, y2, y3, y4, y5, y6, y7, y8, y9, y10, zeroP]) rfl ?_
    exact decPost_mk Hdec.out Hin Hby
  · subst hk0
    have Hrd := hid_ (Hread.out A1 n1 c1 w1 H1.out)
    generalize hp : readF d = p at *
    have Hp := hid_ hp
    clear hp
    go_wp2_with fail
    refine Calls.mono Hrd.out ?_
    rintro e w2 ⟨s, rfl, hi, hfr, hb2⟩
    have Hels := hid_ (fresh_else hfr (g := w.heap.size) hlt1)
    have Hin := hid_ hi
    have W2 := hid_ (W1.out.below hb2 W1.out.lt)
    have Hb2 := hid_ (Hb1.out.trans (hb2.mono Hb1.out.size))
    have Henc := hid_ (fun (W : World) (hb : Below w2.heap.size w2 W) => encode_any p s W (hi.below hb) Hwf.out Hsp.out)
    have hz2 : w.heap.size < w2.heap.size := W2.out.lt
    have K2 := hid_ (whole_new w2 30 (packCells p s))
    have W2' := hid_ (W2.out.alloc (.cells (packCells p s) 30))
    clear hi hb2 t0 t1 t2 t3 t4 t5 t6 t7 t8 t9 t10 r1
    go_wp2_with fail
    refine Calls.mono (Henc.out _ ((Below.refl _ _).alloc (Nat.le_refl _) _)) ?_
    rintro e w3 (⟨hr, rfl, hb3⟩ | ⟨hr, A3, n3, c3, rfl, ho, hb3⟩)
    · have W3 := hid_ (W2'.out.below hb3 W2'.out.lt)
      have Hb3 := hid_ ((Hb2.out.alloc Hb2.out.size (.cells (packCells p s) 30)).trans (hb3.mono (Hb2.out.alloc Hb2.out.size _).size))
      have Hdec := hid_ (Hbad.out d (by first | rfl | trivial) rfl (by rw [Hp.out]; exact hr))
      clear hr hb3
      have r3 : ∀ o, w3.frozen? ⟨w.heap.size, o, none⟩ = false := fun o => W3.out.free o
      obtain ⟨t0, t1, t2, t3, t4, t5, t6, t7, t8, t9, t10⟩ := pack_facts W3.out
      dsimp only [zeroP] at t0 t1 t2 t3 t4 t5 t6 t7 t8 t9 t10
      go_wp2_with fail
      have Hy2 : Whole ((((((((((((w3.setCell ⟨w.heap.size, 0, none⟩ (.int .i64 0)).setCell ⟨w.heap.size, 1, none⟩ (.int .u64 0)).setCell ⟨w.heap.size, 2, none⟩ (.int .u64 0)).setCell ⟨w.heap.size, 3, none⟩ (.int .u64 0)).setCell ⟨w.heap.size, 4, none⟩ (.int .u64 0)).setCell ⟨w.heap.size, 5, none⟩ (.int .u64 0)).setCell ⟨w.heap.size, 6, none⟩ (.int .i64 0)).setCell ⟨w.heap.size, 7, none⟩ (.bool false)).setCell ⟨w.heap.size, 8, none⟩ (.slice none 0 0)).setCell ⟨w.heap.size, 9, none⟩ (.slice none 0 0)).setCell ⟨w.heap.size, 10, none⟩ (.slice none 0 0))) w.heap.size 30 (packCells zeroP ⟨none, 0, none, 0, none, 0⟩) ∧ Below w.heap.size w ((((((((((((w3.setCell ⟨w.heap.size, 0, none⟩ (.int .i64 0)).setCell ⟨w.heap.size, 1, none⟩ (.int .u64 0)).setCell ⟨w.heap.size, 2, none⟩ (.int .u64 0)).setCell ⟨w.heap.size, 3, none⟩ (.int .u64 0)).setCell ⟨w.heap.size, 4, none⟩ (.int .u64 0)).setCell ⟨w.heap.size, 5, none⟩ (.int .u64 0)).setCell ⟨w.heap.size, 6, none⟩ (.int .i64 0)).setCell ⟨w.heap.size, 7, none⟩ (.bool false)).setCell ⟨w.heap.size, 8, none⟩ (.slice none 0 0)).setCell ⟨w.heap.size, 9, none⟩ (.slice none 0 0)).setCell ⟨w.heap.size, 10, none⟩ (.slice none 0 0))) ∧ PackIn ((((((((((((w3.setCell ⟨w.heap.size, 0, none⟩ (.int .i64 0)).setCell ⟨w.heap.size, 1, none⟩ (.int .u64 0)).setCell ⟨w.heap.size, 2, none⟩ (.int .u64 0)).setCell ⟨w.heap.size, 3, none⟩ (.int .u64 0)).setCell ⟨w.heap.size, 4, none⟩ (.int .u64 0)).setCell ⟨w.heap.size, 5, none⟩ (.int .u64 0)).setCell ⟨w.heap.size, 6, none⟩ (.int .i64 0)).setCell ⟨w.heap.size, 7, none⟩ (.bool false)).setCell ⟨w.heap.size, 8, none⟩ (.slice none 0 0)).setCell ⟨w.heap.size, 9, none⟩ (.slice none 0 0)).setCell ⟨w.heap.size, 10, none⟩ (.slice none 0 0))) zeroP ⟨none, 0, none, 0, none, 0⟩ := ⟨(W3.out).pack zeroP ⟨none, 0, none, 0, none, 0⟩, below_pack (Hb3.out) (Nat.le_refl _) zeroP ⟨none, 0, none, 0, none, 0⟩, packIn_none _ _ rfl rfl rfl⟩
      clear t0 t1 t2 t3 t4 t5 t6 t7 t8 t9 t10 r3
      generalize (((((((((((w3.setCell ⟨w.heap.size, 0, none⟩ (.int .i64 0)).setCell ⟨w.heap.size, 1, none⟩ (.int .u64 0)).setCell ⟨w.heap.size, 2, none⟩ (.int .u64 0)).setCell ⟨w.heap.size, 3, none⟩ (.int .u64 0)).setCell ⟨w.heap.size, 4, none⟩ (.int .u64 0)).setCell ⟨w.heap.size, 5, none⟩ (.int .u64 0)).setCell ⟨w.heap.size, 6, none⟩ (.int .i64 0)).setCell ⟨w.heap.size, 7, none⟩ (.bool false)).setCell ⟨w.heap.size, 8, none⟩ (.slice none 0 0)).setCell ⟨w.heap.size, 9, none⟩ (.slice none 0 0)).setCell ⟨w.heap.size, 10, none⟩ (.slice none 0 0)) = W9 at Hy2 ⊢
      obtain ⟨Hy, Hby, Hin⟩ := Hy2
      obtain ⟨y0, y1, y2, y3, y4, y5, y6, y7, y8, y9, y10⟩ := pack_facts Hy
      try dsimp only [zeroP] at y0 y1 y2 y3 y4 y5 y6 y7 y8 y9 y10
      refine bodyPost_ret (v := .tuple #[packVal zeroP ⟨none, 0, none, 0, none, 0⟩, .int .i64 6]) (by simp [results, Tryz.results11, go_sem, y0, y1, y2, y3, y4, y5, y6, y7, y8, y9, y10, zeroP]) rfl ?_
      exact decPost_mk Hdec.out Hin Hby
    · have W3 := hid_ (W2'.out.below hb3 W2'.out.lt)
      have K3 := hid_ (K2.out.below hb3 K2.out.lt)
      have Hb3 := hid_ ((Hb2.out.alloc Hb2.out.size (.cells (packCells p s) 30)).trans (hb3.mono (Hb2.out.alloc Hb2.out.size _).size))
      have Hin3 := hid_ ((Hin.out.below ((Below.refl _ _).alloc (Nat.le_refl _) (.cells (packCells p s) 30))).below hb3)
      have Ho := hid_ ho.sl
      have Hs3 := hid_ (Hs.out.below Hb3.out)
      have Hr := hid_ hr
      have Hew := hid_ Hin3
      clear hr hb3 ho
      have r3 : ∀ o, w3.frozen? ⟨w.heap.size, o, none⟩ = false := fun o => W3.out.free o
      obtain ⟨t0, t1, t2, t3, t4, t5, t6, t7, t8, t9, t10⟩ := pack_facts W3.out
      obtain ⟨p0, p1, p2, p3, p4, p5, p6, p7, p8, p9, p10⟩ := pack_facts K3.out
      dsimp only [zeroP] at t0 t1 t2 t3 t4 t5 t6 t7 t8 t9 t10
      by_cases he : encF p = b
      · have Hdec := hid_ (show decF b = (0, p) from Hp.out ▸ Hyes.out d (by first | rfl | trivial) rfl (by rw [Hp.out]; exact Hr.out) (by rw [Hp.out]; exact he))
        have Heq := hid_ (equal_yes A3 A n3 c3 n c b w3 (he ▸ Ho.out) Hs3.out)
        have hne2 : w.heap.size ≠ w2.heap.size := by omega
        clear he
        go_wp2_with (go_at_call 25; (with_reducible refine Calls.mono Heq.out ?_); rintro e w' ⟨rfl, rfl⟩)
        have Hy2 : Whole ((((((((((((w3.setCell ⟨w.heap.size, 0, none⟩ (.int .i64 p.kind)).setCell ⟨w.heap.size, 1, none⟩ (.int .u64 (p.trace : Nat))).setCell ⟨w.heap.size, 2, none⟩ (.int .u64 (p.bn : Nat))).setCell ⟨w.heap.size, 3, none⟩ (.int .u64 (p.bnode : Nat))).setCell ⟨w.heap.size, 4, none⟩ (.int .u64 (p.sn : Nat))).setCell ⟨w.heap.size, 5, none⟩ (.int .u64 (p.snode : Nat))).setCell ⟨w.heap.size, 6, none⟩ (.int .i64 p.v)).setCell ⟨w.heap.size, 7, none⟩ (.bool p.ok)).setCell ⟨w.heap.size, 8, none⟩ (.slice s.a1 p.spans.length s.c1)).setCell ⟨w.heap.size, 9, none⟩ (.slice s.a2 p.members.length s.c2)).setCell ⟨w.heap.size, 10, none⟩ (.slice s.a3 p.ids.length s.c3))) w.heap.size 30 (packCells p s) ∧ Below w.heap.size w ((((((((((((w3.setCell ⟨w.heap.size, 0, none⟩ (.int .i64 p.kind)).setCell ⟨w.heap.size, 1, none⟩ (.int .u64 (p.trace : Nat))).setCell ⟨w.heap.size, 2, none⟩ (.int .u64 (p.bn : Nat))).setCell ⟨w.heap.size, 3, none⟩ (.int .u64 (p.bnode : Nat))).setCell ⟨w.heap.size, 4, none⟩ (.int .u64 (p.sn : Nat))).setCell ⟨w.heap.size, 5, none⟩ (.int .u64 (p.snode : Nat))).setCell ⟨w.heap.size, 6, none⟩ (.int .i64 p.v)).setCell ⟨w.heap.size, 7, none⟩ (.bool p.ok)).setCell ⟨w.heap.size, 8, none⟩ (.slice s.a1 p.spans.length s.c1)).setCell ⟨w.heap.size, 9, none⟩ (.slice s.a2 p.members.length s.c2)).setCell ⟨w.heap.size, 10, none⟩ (.slice s.a3 p.ids.length s.c3))) ∧ PackIn ((((((((((((w3.setCell ⟨w.heap.size, 0, none⟩ (.int .i64 p.kind)).setCell ⟨w.heap.size, 1, none⟩ (.int .u64 (p.trace : Nat))).setCell ⟨w.heap.size, 2, none⟩ (.int .u64 (p.bn : Nat))).setCell ⟨w.heap.size, 3, none⟩ (.int .u64 (p.bnode : Nat))).setCell ⟨w.heap.size, 4, none⟩ (.int .u64 (p.sn : Nat))).setCell ⟨w.heap.size, 5, none⟩ (.int .u64 (p.snode : Nat))).setCell ⟨w.heap.size, 6, none⟩ (.int .i64 p.v)).setCell ⟨w.heap.size, 7, none⟩ (.bool p.ok)).setCell ⟨w.heap.size, 8, none⟩ (.slice s.a1 p.spans.length s.c1)).setCell ⟨w.heap.size, 9, none⟩ (.slice s.a2 p.members.length s.c2)).setCell ⟨w.heap.size, 10, none⟩ (.slice s.a3 p.ids.length s.c3))) p s := ⟨(W3.out).pack p s, below_pack (Hb3.out) (Nat.le_refl _) p s, packIn_set Hin3.out (Hels.out)⟩
        clear t0 t1 t2 t3 t4 t5 t6 t7 t8 t9 t10 r3 p0 p1 p2 p3 p4 p5 p6 p7 p8 p9 p10
        generalize (((((((((((w3.setCell ⟨w.heap.size, 0, none⟩ (.int .i64 p.kind)).setCell ⟨w.heap.size, 1, none⟩ (.int .u64 (p.trace : Nat))).setCell ⟨w.heap.size, 2, none⟩ (.int .u64 (p.bn : Nat))).setCell ⟨w.heap.size, 3, none⟩ (.int .u64 (p.bnode : Nat))).setCell ⟨w.heap.size, 4, none⟩ (.int .u64 (p.sn : Nat))).setCell ⟨w.heap.size, 5, none⟩ (.int .u64 (p.snode : Nat))).setCell ⟨w.heap.size, 6, none⟩ (.int .i64 p.v)).setCell ⟨w.heap.size, 7, none⟩ (.bool p.ok)).setCell ⟨w.heap.size, 8, none⟩ (.slice s.a1 p.spans.length s.c1)).setCell ⟨w.heap.size, 9, none⟩ (.slice s.a2 p.members.length s.c2)).setCell ⟨w.heap.size, 10, none⟩ (.slice s.a3 p.ids.length s.c3)) = W9 at Hy2 ⊢
        obtain ⟨Hy, Hby, Hin⟩ := Hy2
        obtain ⟨y0, y1, y2, y3, y4, y5, y6, y7, y8, y9, y10⟩ := pack_facts Hy
        try dsimp only [zeroP] at y0 y1 y2 y3 y4 y5 y6 y7 y8 y9 y10
        refine bodyPost_ret (v := .tuple #[packVal p s, .int .i64 0]) (by simp [results, Tryz.results11, go_sem, y0, y1, y2, y3, y4, y5, y6, y7, y8, y9, y10, zeroP]) rfl ?_
        exact decPost_mk Hdec.out Hin Hby
      · have Hdec := hid_ (Hoth.out d (by first | rfl | trivial) rfl (by rw [Hp.out]; exact he))
        have Heq := hid_ (equal_no A3 A n3 c3 n c _ b w3 Ho.out Hs3.out he)
        clear he
        go_wp2_with (go_at_call 25; (with_reducible refine Calls.mono Heq.out ?_); rintro e w' ⟨rfl, rfl⟩)
        have Hy2 : Whole ((((((((((((w3.setCell ⟨w.heap.size, 0, none⟩ (.int .i64 0)).setCell ⟨w.heap.size, 1, none⟩ (.int .u64 0)).setCell ⟨w.heap.size, 2, none⟩ (.int .u64 0)).setCell ⟨w.heap.size, 3, none⟩ (.int .u64 0)).setCell ⟨w.heap.size, 4, none⟩ (.int .u64 0)).setCell ⟨w.heap.size, 5, none⟩ (.int .u64 0)).setCell ⟨w.heap.size, 6, none⟩ (.int .i64 0)).setCell ⟨w.heap.size, 7, none⟩ (.bool false)).setCell ⟨w.heap.size, 8, none⟩ (.slice none 0 0)).setCell ⟨w.heap.size, 9, none⟩ (.slice none 0 0)).setCell ⟨w.heap.size, 10, none⟩ (.slice none 0 0))) w.heap.size 30 (packCells zeroP ⟨none, 0, none, 0, none, 0⟩) ∧ Below w.heap.size w ((((((((((((w3.setCell ⟨w.heap.size, 0, none⟩ (.int .i64 0)).setCell ⟨w.heap.size, 1, none⟩ (.int .u64 0)).setCell ⟨w.heap.size, 2, none⟩ (.int .u64 0)).setCell ⟨w.heap.size, 3, none⟩ (.int .u64 0)).setCell ⟨w.heap.size, 4, none⟩ (.int .u64 0)).setCell ⟨w.heap.size, 5, none⟩ (.int .u64 0)).setCell ⟨w.heap.size, 6, none⟩ (.int .i64 0)).setCell ⟨w.heap.size, 7, none⟩ (.bool false)).setCell ⟨w.heap.size, 8, none⟩ (.slice none 0 0)).setCell ⟨w.heap.size, 9, none⟩ (.slice none 0 0)).setCell ⟨w.heap.size, 10, none⟩ (.slice none 0 0))) ∧ PackIn ((((((((((((w3.setCell ⟨w.heap.size, 0, none⟩ (.int .i64 0)).setCell ⟨w.heap.size, 1, none⟩ (.int .u64 0)).setCell ⟨w.heap.size, 2, none⟩ (.int .u64 0)).setCell ⟨w.heap.size, 3, none⟩ (.int .u64 0)).setCell ⟨w.heap.size, 4, none⟩ (.int .u64 0)).setCell ⟨w.heap.size, 5, none⟩ (.int .u64 0)).setCell ⟨w.heap.size, 6, none⟩ (.int .i64 0)).setCell ⟨w.heap.size, 7, none⟩ (.bool false)).setCell ⟨w.heap.size, 8, none⟩ (.slice none 0 0)).setCell ⟨w.heap.size, 9, none⟩ (.slice none 0 0)).setCell ⟨w.heap.size, 10, none⟩ (.slice none 0 0))) zeroP ⟨none, 0, none, 0, none, 0⟩ := ⟨(W3.out).pack zeroP ⟨none, 0, none, 0, none, 0⟩, below_pack (Hb3.out) (Nat.le_refl _) zeroP ⟨none, 0, none, 0, none, 0⟩, packIn_none _ _ rfl rfl rfl⟩
        clear t0 t1 t2 t3 t4 t5 t6 t7 t8 t9 t10 r3 p0 p1 p2 p3 p4 p5 p6 p7 p8 p9 p10
        generalize (((((((((((w3.setCell ⟨w.heap.size, 0, none⟩ (.int .i64 0)).setCell ⟨w.heap.size, 1, none⟩ (.int .u64 0)).setCell ⟨w.heap.size, 2, none⟩ (.int .u64 0)).setCell ⟨w.heap.size, 3, none⟩ (.int .u64 0)).setCell ⟨w.heap.size, 4, none⟩ (.int .u64 0)).setCell ⟨w.heap.size, 5, none⟩ (.int .u64 0)).setCell ⟨w.heap.size, 6, none⟩ (.int .i64 0)).setCell ⟨w.heap.size, 7, none⟩ (.bool false)).setCell ⟨w.heap.size, 8, none⟩ (.slice none 0 0)).setCell ⟨w.heap.size, 9, none⟩ (.slice none 0 0)).setCell ⟨w.heap.size, 10, none⟩ (.slice none 0 0)) = W9 at Hy2 ⊢
        obtain ⟨Hy, Hby, Hin⟩ := Hy2
        obtain ⟨y0, y1, y2, y3, y4, y5, y6, y7, y8, y9, y10⟩ := pack_facts Hy
        try dsimp only [zeroP] at y0 y1 y2 y3 y4 y5 y6 y7 y8 y9 y10
        refine bodyPost_ret (v := .tuple #[packVal zeroP ⟨none, 0, none, 0, none, 0⟩, .int .i64 6]) (by simp [results, Tryz.results11, go_sem, y0, y1, y2, y3, y4, y5, y6, y7, y8, y9, y10, zeroP]) rfl ?_
        exact decPost_mk Hdec.out Hin Hby
end Go.Proofs.YtnpbokbfkdncmaaGreat

/-
  What the program's read answers of data of kind 8.
-/
namespace Go.Proofs.YtnpbokbfkdncmaaGreat
set_option linter.unusedSimpArgs false
set_option linter.unusedVariables false
open Go.RowKit Ru

set_option maxRecDepth 100000 in
set_option maxHeartbeats 8000000 in
theorem read8_any (A : Option Addr) (n c : Nat) (d : List UInt8) (w : World) (hs : Sl w A n c d) (hk : hd d = 8) : Calls Tryz.prog 24 #[.slice A n c] w (ReadPost w (readF d)) := by
  have HD := hid_ (fun (d0 : List UInt8) (h0 : d.drop 1 = d0) => show readF d = ⟨8, (numB d0 8), 0, 0, 0, 0, ((hd (d0.drop 8) : Nat) : Int), false, [], [], []⟩ by unfold readF; rw [hk, h0, show partsF ((8 : Nat) : Int) = ⟨true, false, false, true, false, false, false⟩ from parts_8]; first | rfl | simp [List.drop_drop, okeq])
  have Hoc := hid_ (octet_any (w.heap.size + 1) (fun q => q = w.heap.size) d)
  rw [hk] at Hoc
  have Hpo := hid_ (fun W => partsof_any 8 W)
  rw [parts_8] at Hpo
  unfold PartsPost at Hpo
  have R0 := hid_ (rd_start hs (.cells (packCells zeroP ⟨none, 0, none, 0, none, 0⟩) 30) w.heap.size rfl)
  have W0 := hid_ ((whole_new w 30 (packCells zeroP ⟨none, 0, none, 0, none, 0⟩)).alloc (.cells #[.slice A n c] 91))
  have Hb0 := hid_ ((((Below.refl w.heap.size w).alloc (Nat.le_refl _) (.cells (packCells zeroP ⟨none, 0, none, 0, none, 0⟩) 30))).alloc (by simp) (.cells #[.slice A n c] 91))
  clear hs hk
  generalize hd0 : d.drop 1 = d0 at *
  have HD := hid_ (HD.out d0 rfl)
  clear hd0
  go_enter Tryz.func24, Tryz.ntmps24
  go_wp2_with fail
  refine Calls.mono (Hoc.out _ R0.out) ?_
  rintro e w1 ⟨rfl, hr1, hg1⟩
  have W1 := hid_ (W0.out.grown hg1 (by intro e; injection e with e; omega))
  have Hb1 := hid_ (below_grown_ Hb0.out hg1 (by omega) (by simp <;> omega))
  have hz1 : w.heap.size + 1 < w1.heap.size := hr1.lt
  have R1 := hid_ (hr1.bar (.cells (packCells ⟨8, 0, 0, 0, 0, 0, 0, false, [], [], []⟩ ⟨none, 0, none, 0, none, 0⟩) 30) w1.heap.size rfl)
  have W2 := hid_ (W1.out.alloc (.cells (packCells ⟨8, 0, 0, 0, 0, 0, 0, false, [], [], []⟩ ⟨none, 0, none, 0, none, 0⟩) 30))
  have K2 := hid_ (whole_new w1 30 (packCells ⟨8, 0, 0, 0, 0, 0, 0, false, [], [], []⟩ ⟨none, 0, none, 0, none, 0⟩))
  have Hb2 := hid_ (Hb1.out.alloc Hb1.out.size (.cells (packCells ⟨8, 0, 0, 0, 0, 0, 0, false, [], [], []⟩ ⟨none, 0, none, 0, none, 0⟩) 30))
  clear hr1 hg1
  go_wp2_with fail
  refine Calls.mono (Hpo.out _) ?_
  rintro e w2 ⟨rfl, hb2⟩
  have hz2 : w1.heap.size < w2.heap.size := by have := hb2.size; simp at this; omega
  have S0 := hid_ (show St w (w.heap.size + 1) w1.heap.size w2.heap.size ⟨true, false, false, true, false, false, false⟩ (w2.alloc (.cells (partsCells ⟨true, false, false, true, false, false, false⟩) 75)) d0 ⟨8, 0, 0, 0, 0, 0, 0, false, [], [], []⟩ ⟨none, 0, none, 0, none, 0⟩ from
    ⟨(R1.out.below hb2).bar _ _ rfl, (W2.out.below hb2 W2.out.lt).alloc _, (K2.out.below hb2 K2.out.lt).alloc _, whole_new _ _ _, (Hb2.out.trans (hb2.mono Hb2.out.size)).alloc (by have := Hb2.out.size; have := hb2.size; omega) _, by omega, hz1, hz2⟩)
  clear hb2
  have hq1 : w.heap.size ≠ w1.heap.size := by omega
  have hq2 : w.heap.size ≠ w2.heap.size := by omega
  have hq3 : w1.heap.size ≠ w2.heap.size := by omega
  skip
  go_wp2_with fail
  refine Calls.mono (rnumber_any (w.heap.size + 1) _ d0 _ S0.out.rd) ?_
  rintro e w3 ⟨rfl, hr, hg⟩
  have T3 := hid_ (S0.out.call hg hr)
  clear hr hg
  generalize hx3 : numB d0 8 = x3 at *
  have HX3 := hid_ hx3
  clear hx3
  have S3 := hid_ (T3.out.set ⟨8, x3, 0, 0, 0, 0, 0, false, [], [], []⟩ ⟨none, 0, none, 0, none, 0⟩ 1 (.int .u64 (x3 : Nat)) rfl)
  obtain ⟨z0, z1, z2, z3, z4, z5, z6⟩ := part_facts T3.out.pt
  have f3 : ∀ o, w3.frozen? ⟨w1.heap.size, o, none⟩ = false := fun o => T3.out.pk.free o
  obtain ⟨p0, p1, p2, p3, p4, p5, p6, p7, p8, p9, p10⟩ := pack_facts T3.out.pk
  have r3 : ∀ o, w3.frozen? ⟨w.heap.size, o, none⟩ = false := fun o => T3.out.res.free o
  obtain ⟨t0, t1, t2, t3, t4, t5, t6, t7, t8, t9, t10⟩ := pack_facts T3.out.res
  dsimp only [zeroP] at p0 p1 p2 p3 p4 p5 p6 p7 p8 p9 p10 t0 t1 t2 t3 t4 t5 t6 t7 t8 t9 t10
  skip
  go_wp2_with fail
  refine Calls.mono (octet_any (w.heap.size + 1) _ (d0.drop 8) _ S3.out.rd) ?_
  rintro e w4 ⟨rfl, hr, hg⟩
  have T4 := hid_ (S3.out.call hg hr)
  clear hr hg
  have hlt4 := hd_lt (d0.drop 8)
  generalize hx4 : hd (d0.drop 8) = x4 at *
  have HX4 := hid_ hx4
  clear hx4
  have S4 := hid_ (T4.out.set ⟨8, x3, 0, 0, 0, 0, (x4 : Int), false, [], [], []⟩ ⟨none, 0, none, 0, none, 0⟩ 6 (.int .i64 (x4 : Int)) rfl)
  obtain ⟨z0, z1, z2, z3, z4, z5, z6⟩ := part_facts T4.out.pt
  have f4 : ∀ o, w4.frozen? ⟨w1.heap.size, o, none⟩ = false := fun o => T4.out.pk.free o
  obtain ⟨p0, p1, p2, p3, p4, p5, p6, p7, p8, p9, p10⟩ := pack_facts T4.out.pk
  have r4 : ∀ o, w4.frozen? ⟨w.heap.size, o, none⟩ = false := fun o => T4.out.res.free o
  obtain ⟨t0, t1, t2, t3, t4, t5, t6, t7, t8, t9, t10⟩ := pack_facts T4.out.res
  dsimp only [zeroP] at p0 p1 p2 p3 p4 p5 p6 p7 p8 p9 p10 t0 t1 t2 t3 t4 t5 t6 t7 t8 t9 t10
  go_wp2_with fail
  have Hy2 : Whole (((((((((((((w4.setCell ⟨w1.heap.size, 6, none⟩ (.int .i64 (x4 : Int))).setCell ⟨w.heap.size, 0, none⟩ (.int .i64 8)).setCell ⟨w.heap.size, 1, none⟩ (.int .u64 (x3 : Nat))).setCell ⟨w.heap.size, 2, none⟩ (.int .u64 0)).setCell ⟨w.heap.size, 3, none⟩ (.int .u64 0)).setCell ⟨w.heap.size, 4, none⟩ (.int .u64 0)).setCell ⟨w.heap.size, 5, none⟩ (.int .u64 0)).setCell ⟨w.heap.size, 6, none⟩ (.int .i64 (x4 : Int))).setCell ⟨w.heap.size, 7, none⟩ (.bool false)).setCell ⟨w.heap.size, 8, none⟩ (.slice none 0 0)).setCell ⟨w.heap.size, 9, none⟩ (.slice none 0 0)).setCell ⟨w.heap.size, 10, none⟩ (.slice none 0 0))) w.heap.size 30 (packCells ⟨8, x3, 0, 0, 0, 0, (x4 : Int), false, [], [], []⟩ ⟨none, 0, none, 0, none, 0⟩) ∧ Below w.heap.size w (((((((((((((w4.setCell ⟨w1.heap.size, 6, none⟩ (.int .i64 (x4 : Int))).setCell ⟨w.heap.size, 0, none⟩ (.int .i64 8)).setCell ⟨w.heap.size, 1, none⟩ (.int .u64 (x3 : Nat))).setCell ⟨w.heap.size, 2, none⟩ (.int .u64 0)).setCell ⟨w.heap.size, 3, none⟩ (.int .u64 0)).setCell ⟨w.heap.size, 4, none⟩ (.int .u64 0)).setCell ⟨w.heap.size, 5, none⟩ (.int .u64 0)).setCell ⟨w.heap.size, 6, none⟩ (.int .i64 (x4 : Int))).setCell ⟨w.heap.size, 7, none⟩ (.bool false)).setCell ⟨w.heap.size, 8, none⟩ (.slice none 0 0)).setCell ⟨w.heap.size, 9, none⟩ (.slice none 0 0)).setCell ⟨w.heap.size, 10, none⟩ (.slice none 0 0))) := ⟨S4.out.res.pack ⟨8, x3, 0, 0, 0, 0, (x4 : Int), false, [], [], []⟩ ⟨none, 0, none, 0, none, 0⟩, below_pack S4.out.below (Nat.le_refl _) ⟨8, x3, 0, 0, 0, 0, (x4 : Int), false, [], [], []⟩ ⟨none, 0, none, 0, none, 0⟩⟩
  clear z0 z1 z2 z3 z4 z5 z6 f4 p0 p1 p2 p3 p4 p5 p6 p7 p8 p9 p10 r4 t0 t1 t2 t3 t4 t5 t6 t7 t8 t9 t10
  generalize ((((((((((((w4.setCell ⟨w1.heap.size, 6, none⟩ (.int .i64 (x4 : Int))).setCell ⟨w.heap.size, 0, none⟩ (.int .i64 8)).setCell ⟨w.heap.size, 1, none⟩ (.int .u64 (x3 : Nat))).setCell ⟨w.heap.size, 2, none⟩ (.int .u64 0)).setCell ⟨w.heap.size, 3, none⟩ (.int .u64 0)).setCell ⟨w.heap.size, 4, none⟩ (.int .u64 0)).setCell ⟨w.heap.size, 5, none⟩ (.int .u64 0)).setCell ⟨w.heap.size, 6, none⟩ (.int .i64 (x4 : Int))).setCell ⟨w.heap.size, 7, none⟩ (.bool false)).setCell ⟨w.heap.size, 8, none⟩ (.slice none 0 0)).setCell ⟨w.heap.size, 9, none⟩ (.slice none 0 0)).setCell ⟨w.heap.size, 10, none⟩ (.slice none 0 0)) = W9 at Hy2 ⊢
  obtain ⟨Hy, Hby⟩ := Hy2
  obtain ⟨y0, y1, y2, y3, y4, y5, y6, y7, y8, y9, y10⟩ := pack_facts Hy
  dsimp only at y0 y1 y2 y3 y4 y5 y6 y7 y8 y9 y10
  refine bodyPost_ret (v := packVal ⟨8, x3, 0, 0, 0, 0, (x4 : Int), false, [], [], []⟩ ⟨none, 0, none, 0, none, 0⟩) (by simp [results, Tryz.results24, go_sem, y0, y1, y2, y3, y4, y5, y6, y7, y8, y9, y10]) rfl ?_
  exact readPost_mk HD.out.symm (packIn_none _ _ rfl rfl rfl) (fresh_none _ _) Hby
end Go.Proofs.YtnpbokbfkdncmaaGreat

/-
  A Tell as a thing: what Of and Trace answer of it.
-/
namespace Go.Proofs.YtnpbokbfkdncmaaGreat
set_option linter.unusedSimpArgs false
set_option linter.unusedVariables false
open Go.RowKit Ru

abbrev toldVal (tr : Nat) (v : Int) : Value := .iface 109 (.agg #[.int .u64 (tr : Nat), .int .i64 v])
set_option maxRecDepth 100000 in
set_option maxHeartbeats 4000000 in
theorem thing8_any (p : PackD) (s : PackS) (w : World) (hk : p.kind = 8) :
    Calls Tryz.prog 35 #[packVal p s] w fun e w' => e = .returned (toldVal p.trace p.v) ∧ Below w.heap.size w w' := by
  obtain ⟨k, tr, bn, bd, sn, sd, v, ok, l1, l2, l3⟩ := p
  obtain ⟨a1, e1, a2, e2, a3, e3⟩ := s
  simp only at hk
  subst hk
  go_enter Tryz.func35, Tryz.ntmps35
  go_wp2_with fail
  go_ret
  exact ⟨rfl, (Below.refl _ _).alloc (Nat.le_refl _) _⟩
set_option maxRecDepth 100000 in
set_option maxHeartbeats 4000000 in
theorem packed8_any (tr : Nat) (v : Int) (w : World) :
    Calls Tryz.prog 36 #[toldVal tr v] w fun e w' => e = .returned (packVal ⟨8, tr, 0, 0, 0, 0, v, false, [], [], []⟩ ⟨none, 0, none, 0, none, 0⟩) ∧ Below w.heap.size w w' := by
  have k1 := fun v w => noSpans_Told v w
  have k2 := fun v w => noMembers_Told v w
  have k3 := fun v w => noAsk_Told v w
  have k4 := fun v w => noReply_Told v w
  have k5 := fun v w => isTold v w
  go_enter Tryz.func36, Tryz.ntmps36
  go_wp2_with fail
  refine bodyPost_ret (v := packVal ⟨8, tr, 0, 0, 0, 0, v, false, [], [], []⟩ ⟨none, 0, none, 0, none, 0⟩) (by simp [results, Tryz.results36, go_sem]) rfl ⟨rfl, ?_⟩
  exact ((Below.refl _ _).alloc (Nat.le_refl _) _).alloc (by simp) _
set_option maxRecDepth 100000 in
set_option maxHeartbeats 4000000 in
theorem of8_any (p : PackD) (s : PackS) (w : World) (hp : PackIn w p s) (hw : p.Wf) (hm : p.spans.length ≤ 1000000) (hk : p.kind = 8) (hr : rightP p = true) :
    Calls Tryz.prog 16 #[packVal p s] w fun e w' => e = .returned (.tuple #[toldVal p.trace p.v, .int .i64 0]) ∧ Below w.heap.size w w' := by
  have Ha := hid_ (show Below w.heap.size w (w.alloc (.cells (packCells p s) 30)) from (Below.refl _ _).alloc (Nat.le_refl _) _)
  have B0 := hid_ (whole_new w 30 (packCells p s))
  have Hri := hid_ (fun (W : World) (hb : Below w.heap.size w W) => packright_any p s W (hp.below hb) hw hm)
  have Hth := hid_ (fun (W : World) => thing8_any p s W hk)
  rw [hr] at Hri
  have ek : kindP true = 0 := rfl
  rw [ek] at Hri
  clear hp hw hm hk hr ek
  go_enter Tryz.func16, Tryz.ntmps16
  go_wp2_with fail
  refine Calls.mono (Hri.out _ Ha.out) ?_
  rintro e w1 ⟨rfl, hb1⟩
  have B1 := hid_ (B0.out.below hb1 B0.out.lt)
  have Hb1 := hid_ (Ha.out.trans (hb1.mono Ha.out.size))
  clear hb1
  obtain ⟨x0, x1, x2, x3, x4, x5, x6, x7, x8, x9, x10⟩ := pack_facts B1.out
  go_wp2_with fail
  refine Calls.mono (Hth.out _) ?_
  rintro e w2 ⟨rfl, hb2⟩
  have Hb2 := hid_ (Hb1.out.trans (hb2.mono Hb1.out.size))
  clear hb2
  go_wp2_with fail
  go_ret2
  exact ⟨rfl, Hb2.out⟩
set_option maxRecDepth 100000 in
set_option maxHeartbeats 4000000 in
theorem trace8_any (tr : Nat) (v : Int) (w : World) :
    Calls Tryz.prog 17 #[toldVal tr v] w fun e w' => e = .returned (.tuple #[.int .u64 (tr : Nat), .bool true]) ∧ Below w.heap.size w w' := by
  have k2 := fun v w => noMembers_Told v w
  have Hpk := hid_ (fun W => packed8_any tr v W)
  have Ha := hid_ (show Below w.heap.size w (w.alloc (.cells #[.slice none 0 0] 71)) from (Below.refl _ _).alloc (Nat.le_refl _) _)
  go_enter Tryz.func17, Tryz.ntmps17
  go_wp2_with fail
  refine Calls.mono (Hpk.out _) ?_
  rintro e w1 ⟨rfl, hb1⟩
  have Hb1 := hid_ (Ha.out.trans (hb1.mono Ha.out.size))
  clear hb1
  go_wp2_with fail
  go_quiet (fail)
  go_wp2_with fail
  go_ret2
  exact ⟨rfl, below_drewN (Hb1.out.alloc Hb1.out.size _) _⟩
end Go.Proofs.YtnpbokbfkdncmaaGreat

/-
  What Light tells of a packet.
-/
namespace Go.Proofs.YtnpbokbfkdncmaaGreat
set_option linter.unusedSimpArgs false
set_option linter.unusedVariables false
open Go.RowKit Ru

def Few (p : PackD) : Prop := p.spans.length ≤ 40 ∧ p.members.length ≤ 100 ∧ p.ids.length ≤ 100
instance fewDec (p : PackD) : Decidable (Few p) := by unfold Few; infer_instance
def okNm (s : SpanD) : Bool := decide (s.name.size ≤ 200) && decide (s.service.size ≤ 200)
def lightF (p : PackD) : Bool := decide (Few p) && p.spans.all okNm
theorem light_few {p : PackD} (h : lightF p = true) : Few p := by
  unfold lightF at h
  rw [Bool.and_eq_true, decide_eq_true_eq] at h
  exact h.1
theorem light_many {p : PackD} (h : ¬ Few p) : lightF p = false := by unfold lightF; rw [decide_eq_false h]; rfl
theorem light_long {p : PackD} {s : SpanD} (hs : s ∈ p.spans) (h : okNm s = false) : lightF p = false := by
  unfold lightF
  rw [List.all_eq_false.2 ⟨s, hs, by rw [h]; decide⟩, Bool.and_false]
theorem light_all {p : PackD} (h : Few p) (hs : ∀ j (hj : j < p.spans.length), okNm p.spans[j] = true) : lightF p = true := by
  unfold lightF
  rw [decide_eq_true h, Bool.true_and, List.all_eq_true]
  intro x hx
  obtain ⟨j, hj, rfl⟩ := List.getElem_of_mem hx
  exact hs j hj
set_option maxRecDepth 100000 in
set_option maxHeartbeats 4000000 in
theorem mslight_any (p : PackD) (s : PackS) (w : World) (hp : PackIn w p s) (hw : p.Wf) : Calls Tryz.prog 6 #[packVal p s] w (BoolIs w (lightF p)) := by
  have Hmany := hid_ (light_many (p := p))
  have Hlong := hid_ (fun s => light_long (p := p) (s := s))
  have Hall := hid_ (light_all (p := p))
  generalize lightF p = r at *
  have Hp := hid_ hp
  have q1 := hp.r1.cap
  have q2 := hp.r1.max
  have q3 := hp.r2.cap
  have q4 := hp.r2.max
  have q5 := hp.r3.cap
  have q6 := hp.r3.max
  have Hw := hid_ (fun s (h : s ∈ p.spans) => hw.spans s h)
  clear hp hw
  unfold Few at Hmany Hall
  obtain ⟨kd, tr, bn, bd, sn, sd, v, ok, l1, l2, l3⟩ := p
  obtain ⟨a1, e1, a2, e2, a3, e3⟩ := s
  simp only at q1 q2 q3 q4 q5 q6 Hmany Hlong Hall Hw
  have Ha := hid_ (show Below w.heap.size w (w.alloc (.cells (packCells ⟨kd, tr, bn, bd, sn, sd, v, ok, l1, l2, l3⟩ ⟨a1, e1, a2, e2, a3, e3⟩) 30)) from (Below.refl _ _).alloc (Nat.le_refl _) _)
  have Hr := hid_ (show SpanRow w a1 l1.length e1 l1 from Hp.out.r1)
  by_cases h1 : 40 < l1.length
  · have t1 : decide ((40 : Int) < (l1.length : Int)) = true := decide_eq_true (by omega)
    have Hf := hid_ (Hmany.out (by omega))
    clear h1
    go_enter Tryz.func6, Tryz.ntmps6
    go_wp2_with fail
    go_ret
    exact boolIs_mk Hf.out Ha.out
  have t1 : decide ((40 : Int) < (l1.length : Int)) = false := decide_eq_false (by omega)
  by_cases h2 : 100 < l2.length
  · have t2 : decide ((100 : Int) < (l2.length : Int)) = true := decide_eq_true (by omega)
    have Hf := hid_ (Hmany.out (by omega))
    go_enter Tryz.func6, Tryz.ntmps6
    go_wp2_with fail
    go_ret
    exact boolIs_mk Hf.out Ha.out
  have t2 : decide ((100 : Int) < (l2.length : Int)) = false := decide_eq_false (by omega)
  by_cases h3 : 100 < l3.length
  · have t3 : decide ((100 : Int) < (l3.length : Int)) = true := decide_eq_true (by omega)
    have Hf := hid_ (Hmany.out (by omega))
    go_enter Tryz.func6, Tryz.ntmps6
    go_wp2_with fail
    go_ret
    exact boolIs_mk Hf.out Ha.out
  have t3 : decide ((100 : Int) < (l3.length : Int)) = false := decide_eq_false (by omega)
  have Hfew := hid_ (show l1.length ≤ 40 ∧ l2.length ≤ 100 ∧ l3.length ≤ 100 by omega)
  go_enter Tryz.func6, Tryz.ntmps6
  go_wp2_with fail
  go_loop [3] (fun vi => ∃ k : Nat, k ≤ l1.length ∧ vi = .int .i64 (k : Nat) ∧ Hid (∀ j (hj : j < l1.length), j < k → okNm l1[j] = true)) (fun vi => l1.length - (intOf vi).toNat)
  case atStart => exact ⟨0, Nat.zero_le _, rfl, hid_ (fun j _ h => absurd h (by omega))⟩
  case round =>
    obtain ⟨k, hk, rfl, Hg⟩ := hrel
    by_cases hlt : k < l1.length
    · obtain ⟨b, off, rfl, hc⟩ := Hr.out.at_ hlt
      have hbw := hc.lt
      obtain ⟨c0, c1, c2, c3, c4, c5, c6, c7⟩ := hc
      have y1 : (k : Int) < (l1.length : Int) := by omega
      have y2 : (0 : Int) ≤ (k : Int) := by omega
      have hx := Hw.out l1[k] (List.getElem_mem hlt)
      have z1 := hx.name
      have z2 := hx.service
      clear hx
      have Hbad := hid_ (Hlong.out l1[k] (List.getElem_mem hlt))
      have Hn := hid_ (fun (h : okNm l1[k] = true) => show ∀ j (hj : j < l1.length), j < k + 1 → okNm l1[j] = true from fun j hj h2 => by
        by_cases e : j = k
        · subst e; exact h
        · exact Hg.out j hj (by omega))
      generalize l1[k] = x at *
      by_cases n1 : 200 < x.name.size
      · have g3 : decide ((200 : Int) < (x.name.size : Int)) = true := decide_eq_true (by omega)
        have Hf := hid_ (Hbad.out (by unfold okNm; rw [decide_eq_false (show ¬ x.name.size ≤ 200 by omega)]; rfl))
        go_wp2_with fail
        go_ret
        exact boolIs_mk Hf.out Ha.out
      have g3 : decide ((200 : Int) < (x.name.size : Int)) = false := decide_eq_false (by omega)
      by_cases n2 : 200 < x.service.size
      · have g4 : decide ((200 : Int) < (x.service.size : Int)) = true := decide_eq_true (by omega)
        have Hf := hid_ (Hbad.out (by unfold okNm; rw [decide_eq_false (show ¬ x.service.size ≤ 200 by omega)]; simp))
        go_wp2_with fail
        go_ret
        exact boolIs_mk Hf.out Ha.out
      have g4 : decide ((200 : Int) < (x.service.size : Int)) = false := decide_eq_false (by omega)
      have Hn2 := hid_ (Hn.out (by unfold okNm; rw [decide_eq_true (show x.name.size ≤ 200 by omega), decide_eq_true (show x.service.size ≤ 200 by omega)]; rfl))
      go_wp2_with fail
      go_round
      case rel => exact ⟨k + 1, by omega, by go_num, Hn2⟩
      case measure => simp [intOf] <;> omega
    · obtain rfl : k = l1.length := by omega
      go_wp2_with fail
      go_ret
      exact boolIs_mk (Hall.out Hfew.out (fun j hj => Hg.out j hj hj)) Ha.out
end Go.Proofs.YtnpbokbfkdncmaaGreat
