/-
  The reference's Decode while it appends to a list.
-/
import Derived.Test.YtnpbokbfkdncmaaGreatZRDec
import Derived.Test.YtnpbokbfkdncmaaGreatZReadL
import Derived.Test.YtnpbokbfkdncmaaGreatZRefCutIn
namespace Go.Proofs.YtnpbokbfkdncmaaGreat
set_option linter.unusedSimpArgs false
set_option linter.unusedVariables false
open Go.RowKit Ru Fm
theorem Rr.fresh {w : World} {g : Nat} {Q : Nat → Prop} {s : List UInt8 × Bool} (h : Rr w g Q s) : Rr w g (fun q => Q q ∨ w.heap.size ≤ q) s := by
  obtain ⟨A, n, c, h1, h2, h3⟩ := h
  refine ⟨A, n, c, h1, h2, fun a e hne => ⟨(h3 a e hne).1, ?_⟩⟩
  rintro (hq | hq)
  · exact (h3 a e hne).2 hq
  · obtain ⟨b, off, e2, hc⟩ := h2.holds (bytes_ne hne)
    rw [e] at e2
    cases e2
    obtain ⟨x, t, hx⟩ := List.exists_cons_of_ne_nil hne
    rw [hx] at hc
    have := lt_of_cell (hc 0 _ rfl)
    simp only at this hq
    omega
/-- Where the reference's Decode stands, with a row that is appended to, in block A. -/
structure Lr (w : World) (gr gp B : Nat) (W : World) (l : List UInt8 × Bool) (P : PackD) (S : PackS) (A : Option Addr) : Prop where
  st : Rs w gr gp W l P S
  rd : Rr W gr (fun q => (q = w.heap.size ∨ q = gp) ∨ ∃ a, A = some a ∧ q = a.block) l
  o4 : gp < B
  size : B ≤ W.heap.size
  row : ∀ a, A = some a → B ≤ a.block ∧ a.block < W.heap.size
theorem Lr.start {w W : World} {gr gp : Nat} {l : List UInt8 × Bool} {P : PackD} {S : PackS} (s : Rs w gr gp W l P S) : Lr w gr gp W.heap.size W l P S none :=
  ⟨s, s.rd.sub (fun q hq => by
    rcases hq with hq | ⟨a, e, _⟩
    · exact hq
    · cases e), s.pk.lt, Nat.le_refl _, fun a e => by cases e⟩
theorem Rs.drew {w W : World} {gr gp : Nat} {l : List UInt8 × Bool} {P : PackD} {S : PackS} (s : Rs w gr gp W l P S) : Rs w gr gp W.drew l P S :=
  ⟨s.rd.drew, s.res, s.pk, s.below.drew, s.o1, s.o2⟩
theorem Lr.drew {w W : World} {gr gp B : Nat} {l : List UInt8 × Bool} {P : PackD} {S : PackS} {A : Option Addr} (s : Lr w gr gp B W l P S A) : Lr w gr gp B W.drew l P S A :=
  ⟨s.st.drew, s.rd.drew, s.o4, s.size, s.row⟩
theorem Lr.call {w W W' : World} {gr gp B : Nat} {l l' : List UInt8 × Bool} {P : PackD} {S : PackS} {A : Option Addr} (s : Lr w gr gp B W l P S A) (hg : W.grownBy W' (some gr)) (hr : Rr W' gr (fun q => (q = w.heap.size ∨ q = gp) ∨ ∃ a, A = some a ∧ q = a.block) l') : Lr w gr gp B W' l' P S A :=
  ⟨s.st.call hg (hr.sub fun _ h => .inl h), hr, s.o4, Nat.le_trans s.size hg.size, fun a e => ⟨(s.row a e).1, Nat.lt_of_lt_of_le (s.row a e).2 hg.size⟩⟩
theorem Lr.alloc {w W : World} {gr gp B : Nat} {l : List UInt8 × Bool} {P : PackD} {S : PackS} {A : Option Addr} (s : Lr w gr gp B W l P S A) (o : Obj) : Lr w gr gp B (W.alloc o) l P S A := by
  have h1 := s.st.o1
  have h2 := s.st.o2
  have h4 := s.o4
  have h5 := s.size
  exact ⟨⟨s.st.rd.alloc o, s.st.res.alloc o, s.st.pk.alloc o, s.st.below.alloc (by omega) o, h1, h2⟩, s.rd.alloc o, h4, by simp; omega, fun a e => ⟨(s.row a e).1, by have := (s.row a e).2; simp; omega⟩⟩
/-- The row is appended to. -/
theorem Lr.app {w W W' : World} {gr gp B : Nat} {l : List UInt8 × Bool} {P : PackD} {S : PackS} {A A' : Option Addr} {n c n' c' : Nat} (s : Lr w gr gp B W l P S A) (hg : W.grownBy W' (Value.slice A n c).ownBlock)
    (hw : (Value.slice A' n' c').ownBlock = (Value.slice A n c).ownBlock ∨ (Value.slice A' n' c').ownBlock = some W.heap.size) (hlt : ∀ a, A' = some a → a.block < W'.heap.size) : Lr w gr gp B W' l P S A' := by
  have h1 := s.st.o1
  have h2 := s.st.o2
  have h4 := s.o4
  have h5 := s.size
  have hrow : ∀ j, (Value.slice A n c).ownBlock = some j → ∃ a, A = some a ∧ j = a.block := by
    intro j hj
    rcases A with _ | x
    · cases hj
    · have h2 : (Value.slice (some x) n c).ownBlock = some x.block := rfl
      rw [h2] at hj
      injection hj with hj
      exact ⟨x, rfl, hj.symm⟩
  have hne : ∀ j, j < B → some j ≠ (Value.slice A n c).ownBlock := fun j hj e => by
    obtain ⟨a, ha, rfl⟩ := hrow j e.symm
    have := (s.row a ha).1
    omega
  have hA' : ∀ a, A' = some a → (∃ a0, A = some a0 ∧ a.block = a0.block) ∨ a.block = W.heap.size := by
    rintro a rfl
    have h9 : (Value.slice (some a) n' c').ownBlock = some a.block := rfl
    rw [h9] at hw
    rcases hw with hw | hw
    · obtain ⟨a0, e0, e1⟩ := hrow _ hw.symm
      exact .inl ⟨a0, e0, e1⟩
    · injection hw with hw
      exact .inr hw
  have hrd : Rr W' gr (fun q => (q = w.heap.size ∨ q = gp) ∨ ∃ a, A' = some a ∧ q = a.block) l := by
    refine (s.rd.fresh.grown hg (hne gr (by omega)) (fun q hq => ?_)).sub ?_
    · obtain ⟨a, ha, rfl⟩ := hrow q hq
      exact .inl (.inr ⟨a, ha, rfl⟩)
    · rintro q (hq | ⟨a, ha, rfl⟩)
      · exact .inl (.inl hq)
      · rcases hA' a ha with ⟨a0, e0, e1⟩ | e
        · exact .inl (.inr ⟨a0, e0, e1⟩)
        · exact .inr (by omega)
  refine ⟨⟨hrd.sub fun _ h => .inl h, s.st.res.grown hg (Ne.symm (hne _ (by omega))), s.st.pk.grown hg (Ne.symm (hne _ (by omega))), ?_, h1, h2⟩, hrd, h4, Nat.le_trans h5 hg.size, fun a ha => ⟨?_, hlt a ha⟩⟩
  · exact ⟨hg.os.trans s.st.below.os, hg.tape.trans s.st.below.tape, hg.output.trans s.st.below.output, Nat.le_trans s.st.below.size hg.size, fun i hi => (hg.block i (by have := s.st.below.size; omega) (hne i (by omega))).trans (s.st.below.block i hi)⟩
  · rcases hA' a ha with ⟨a0, e0, e1⟩ | e
    · have := (s.row a0 e0).1
      omega
    · omega
theorem Lr.set {w W : World} {gr gp B : Nat} {l : List UInt8 × Bool} {P : PackD} {S : PackS} {A : Option Addr} (s : Lr w gr gp B W l P S A) (P' : PackD) (S' : PackS) (i : Nat) (v : Value) (hc : (packCells P S).setIfInBounds i v = packCells P' S') : Lr w gr gp B (W.setCell ⟨gp, i, none⟩ v) l P' S' A := by
  have h2 := s.st.o2
  exact ⟨s.st.set P' S' i v hc, s.rd.store (.inl (.inr rfl)) (by omega) i v, s.o4, by have := s.size; simpa using this, fun a e => ⟨(s.row a e).1, by have := (s.row a e).2; simpa using this⟩⟩
theorem Lr.to {w W : World} {gr gp B : Nat} {l l' : List UInt8 × Bool} {P P' : PackD} {S : PackS} {A : Option Addr} (s : Lr w gr gp B W l P S A) (e : l = l') (e2 : P = P') : Lr w gr gp B W l' P' S A := e ▸ e2 ▸ s
/-- What the round's loads read. -/
abbrev CellRr (gp i gr : Nat) (v : Value) (bad : Bool) (W : World) : Prop := W.cell? ⟨gp, i, none⟩ = some v ∧ gp < W.heap.size
theorem cellRr_of {w W : World} {gr gp : Nat} {l : List UInt8 × Bool} {P : PackD} {S : PackS} (s : Rs w gr gp W l P S) (i : Nat) (v : Value) {v' : Value} (hv : (packCells P S)[i]? = some v) (e : v = v') : CellIn gp i v' W := by
  subst e
  exact ⟨s.pk.cell i v hv, s.pk.lt⟩
theorem Lr.kept {w W W' : World} {gr gp B : Nat} {l : List UInt8 × Bool} {P : PackD} {S : PackS} {A : Option Addr} {e : TypeId} {size n c g : Nat} {xs : List Value} (s : Lr w gr gp B W l P S A) (ho : W.ownsRow B e size (.slice A n c) n xs) (hg : W.grownBy W' (some g)) (hB : g < B) : W'.ownsRow B e size (.slice A n c) n xs := by
  refine World.ownsRow.kept ho hg ?_
  rcases A with _ | a
  · exact .inl rfl
  · refine .inr (fun e2 => ?_)
    have h2 : (Value.slice (some a) n c).ownBlock = some a.block := rfl
    rw [h2] at e2
    injection e2 with e2
    have := (s.row a rfl).1
    omega
theorem Rr.bad_cell {W : World} {g : Nat} {Q : Nat → Prop} {s : List UInt8 × Bool} (h : Rr W g Q s) : W.cell? ⟨g, 1, none⟩ = some (.bool s.2) := by
  obtain ⟨A, n, c, h1, _⟩ := h
  exact h1.cell 1 _ rfl
end Go.Proofs.YtnpbokbfkdncmaaGreat

/-
  The reference's Decode while it reads a member.
-/
namespace Go.Proofs.YtnpbokbfkdncmaaGreat
set_option linter.unusedSimpArgs false
set_option linter.unusedVariables false
open Go.RowKit Ru Fm
theorem Lr.far {w W : World} {gr gp B gm : Nat} {s : List UInt8 × Bool} {P : PackD} {S : PackS} {A : Option Addr} (h : Lr w gr gp B W s P S A) (i : Nat) (v : Value) (hrd : Rr (W.setCell ⟨gm, i, none⟩ v) gr (fun q => (q = w.heap.size ∨ q = gp) ∨ ∃ a, A = some a ∧ q = a.block) s) (hm : B ≤ gm) : Lr w gr gp B (W.setCell ⟨gm, i, none⟩ v) s P S A := by
  have h1 := h.st.o1
  have h2 := h.st.o2
  have h4 := h.o4
  exact ⟨⟨hrd.sub fun _ h => .inl h, h.st.res.far (by show _ ≠ gm; omega) v, h.st.pk.far (by show _ ≠ gm; omega) v, h.st.below.setCell (p := ⟨gm, i, none⟩) (by show _ ≤ gm; omega) v, h1, h2⟩, hrd, h4, by simpa using h.size, fun a e => ⟨(h.row a e).1, by simpa using (h.row a e).2⟩⟩
/-- .. with a member in block gm that is being written. -/
structure Mr (w : World) (gr gp B gm : Nat) (W : World) (s : List UInt8 × Bool) (P : PackD) (S : PackS) (A : Option Addr) (n c : Nat) (xs : List Value) (cs : Array Value) : Prop where
  lr : Lr w gr gp B W s P S A
  rd : Rr W gr (fun q => ((q = w.heap.size ∨ q = gp) ∨ ∃ a, A = some a ∧ q = a.block) ∨ q = gm) s
  own : W.ownsRow B 64 3 (.slice A n c) n xs
  box : Whole W gm 64 cs
  hm : B ≤ gm
  hne : ∀ a, A = some a → a.block ≠ gm
theorem Mr.start {w W : World} {gr gp B n c : Nat} {s : List UInt8 × Bool} {P : PackD} {S : PackS} {A : Option Addr} {xs : List Value} (L : Lr w gr gp B W s P S A) (O : W.ownsRow B 64 3 (.slice A n c) n xs) (cs : Array Value) : Mr w gr gp B W.heap.size (W.alloc (.cells cs 64)) s P S A n c xs cs :=
  ⟨L.alloc _, L.rd.bar _ _ rfl, World.ownsRow.alloc O _, whole_new _ _ _, L.size, fun a e => by have := (L.row a e).2; omega⟩
theorem Mr.call {w W W' : World} {gr gp B gm n c : Nat} {s s' : List UInt8 × Bool} {P : PackD} {S : PackS} {A : Option Addr} {xs : List Value} {cs : Array Value} (m : Mr w gr gp B gm W s P S A n c xs cs) (hg : W.grownBy W' (some gr)) (hr : Rr W' gr (fun q => ((q = w.heap.size ∨ q = gp) ∨ ∃ a, A = some a ∧ q = a.block) ∨ q = gm) s') : Mr w gr gp B gm W' s' P S A n c xs cs := by
  have h1 := m.lr.st.o1
  have h2 := m.lr.st.o2
  have h4 := m.lr.o4
  have h5 := m.hm
  exact ⟨m.lr.call hg (hr.sub fun _ h => .inl h), hr, m.lr.kept m.own hg (by omega), m.box.grown hg (by intro e; injection e with e; omega), h5, m.hne⟩
theorem Mr.set {w W : World} {gr gp B gm n c : Nat} {s : List UInt8 × Bool} {P : PackD} {S : PackS} {A : Option Addr} {xs : List Value} {cs : Array Value} (m : Mr w gr gp B gm W s P S A n c xs cs) (i : Nat) (v : Value) (cs' : Array Value) (hc : cs.setIfInBounds i v = cs') : Mr w gr gp B gm (W.setCell ⟨gm, i, none⟩ v) s P S A n c xs cs' := by
  have h1 := m.lr.st.o1
  have h2 := m.lr.st.o2
  have h4 := m.lr.o4
  have h5 := m.hm
  have hr := m.rd.store (q := gm) (.inr rfl) (by omega) i v
  refine ⟨m.lr.far i v (hr.sub fun _ h => .inl h) h5, hr, World.ownsRow.kept m.own (grown_set W gm i v) ?_, hc ▸ m.box.store i v, h5, m.hne⟩
  rcases A with _ | a
  · exact .inl rfl
  · refine .inr (fun e2 => ?_)
    have h2 : (Value.slice (some a) n c).ownBlock = some a.block := rfl
    rw [h2] at e2
    injection e2 with e2
    exact m.hne a rfl e2
end Go.Proofs.YtnpbokbfkdncmaaGreat

/-
  The reference's Decode while it reads spans.
-/
namespace Go.Proofs.YtnpbokbfkdncmaaGreat
set_option linter.unusedSimpArgs false
set_option linter.unusedVariables false
open Go.RowKit Ru Fm
theorem rr_startA {w w1 : World} {A A1 : Option Addr} {n1 c1 n c : Nat} {b d : List UInt8} (hs : Sl w A n c b) (hb : b ≠ []) (h1 : Sl w1 A1 n1 c1 d) (i1 : Fr.Within A1 A) (hlt : w.heap.size < w1.heap.size) : Rr (w1.alloc (.cells #[.slice A1 n1 c1, .bool false] 57)) w1.heap.size (fun q => w.heap.size ≤ q) (d, false) := by
  refine ⟨A1, n1, c1, whole_new _ _ _, h1.below ((Below.refl _ _).alloc (Nat.le_refl _) _), fun a e hne => ?_⟩
  obtain ⟨a0, rfl, e'⟩ := i1 a e
  have := hs.block hb
  exact ⟨by omega, by show ¬ w.heap.size ≤ a.block; omega⟩
theorem Q_all (B gp : Nat) (h : B ≤ gp) : ∀ q, (q = B ∨ q = gp) → B ≤ q := by
  rintro q (rfl | rfl)
  · exact Nat.le_refl _
  · exact h
theorem Q_row {B0 B gp : Nat} {A : Option Addr} (h : B0 ≤ gp) (hB : B0 ≤ B) (hr : ∀ a, A = some a → B ≤ a.block) : ∀ q, ((q = B0 ∨ q = gp) ∨ ∃ a, A = some a ∧ q = a.block) → B0 ≤ q := by
  rintro q (hq | ⟨a, e, rfl⟩)
  · exact Q_all B0 gp h q hq
  · exact Nat.le_trans hB (hr a e)
/-- What is left to the reader, where the reader has only read: from block B on nothing of it lies. -/
theorem Rr.open_ {w W : World} {g : Nat} {s : List UInt8 × Bool} (h : Rr W g (fun q => w.heap.size ≤ q) s) (hb : Below w.heap.size w W) : ∃ A n c, Whole W g 57 #[.slice A n c, .bool s.2] ∧ Sl W A n c s.1 ∧ ∀ W', Below w.heap.size w W' → Sl W' A n c s.1 := by
  obtain ⟨A, n, c, h1, h2, h3⟩ := h
  exact ⟨A, n, c, h1, h2, stable_of h2 hb (fun a e hne => Nat.lt_of_not_le (h3 a e hne).2) (Nat.le_refl _)⟩
theorem Rr.close_ {w W : World} {g : Nat} {A : Option Addr} {n c : Nat} {l : List UInt8} {bad : Bool} (h1 : Whole W g 57 #[.slice A n c, .bool bad]) (hall : ∀ W', Below w.heap.size w W' → Sl W' A n c l) (hb : Below w.heap.size w W) (hg : w.heap.size ≤ g) : Rr W g (fun q => w.heap.size ≤ q) (l, bad) := by
  refine ⟨A, n, c, h1, hall _ hb, fun a e hne => ?_⟩
  have := place_of hall hb a e hne
  exact ⟨by omega, by show ¬ w.heap.size ≤ a.block; omega⟩
end Go.Proofs.YtnpbokbfkdncmaaGreat
