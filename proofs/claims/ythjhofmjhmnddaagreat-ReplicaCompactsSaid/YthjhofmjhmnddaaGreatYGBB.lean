/-
  What the reference's Rune answers.
-/
import Derived.Test.YthjhofmjhmnddaaGreatYGAA
import Derived.Test.YthjhofmjhmnddaaGreatYGBA
import Derived.Laws.StructEq
import Derived.Deep.RegionLaw
namespace Go.Proofs.YthjhofmjhmnddaaGreat
set_option linter.unusedSimpArgs false
set_option linter.unusedVariables false
open Go.RowKit Ru

def RuneIs (w : World) (s : ByteArray) (e : Ending) (w' : World) : Prop := e = .returned (.tuple #[.int .i32 ((runeF s).1 : Nat), .int .i64 ((runeF s).2 : Nat)]) ∧ w = w'
end Go.Proofs.YthjhofmjhmnddaaGreat

/-
  What the reference's Runes and Name answer.
-/
namespace Go.Proofs.YthjhofmjhmnddaaGreat
set_option linter.unusedSimpArgs false
set_option linter.unusedVariables false
open Go.RowKit Ru

def runeVals (rs : List Nat) : List Value := rs.map fun r => .int .i32 (r : Nat)
def RunesPost (w : World) (s : ByteArray) (e : Ending) (w' : World) : Prop :=
  ∃ A n c, e = .returned (.tuple #[.slice A n c, .bool (runesOf s 0).isSome]) ∧ Row w' A n c (runeVals ((runesOf s 0).getD [])) ∧ Below w.heap.size w w'
def KindIs (w : World) (k : Int) (e : Ending) (w' : World) : Prop := e = .returned (.int .i64 k) ∧ Below w.heap.size w w'
theorem kindIs_mk {w w' : World} {k k' : Int} (h : k = k') (hb : Below w.heap.size w w') : KindIs w k (.returned (.int .i64 k')) w' := ⟨by rw [h], hb⟩
end Go.Proofs.YthjhofmjhmnddaaGreat

/-
  What the reference's Eight, Number and Right answer.
-/
namespace Go.Proofs.YthjhofmjhmnddaaGreat
set_option linter.unusedSimpArgs false
set_option linter.unusedVariables false
open Go.RowKit Ru

end Go.Proofs.YthjhofmjhmnddaaGreat

/-
  What the reference's Right and Less answer; a span as a value.
-/
namespace Go.Proofs.YthjhofmjhmnddaaGreat
set_option linter.unusedSimpArgs false
set_option linter.unusedVariables false
open Go.RowKit Ru

def spanCells (s : SpanD) : Array Value := #[.int .u64 (s.trace : Nat), .int .u64 (s.id : Nat), .int .u64 (s.parent : Nat), .int .u64 (s.start : Nat), .int .u64 (s.len : Nat), .string s.service, .string s.name, .bool s.fail]
abbrev spanVal (s : SpanD) : Value := .agg #[.int .u64 (s.trace : Nat), .int .u64 (s.id : Nat), .int .u64 (s.parent : Nat), .int .u64 (s.start : Nat), .int .u64 (s.len : Nat), .string s.service, .string s.name, .bool s.fail]

def lessF (a b : SpanD) : Bool := decide (a.start < b.start) || (decide (a.start = b.start) && decide (a.id < b.id))
def BoolIs (w : World) (k : Bool) (e : Ending) (w' : World) : Prop := e = .returned (.bool k) ∧ Below w.heap.size w w'
theorem boolIs_mk {w w' : World} {k k' : Bool} (h : k = k') (hb : Below w.heap.size w w') : BoolIs w k (.returned (.bool k')) w' := ⟨by rw [h], hb⟩
end Go.Proofs.YthjhofmjhmnddaaGreat

/-
  Two spans held against each other.
-/
namespace Go.Proofs.YthjhofmjhmnddaaGreat
set_option linter.unusedSimpArgs false
set_option linter.unusedVariables false
open Go.RowKit Ru

def sameF (a b : SpanD) : Bool := decide (a.trace = b.trace) && (decide (a.id = b.id) && (decide (a.parent = b.parent) && (decide (a.start = b.start) && (decide (a.len = b.len) && (decide (a.service.toList = b.service.toList) && (decide (a.name.toList = b.name.toList) && decide (a.fail = b.fail)))))))
end Go.Proofs.YthjhofmjhmnddaaGreat

/-
  Slices of spans: eight cells each.
-/
namespace Go.Proofs.YthjhofmjhmnddaaGreat
set_option linter.unusedSimpArgs false
set_option linter.unusedVariables false
open Go.RowKit Ru

/-- A span lies at this place. -/
structure SpanAt (w : World) (b o : Nat) (s : SpanD) : Prop where
  c0 : w.cell? ⟨b, o, none⟩ = some (.int .u64 (s.trace : Nat))
  c1 : w.cell? ⟨b, o + 1, none⟩ = some (.int .u64 (s.id : Nat))
  c2 : w.cell? ⟨b, o + 2, none⟩ = some (.int .u64 (s.parent : Nat))
  c3 : w.cell? ⟨b, o + 3, none⟩ = some (.int .u64 (s.start : Nat))
  c4 : w.cell? ⟨b, o + 4, none⟩ = some (.int .u64 (s.len : Nat))
  c5 : w.cell? ⟨b, o + 5, none⟩ = some (.string s.service)
  c6 : w.cell? ⟨b, o + 6, none⟩ = some (.string s.name)
  c7 : w.cell? ⟨b, o + 7, none⟩ = some (.bool s.fail)
theorem SpanAt.lt {w : World} {b o : Nat} {s : SpanD} (h : SpanAt w b o s) : b < w.heap.size := lt_of_cell h.c0
theorem SpanAt.keep {w w' : World} {b o : Nat} {s : SpanD} (h : SpanAt w b o s) (hk : ∀ p : Addr, p.block < w.heap.size → w'.cell? p = w.cell? p) : SpanAt w' b o s := by
  have hl := h.lt
  refine ⟨?_, ?_, ?_, ?_, ?_, ?_, ?_, ?_⟩
  all_goals rw [hk _ hl]
  · exact h.c0
  · exact h.c1
  · exact h.c2
  · exact h.c3
  · exact h.c4
  · exact h.c5
  · exact h.c6
  · exact h.c7
/-- The slice with this place, length and room reads as the spans ss. -/
structure SpanRow (w : World) (A : Option Addr) (n c : Nat) (ss : List SpanD) : Prop where
  holds : ss ≠ [] → ∃ b off, A = some ⟨b, off, none⟩ ∧ ∀ k (h : k < ss.length), SpanAt w b (off + k * 8) ss[k]
  len : ss.length = n
  cap : n ≤ c
  max : c ≤ 9223372036854775807
  nil : A = none → c = 0
theorem SpanRow.keep {w w' : World} {A : Option Addr} {n c : Nat} {ss : List SpanD} (h : SpanRow w A n c ss) (hk : ∀ p : Addr, p.block < w.heap.size → w'.cell? p = w.cell? p) : SpanRow w' A n c ss :=
  ⟨fun hne => let ⟨b, off, e, hc⟩ := h.holds hne; ⟨b, off, e, fun k hkl => (hc k hkl).keep hk⟩, h.len, h.cap, h.max, h.nil⟩
theorem SpanRow.below {w w' : World} {A : Option Addr} {n c : Nat} {ss : List SpanD} (h : SpanRow w A n c ss) (hb : Below w.heap.size w w') : SpanRow w' A n c ss := h.keep fun _ hp => hb.cell hp
theorem SpanRow.at_ {w : World} {A : Option Addr} {n c : Nat} {ss : List SpanD} (h : SpanRow w A n c ss) {k : Nat} (hk : k < ss.length) : ∃ b off, A = some ⟨b, off, none⟩ ∧ SpanAt w b (off + k * 8) ss[k] := by
  obtain ⟨b, off, e, hc⟩ := h.holds (by rintro rfl; simp at hk)
  exact ⟨b, off, e, hc k hk⟩

def cellsOf (s : SpanD) : List Value := [.int .u64 (s.trace : Nat), .int .u64 (s.id : Nat), .int .u64 (s.parent : Nat), .int .u64 (s.start : Nat), .int .u64 (s.len : Nat), .string s.service, .string s.name, .bool s.fail]
def cellsAll (ss : List SpanD) : List Value := ss.flatMap cellsOf
theorem cellsOf_length (s : SpanD) : (cellsOf s).length = 8 := rfl
theorem cellsAll_length (ss : List SpanD) : (cellsAll ss).length = ss.length * 8 := by
  induction ss with
  | nil => rfl
  | cons s ss ih => rw [cellsAll, List.flatMap_cons, List.length_append, cellsOf_length, show (ss.flatMap cellsOf).length = ss.length * 8 from ih, List.length_cons]; omega
theorem cellsAll_append (a b : List SpanD) : cellsAll (a ++ b) = cellsAll a ++ cellsAll b := by simp [cellsAll]
theorem cellsAll_get : ∀ (ss : List SpanD) {k : Nat} (h : k < ss.length) (j : Nat), j < 8 → (cellsAll ss)[k * 8 + j]? = (cellsOf ss[k])[j]?
  | s :: ss, 0, _, j, hj => by
    rw [cellsAll, List.flatMap_cons, Nat.zero_mul, Nat.zero_add, List.getElem?_append_left (by rw [cellsOf_length]; exact hj)]
    rfl
  | s :: ss, k + 1, h, j, hj => by
    rw [cellsAll, List.flatMap_cons, List.getElem?_append_right (by rw [cellsOf_length]; omega), cellsOf_length, show (k + 1) * 8 + j - 8 = k * 8 + j by omega]
    exact cellsAll_get ss (by simpa using h) j hj
theorem spanAt_of {w : World} {b o : Nat} {s : SpanD} (h : ∀ j u, (cellsOf s)[j]? = some u → w.cell? ⟨b, o + j, none⟩ = some u) : SpanAt w b o s :=
  ⟨h 0 _ rfl, h 1 _ rfl, h 2 _ rfl, h 3 _ rfl, h 4 _ rfl, h 5 _ rfl, h 6 _ rfl, h 7 _ rfl⟩
theorem SpanAt.cell {w : World} {b o : Nat} {s : SpanD} (h : SpanAt w b o s) (j : Nat) (u : Value) (hu : (cellsOf s)[j]? = some u) : w.cell? ⟨b, o + j, none⟩ = some u := by
  match j, hu with
  | 0, hu => cases hu; exact h.c0
  | 1, hu => cases hu; exact h.c1
  | 2, hu => cases hu; exact h.c2
  | 3, hu => cases hu; exact h.c3
  | 4, hu => cases hu; exact h.c4
  | 5, hu => cases hu; exact h.c5
  | 6, hu => cases hu; exact h.c6
  | 7, hu => cases hu; exact h.c7
/-- .. as a place of cells. -/
theorem SpanRow.cells {w : World} {A : Option Addr} {n c : Nat} {ss : List SpanD} (h : SpanRow w A n c ss) : Holds w A (cellsAll ss) := by
  intro hne
  obtain ⟨b, off, e, hc⟩ := h.holds (by rintro rfl; exact hne rfl)
  refine ⟨b, off, e, fun k u hu => ?_⟩
  have hk : k < ss.length * 8 := by
    have := (List.getElem?_eq_some_iff.1 hu).1
    rwa [cellsAll_length] at this
  have h1 : k / 8 < ss.length := by omega
  have h2 := cellsAll_get ss h1 (k % 8) (by omega)
  rw [show k / 8 * 8 + k % 8 = k by omega] at h2
  rw [h2] at hu
  have h3 := (hc _ h1).cell (k % 8) u hu
  rwa [show off + k / 8 * 8 + k % 8 = off + k by omega] at h3
theorem spanRow_of {w : World} {A : Option Addr} {n c : Nat} {ss : List SpanD} (h : Holds w A (cellsAll ss)) (h1 : ss.length = n) (h2 : n ≤ c) (h3 : c ≤ 9223372036854775807) (h4 : A = none → c = 0) : SpanRow w A n c ss := by
  refine ⟨fun hne => ?_, h1, h2, h3, h4⟩
  have hne' : cellsAll ss ≠ [] := by
    intro e
    have := congrArg List.length e
    rw [cellsAll_length] at this
    have := List.length_pos_iff.2 hne
    simp at *
    omega
  obtain ⟨b, off, e, hc⟩ := h hne'
  refine ⟨b, off, e, fun k hk => spanAt_of fun j u hu => ?_⟩
  have hj : j < 8 := (List.getElem?_eq_some_iff.1 hu).1
  have := hc (k * 8 + j) u (by rw [cellsAll_get ss hk j hj]; exact hu)
  rwa [← Nat.add_assoc] at this
/-- A row of spans of the call's own, from block B on. -/
def OwnSp (B : Nat) (w : World) (A : Option Addr) (n c : Nat) (ss : List SpanD) : Prop := w.ownsRow B 124 8 (.slice A n c) n (cellsAll ss)
theorem OwnSp.len {B : Nat} {w : World} {A : Option Addr} {n c : Nat} {ss : List SpanD} (h : OwnSp B w A n c ss) : ss.length = n := by
  have := h.1
  rw [cellsAll_length] at this
  omega
theorem OwnSp.row {B : Nat} {w : World} {A : Option Addr} {n c : Nat} {ss : List SpanD} (h : OwnSp B w A n c ss) : SpanRow w A n c ss := by
  have hh := own_holds h
  have hl := h.len
  obtain ⟨hx, ⟨e', _⟩ | ⟨g, cap, cur, e', hg, _, hnc, hcm, hs, hc⟩⟩ := h
  · injection e' with a b c
    subst a
    subst c
    exact spanRow_of hh hl (by omega) (by omega) (fun _ => rfl)
  · injection e' with a b c
    subst a c
    unfold maxLen at hcm
    exact spanRow_of hh hl hnc (by omega) (fun e => by cases e)
end Go.Proofs.YthjhofmjhmnddaaGreat

/-
  What the reference's text and Put answer.
-/
namespace Go.Proofs.YthjhofmjhmnddaaGreat
set_option linter.unusedSimpArgs false
set_option linter.unusedVariables false
open Go.RowKit Ru

def textF (s : ByteArray) : List UInt8 := UInt8.ofNat s.size :: strB s
def numsN (s : SpanD) : List Nat := [s.trace, s.id, s.parent, s.start, s.len]
def numVals (s : SpanD) : List Value := (numsN s).map fun n => .int .u64 (n : Nat)
def headK (s : SpanD) (k : Nat) : List UInt8 := ((numsN s).take k).flatMap eight
def flag (b : Bool) : UInt8 := if b then 1 else 0
/-- A span's bytes. -/
def putF (s : SpanD) : List UInt8 := headK s 5 ++ [flag s.fail] ++ textF s.service ++ textF s.name

def SpanPost (w : World) (l0 : List UInt8) (s : SpanD) (e : Ending) (w' : World) : Prop :=
  (rightF s ≠ 0 ∧ e = .returned (.tuple #[.slice none 0 0, .int .i64 (rightF s)]) ∧ Below w.heap.size w w') ∨
  (rightF s = 0 ∧ ∃ A n c, e = .returned (.tuple #[.slice A n c, .int .i64 0]) ∧ Own w.heap.size w' A n c (l0 ++ putF s) ∧ Below w.heap.size w w')
end Go.Proofs.YthjhofmjhmnddaaGreat

/-
  Plain facts on spans that are put and cut: there and back, and cut off.
-/
namespace Go.Proofs.YthjhofmjhmnddaaGreat
set_option linter.unusedSimpArgs false
set_option linter.unusedVariables false
open Go.RowKit Ru

end Go.Proofs.YthjhofmjhmnddaaGreat

/-
  Rows of spans of the call's own: appending to them, and what is kept beside.
-/
namespace Go.Proofs.YthjhofmjhmnddaaGreat
set_option linter.unusedSimpArgs false
set_option linter.unusedVariables false
open Go.RowKit Ru

theorem info_span : (Tryz.prog.info? 124).map (fun i => (i.zero, i.size, i.bytes)) =
    some (some (.agg #[.int .u64 0, .int .u64 0, .int .u64 0, .int .u64 0, .int .u64 0, .string ⟨#[]⟩, .string ⟨#[]⟩, .bool false]), 8, 80) := by kernel_rfl
theorem cellsAll_one (ss : List SpanD) : ∀ u ∈ cellsAll ss, u.oneCell' = true := by
  intro u hu
  obtain ⟨s, _, h⟩ := List.mem_flatMap.1 hu
  simp [cellsOf] at h
  rcases h with rfl | rfl | rfl | rfl | rfl | rfl | rfl | rfl
  all_goals rfl
theorem OwnSp.none (B : Nat) (w : World) : OwnSp B w .none 0 0 [] := World.ownsRow_nil w B _ _
theorem OwnSp.from_ {B : Nat} {w : World} {A : Option Addr} {n c : Nat} {ss : List SpanD} (h : OwnSp B w A n c ss) : ∀ k, (Value.slice A n c).ownBlock = some k → B ≤ k ∧ k < w.heap.size := World.ownsRow.lt h
theorem OwnSp.later {B : Nat} {w w' : World} {A : Option Addr} {n c : Nat} {ss : List SpanD} (h : OwnSp B w A n c ss) (hb : Below w.heap.size w w') : OwnSp B w' A n c ss := by
  obtain ⟨hx, h | ⟨g, cap, cur, e', hg, hh, r⟩⟩ := h
  · exact ⟨hx, .inl h⟩
  · refine ⟨hx, .inr ⟨g, cap, cur, e', hg, ?_, r⟩⟩
    have hlt : g < w.heap.size := (Array.getElem?_eq_some_iff.1 hh).1
    rw [← hh]
    exact hb.block g hlt
theorem OwnSp.at_ {B : Nat} {w : World} {A : Option Addr} {n n' c : Nat} {l l' : List SpanD} (h : OwnSp B w A n c l) (e1 : n = n') (e2 : l = l') : OwnSp B w A n' c l' := by subst e1 e2; exact h
/-- A row of bytes that lies behind block B is kept where a row that lies before it grows. -/
theorem Own.apart {B : Nat} {w w' : World} {A : Option Addr} {n c : Nat} {l : List UInt8} {row : Option Nat} (h : Own B w A n c l) (hg : w.grownBy w' row) (hr : ∀ k, row = some k → k < B) : Own B w' A n c l := by
  refine World.ownsRow.kept h hg ?_
  rcases hA : (Value.slice A n c).ownBlock with _ | k
  · exact .inl rfl
  · refine .inr fun e => ?_
    have h1 := (World.ownsRow.lt h k hA).1
    have h2 := hr k e.symm
    omega
/-- The bytes of spans, one behind another. -/
def putAll (ss : List SpanD) : List UInt8 := ss.flatMap putF
def AllRight (ss : List SpanD) : Prop := ∀ s ∈ ss, s.Wf ∧ rightF s = 0
theorem AllRight.drop {ss : List SpanD} (h : AllRight ss) (k : Nat) : AllRight (ss.drop k) := fun s hs => h s (List.mem_of_mem_drop hs)
end Go.Proofs.YthjhofmjhmnddaaGreat

/-
  Plain facts on numbers that rise; slices of members: three cells each.
-/
namespace Go.Proofs.YthjhofmjhmnddaaGreat
set_option linter.unusedSimpArgs false
set_option linter.unusedVariables false
open Go.RowKit Ru

/-- Numbers that rise, from more than a last one on. -/
def risesFrom : Nat → List Nat → Bool
  | _, [] => true
  | a, x :: r => decide (a < x) && risesFrom x r
def risesF (l : List Nat) : Bool := risesFrom 0 l
theorem rises_no {a x : Nat} {r : List Nat} (h : x ≤ a) : risesFrom a (x :: r) = false := by
  rw [risesFrom, decide_eq_false (by omega)]
  rfl
theorem rises_yes {a x : Nat} {r : List Nat} (h : a < x) : risesFrom a (x :: r) = risesFrom x r := by
  rw [risesFrom, decide_eq_true h]
  rfl
/-- A member. -/
structure MemberD where
  id : Nat
  inc : Nat
  state : Int
structure MemberD.Wf (m : MemberD) : Prop where
  id : m.id < 18446744073709551616
  inc : m.inc < 18446744073709551616
  lo : -9223372036854775808 ≤ m.state
  hi : m.state ≤ 9223372036854775807
abbrev memVal (m : MemberD) : Value := .agg #[.int .u64 (m.id : Nat), .int .u64 (m.inc : Nat), .int .i64 m.state]
def memCells (m : MemberD) : Array Value := #[.int .u64 (m.id : Nat), .int .u64 (m.inc : Nat), .int .i64 m.state]
def mcells (m : MemberD) : List Value := [.int .u64 (m.id : Nat), .int .u64 (m.inc : Nat), .int .i64 m.state]
def memsAll (ms : List MemberD) : List Value := ms.flatMap mcells
structure MemAt (w : World) (b o : Nat) (m : MemberD) : Prop where
  c0 : w.cell? ⟨b, o, none⟩ = some (.int .u64 (m.id : Nat))
  c1 : w.cell? ⟨b, o + 1, none⟩ = some (.int .u64 (m.inc : Nat))
  c2 : w.cell? ⟨b, o + 2, none⟩ = some (.int .i64 m.state)
theorem MemAt.lt {w : World} {b o : Nat} {m : MemberD} (h : MemAt w b o m) : b < w.heap.size := lt_of_cell h.c0
theorem MemAt.keep_ {w w' : World} {b o : Nat} {m : MemberD} (h : MemAt w b o m) (hk : ∀ p : Addr, p.block < w.heap.size → w'.cell? p = w.cell? p) : MemAt w' b o m := by
  have hl := h.lt
  refine ⟨?_, ?_, ?_⟩
  all_goals rw [hk _ hl]
  · exact h.c0
  · exact h.c1
  · exact h.c2
theorem memAt_of {w : World} {b o : Nat} {m : MemberD} (h : ∀ j u, (mcells m)[j]? = some u → w.cell? ⟨b, o + j, none⟩ = some u) : MemAt w b o m :=
  ⟨h 0 _ rfl, h 1 _ rfl, h 2 _ rfl⟩
theorem MemAt.cell {w : World} {b o : Nat} {m : MemberD} (h : MemAt w b o m) (j : Nat) (u : Value) (hu : (mcells m)[j]? = some u) : w.cell? ⟨b, o + j, none⟩ = some u := by
  match j, hu with
  | 0, hu => cases hu; exact h.c0
  | 1, hu => cases hu; exact h.c1
  | 2, hu => cases hu; exact h.c2
/-- The slice with this place, length and room reads as the members ms. -/
structure MemRow (w : World) (A : Option Addr) (n c : Nat) (ms : List MemberD) : Prop where
  holds : ms ≠ [] → ∃ b off, A = some ⟨b, off, none⟩ ∧ ∀ k (h : k < ms.length), MemAt w b (off + k * 3) ms[k]
  len : ms.length = n
  cap : n ≤ c
  max : c ≤ 9223372036854775807
  nil : A = none → c = 0
theorem MemRow.none (w : World) : MemRow w Option.none 0 0 [] := ⟨fun h => absurd rfl h, rfl, Nat.le_refl _, by omega, fun _ => rfl⟩
theorem MemRow.keep {w w' : World} {A : Option Addr} {n c : Nat} {ms : List MemberD} (h : MemRow w A n c ms) (hk : ∀ p : Addr, p.block < w.heap.size → w'.cell? p = w.cell? p) : MemRow w' A n c ms :=
  ⟨fun hne => let ⟨b, off, e, hc⟩ := h.holds hne; ⟨b, off, e, fun k hkl => (hc k hkl).keep_ hk⟩, h.len, h.cap, h.max, h.nil⟩
theorem MemRow.below {w w' : World} {A : Option Addr} {n c : Nat} {ms : List MemberD} (h : MemRow w A n c ms) (hb : Below w.heap.size w w') : MemRow w' A n c ms := h.keep fun _ hp => hb.cell hp
theorem MemRow.at_ {w : World} {A : Option Addr} {n c : Nat} {ms : List MemberD} (h : MemRow w A n c ms) {k : Nat} (hk : k < ms.length) : ∃ b off, A = some ⟨b, off, Option.none⟩ ∧ MemAt w b (off + k * 3) ms[k] := by
  obtain ⟨b, off, e, hc⟩ := h.holds (by rintro rfl; simp at hk)
  exact ⟨b, off, e, hc k hk⟩
theorem memsAll_length (ms : List MemberD) : (memsAll ms).length = ms.length * 3 := by
  induction ms with
  | nil => rfl
  | cons r rs ih => rw [memsAll, List.flatMap_cons, List.length_append, show (mcells r).length = 3 from rfl, show (rs.flatMap mcells).length = rs.length * 3 from ih, List.length_cons]; omega
theorem memsAll_get : ∀ (rs : List MemberD) {k : Nat} (h : k < rs.length) (j : Nat), j < 3 → (memsAll rs)[k * 3 + j]? = (mcells rs[k])[j]?
  | r :: rs, 0, _, j, hj => by
    rw [memsAll, List.flatMap_cons, Nat.zero_mul, Nat.zero_add, List.getElem?_append_left (by exact hj)]
    rfl
  | r :: rs, k + 1, h, j, hj => by
    rw [memsAll, List.flatMap_cons, List.getElem?_append_right (by show 3 ≤ _; omega), show (mcells r).length = 3 from rfl, show (k + 1) * 3 + j - 3 = k * 3 + j by omega]
    exact memsAll_get rs (by simpa using h) j hj
theorem memsAll_one (rs : List MemberD) : ∀ u ∈ memsAll rs, u.oneCell' = true := by
  intro u hu
  obtain ⟨r, _, h⟩ := List.mem_flatMap.1 hu
  simp [mcells] at h
  rcases h with rfl | rfl | rfl
  all_goals rfl
theorem MemRow.cells {w : World} {A : Option Addr} {n c : Nat} {rs : List MemberD} (h : MemRow w A n c rs) : Holds w A (memsAll rs) := by
  intro hne
  obtain ⟨b, off, e, hc⟩ := h.holds (by rintro rfl; exact hne rfl)
  refine ⟨b, off, e, fun k u hu => ?_⟩
  have hk : k < rs.length * 3 := by
    have := (List.getElem?_eq_some_iff.1 hu).1
    rwa [memsAll_length] at this
  have h1 : k / 3 < rs.length := by omega
  have h2 := memsAll_get rs h1 (k % 3) (by omega)
  rw [show k / 3 * 3 + k % 3 = k by omega] at h2
  rw [h2] at hu
  have h3 := (hc _ h1).cell (k % 3) u hu
  rwa [show off + k / 3 * 3 + k % 3 = off + k by omega] at h3
theorem memRow_of {w : World} {A : Option Addr} {n c : Nat} {rs : List MemberD} (h : Holds w A (memsAll rs)) (h1 : rs.length = n) (h2 : n ≤ c) (h3 : c ≤ 9223372036854775807) (h4 : A = none → c = 0) : MemRow w A n c rs := by
  refine ⟨fun hne => ?_, h1, h2, h3, h4⟩
  have hne' : memsAll rs ≠ [] := by
    intro e
    have := congrArg List.length e
    rw [memsAll_length] at this
    have := List.length_pos_iff.2 hne
    simp at *
    omega
  obtain ⟨b, off, e, hc⟩ := h hne'
  refine ⟨b, off, e, fun k hk => memAt_of fun j u hu => ?_⟩
  have hj : j < 3 := (List.getElem?_eq_some_iff.1 hu).1
  have := hc (k * 3 + j) u (by rw [memsAll_get rs hk j hj]; exact hu)
  rwa [← Nat.add_assoc] at this
/-- Numbers as values. -/
def idVals (l : List Nat) : List Value := l.map fun n => .int .u64 (n : Nat)
end Go.Proofs.YthjhofmjhmnddaaGreat
