/-
  Slices of spans: eight cells each.
-/
import Derived.Test.YtlkpofhfkhdheaaGreatDoorSpanEq
namespace Go.Proofs.YtlkpofhfkhdheaaGreatDoor
open Go.RowKit Ru

/-- A span lies at this place. -/
structure SpanAt (w : World) (b o : Nat) (s : SpanD) : Prop where
  c0 : w.cell? ⟨b, o, none⟩ = some (.int .u64 (s.trace : Nat))
  c1 : w.cell? ⟨b, o + 1, none⟩ = some (.int .u64 (s.id : Nat))
  c2 : w.cell? ⟨b, o + 2, none⟩ = some (.int .u64 (s.parent : Nat))
  c3 : w.cell? ⟨b, o + 3, none⟩ = some (.int .u64 (s.start : Nat))
  c4 : w.cell? ⟨b, o + 4, none⟩ = some (.int .u64 (s.len : Nat))
  c5 : w.cell? ⟨b, o + 5, none⟩ = some (.string s.service)
  c6 : w.cell? ⟨b, o + 6, none⟩ = some (.string s.name)
  c7 : w.cell? ⟨b, o + 7, none⟩ = some (.bool s.fail)
theorem SpanAt.lt {w : World} {b o : Nat} {s : SpanD} (h : SpanAt w b o s) : b < w.heap.size := lt_of_cell h.c0
theorem SpanAt.keep {w w' : World} {b o : Nat} {s : SpanD} (h : SpanAt w b o s) (hk : ∀ p : Addr, p.block < w.heap.size → w'.cell? p = w.cell? p) : SpanAt w' b o s := by
  have hl := h.lt
  refine ⟨?_, ?_, ?_, ?_, ?_, ?_, ?_, ?_⟩
  all_goals rw [hk _ hl]
  · exact h.c0
  · exact h.c1
  · exact h.c2
  · exact h.c3
  · exact h.c4
  · exact h.c5
  · exact h.c6
  · exact h.c7
/-- The slice with this place, length and room reads as the spans ss. -/
structure SpanRow (w : World) (A : Option Addr) (n c : Nat) (ss : List SpanD) : Prop where
  holds : ss ≠ [] → ∃ b off, A = some ⟨b, off, none⟩ ∧ ∀ k (h : k < ss.length), SpanAt w b (off + k * 8) ss[k]
  len : ss.length = n
  cap : n ≤ c
  max : c ≤ 9223372036854775807
  nil : A = none → c = 0
theorem SpanRow.keep {w w' : World} {A : Option Addr} {n c : Nat} {ss : List SpanD} (h : SpanRow w A n c ss) (hk : ∀ p : Addr, p.block < w.heap.size → w'.cell? p = w.cell? p) : SpanRow w' A n c ss :=
  ⟨fun hne => let ⟨b, off, e, hc⟩ := h.holds hne; ⟨b, off, e, fun k hkl => (hc k hkl).keep hk⟩, h.len, h.cap, h.max, h.nil⟩
theorem SpanRow.below {w w' : World} {A : Option Addr} {n c : Nat} {ss : List SpanD} (h : SpanRow w A n c ss) (hb : Below w.heap.size w w') : SpanRow w' A n c ss := h.keep fun _ hp => hb.cell hp
theorem SpanRow.at_ {w : World} {A : Option Addr} {n c : Nat} {ss : List SpanD} (h : SpanRow w A n c ss) {k : Nat} (hk : k < ss.length) : ∃ b off, A = some ⟨b, off, none⟩ ∧ SpanAt w b (off + k * 8) ss[k] := by
  obtain ⟨b, off, e, hc⟩ := h.holds (by rintro rfl; simp at hk)
  exact ⟨b, off, e, hc k hk⟩

def cellsOf (s : SpanD) : List Value := [.int .u64 (s.trace : Nat), .int .u64 (s.id : Nat), .int .u64 (s.parent : Nat), .int .u64 (s.start : Nat), .int .u64 (s.len : Nat), .string s.service, .string s.name, .bool s.fail]
def cellsAll (ss : List SpanD) : List Value := ss.flatMap cellsOf
theorem cellsOf_length (s : SpanD) : (cellsOf s).length = 8 := rfl
theorem cellsAll_length (ss : List SpanD) : (cellsAll ss).length = ss.length * 8 := by
  induction ss with
  | nil => rfl
  | cons s ss ih => rw [cellsAll, List.flatMap_cons, List.length_append, cellsOf_length, show (ss.flatMap cellsOf).length = ss.length * 8 from ih, List.length_cons]; omega
theorem cellsAll_append (a b : List SpanD) : cellsAll (a ++ b) = cellsAll a ++ cellsAll b := by simp [cellsAll]
theorem cellsAll_get : ∀ (ss : List SpanD) {k : Nat} (h : k < ss.length) (j : Nat), j < 8 → (cellsAll ss)[k * 8 + j]? = (cellsOf ss[k])[j]?
  | s :: ss, 0, _, j, hj => by
    rw [cellsAll, List.flatMap_cons, Nat.zero_mul, Nat.zero_add, List.getElem?_append_left (by rw [cellsOf_length]; exact hj)]
    rfl
  | s :: ss, k + 1, h, j, hj => by
    rw [cellsAll, List.flatMap_cons, List.getElem?_append_right (by rw [cellsOf_length]; omega), cellsOf_length, show (k + 1) * 8 + j - 8 = k * 8 + j by omega]
    exact cellsAll_get ss (by simpa using h) j hj
theorem spanAt_of {w : World} {b o : Nat} {s : SpanD} (h : ∀ j u, (cellsOf s)[j]? = some u → w.cell? ⟨b, o + j, none⟩ = some u) : SpanAt w b o s :=
  ⟨h 0 _ rfl, h 1 _ rfl, h 2 _ rfl, h 3 _ rfl, h 4 _ rfl, h 5 _ rfl, h 6 _ rfl, h 7 _ rfl⟩
theorem SpanAt.cell {w : World} {b o : Nat} {s : SpanD} (h : SpanAt w b o s) (j : Nat) (u : Value) (hu : (cellsOf s)[j]? = some u) : w.cell? ⟨b, o + j, none⟩ = some u := by
  match j, hu with
  | 0, hu => cases hu; exact h.c0
  | 1, hu => cases hu; exact h.c1
  | 2, hu => cases hu; exact h.c2
  | 3, hu => cases hu; exact h.c3
  | 4, hu => cases hu; exact h.c4
  | 5, hu => cases hu; exact h.c5
  | 6, hu => cases hu; exact h.c6
  | 7, hu => cases hu; exact h.c7
/-- .. as a place of cells. -/
theorem SpanRow.cells {w : World} {A : Option Addr} {n c : Nat} {ss : List SpanD} (h : SpanRow w A n c ss) : Holds w A (cellsAll ss) := by
  intro hne
  obtain ⟨b, off, e, hc⟩ := h.holds (by rintro rfl; exact hne rfl)
  refine ⟨b, off, e, fun k u hu => ?_⟩
  have hk : k < ss.length * 8 := by
    have := (List.getElem?_eq_some_iff.1 hu).1
    rwa [cellsAll_length] at this
  have h1 : k / 8 < ss.length := by omega
  have h2 := cellsAll_get ss h1 (k % 8) (by omega)
  rw [show k / 8 * 8 + k % 8 = k by omega] at h2
  rw [h2] at hu
  have h3 := (hc _ h1).cell (k % 8) u hu
  rwa [show off + k / 8 * 8 + k % 8 = off + k by omega] at h3
theorem spanRow_of {w : World} {A : Option Addr} {n c : Nat} {ss : List SpanD} (h : Holds w A (cellsAll ss)) (h1 : ss.length = n) (h2 : n ≤ c) (h3 : c ≤ 9223372036854775807) (h4 : A = none → c = 0) : SpanRow w A n c ss := by
  refine ⟨fun hne => ?_, h1, h2, h3, h4⟩
  have hne' : cellsAll ss ≠ [] := by
    intro e
    have := congrArg List.length e
    rw [cellsAll_length] at this
    have := List.length_pos_iff.2 hne
    simp at *
    omega
  obtain ⟨b, off, e, hc⟩ := h hne'
  refine ⟨b, off, e, fun k hk => spanAt_of fun j u hu => ?_⟩
  have hj : j < 8 := (List.getElem?_eq_some_iff.1 hu).1
  have := hc (k * 8 + j) u (by rw [cellsAll_get ss hk j hj]; exact hu)
  rwa [← Nat.add_assoc] at this
/-- A row of spans of the call's own, from block B on. -/
def OwnSp (B : Nat) (w : World) (A : Option Addr) (n c : Nat) (ss : List SpanD) : Prop := w.ownsRow B 46 8 (.slice A n c) n (cellsAll ss)
theorem OwnSp.len {B : Nat} {w : World} {A : Option Addr} {n c : Nat} {ss : List SpanD} (h : OwnSp B w A n c ss) : ss.length = n := by
  have := h.1
  rw [cellsAll_length] at this
  omega
theorem OwnSp.row {B : Nat} {w : World} {A : Option Addr} {n c : Nat} {ss : List SpanD} (h : OwnSp B w A n c ss) : SpanRow w A n c ss := by
  have hh := own_holds h
  have hl := h.len
  obtain ⟨hx, ⟨e', _⟩ | ⟨g, cap, cur, e', hg, _, hnc, hcm, hs, hc⟩⟩ := h
  · injection e' with a b c
    subst a
    subst c
    exact spanRow_of hh hl (by omega) (by omega) (fun _ => rfl)
  · injection e' with a b c
    subst a c
    unfold maxLen at hcm
    exact spanRow_of hh hl hnc (by omega) (fun e => by cases e)
end Go.Proofs.YtlkpofhfkhdheaaGreatDoor
