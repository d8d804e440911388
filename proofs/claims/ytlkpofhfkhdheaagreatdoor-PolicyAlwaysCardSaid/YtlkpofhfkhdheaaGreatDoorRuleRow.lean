/-
  Slices of rules: four cells each; rows of rules of the call's own.
-/
import Derived.Test.YtlkpofhfkhdheaaGreatDoorPolMath
import Derived.Test.YtlkpofhfkhdheaaGreatDoorWhole
import Derived.RangeFuncOwn
namespace Go.Proofs.YtlkpofhfkhdheaaGreatDoor
open Go.RowKit Ru

def rcells (r : RuleD) : List Value := [.bool r.keep, .string r.what, .int .u64 (r.num : Nat), .string r.text]
def rulesAll (rs : List RuleD) : List Value := rs.flatMap rcells
/-- A rule lies at this place. -/
structure RuleAt (w : World) (b o : Nat) (r : RuleD) : Prop where
  c0 : w.cell? ⟨b, o, none⟩ = some (.bool r.keep)
  c1 : w.cell? ⟨b, o + 1, none⟩ = some (.string r.what)
  c2 : w.cell? ⟨b, o + 2, none⟩ = some (.int .u64 (r.num : Nat))
  c3 : w.cell? ⟨b, o + 3, none⟩ = some (.string r.text)
theorem RuleAt.lt {w : World} {b o : Nat} {r : RuleD} (h : RuleAt w b o r) : b < w.heap.size := lt_of_cell h.c0
theorem RuleAt.keep_ {w w' : World} {b o : Nat} {r : RuleD} (h : RuleAt w b o r) (hk : ∀ p : Addr, p.block < w.heap.size → w'.cell? p = w.cell? p) : RuleAt w' b o r := by
  have hl := h.lt
  refine ⟨?_, ?_, ?_, ?_⟩
  all_goals rw [hk _ hl]
  · exact h.c0
  · exact h.c1
  · exact h.c2
  · exact h.c3
theorem ruleAt_of {w : World} {b o : Nat} {r : RuleD} (h : ∀ j u, (rcells r)[j]? = some u → w.cell? ⟨b, o + j, none⟩ = some u) : RuleAt w b o r :=
  ⟨h 0 _ rfl, h 1 _ rfl, h 2 _ rfl, h 3 _ rfl⟩
theorem RuleAt.cell {w : World} {b o : Nat} {r : RuleD} (h : RuleAt w b o r) (j : Nat) (u : Value) (hu : (rcells r)[j]? = some u) : w.cell? ⟨b, o + j, none⟩ = some u := by
  match j, hu with
  | 0, hu => cases hu; exact h.c0
  | 1, hu => cases hu; exact h.c1
  | 2, hu => cases hu; exact h.c2
  | 3, hu => cases hu; exact h.c3
/-- The slice with this place, length and room reads as the rules rs. -/
structure RuleRow (w : World) (A : Option Addr) (n c : Nat) (rs : List RuleD) : Prop where
  holds : rs ≠ [] → ∃ b off, A = some ⟨b, off, none⟩ ∧ ∀ k (h : k < rs.length), RuleAt w b (off + k * 4) rs[k]
  len : rs.length = n
  cap : n ≤ c
  max : c ≤ 9223372036854775807
  nil : A = none → c = 0
theorem RuleRow.none (w : World) : RuleRow w Option.none 0 0 [] := ⟨fun h => absurd rfl h, rfl, Nat.le_refl _, by omega, fun _ => rfl⟩
theorem RuleRow.keep {w w' : World} {A : Option Addr} {n c : Nat} {rs : List RuleD} (h : RuleRow w A n c rs) (hk : ∀ p : Addr, p.block < w.heap.size → w'.cell? p = w.cell? p) : RuleRow w' A n c rs :=
  ⟨fun hne => let ⟨b, off, e, hc⟩ := h.holds hne; ⟨b, off, e, fun k hkl => (hc k hkl).keep_ hk⟩, h.len, h.cap, h.max, h.nil⟩
theorem RuleRow.below {w w' : World} {A : Option Addr} {n c : Nat} {rs : List RuleD} (h : RuleRow w A n c rs) (hb : Below w.heap.size w w') : RuleRow w' A n c rs := h.keep fun _ hp => hb.cell hp
theorem RuleRow.at_ {w : World} {A : Option Addr} {n c : Nat} {rs : List RuleD} (h : RuleRow w A n c rs) {k : Nat} (hk : k < rs.length) : ∃ b off, A = some ⟨b, off, Option.none⟩ ∧ RuleAt w b (off + k * 4) rs[k] := by
  obtain ⟨b, off, e, hc⟩ := h.holds (by rintro rfl; simp at hk)
  exact ⟨b, off, e, hc k hk⟩
theorem rulesAll_length (rs : List RuleD) : (rulesAll rs).length = rs.length * 4 := by
  induction rs with
  | nil => rfl
  | cons r rs ih => rw [rulesAll, List.flatMap_cons, List.length_append, show (rcells r).length = 4 from rfl, show (rs.flatMap rcells).length = rs.length * 4 from ih, List.length_cons]; omega
theorem rulesAll_append (a b : List RuleD) : rulesAll (a ++ b) = rulesAll a ++ rulesAll b := by simp [rulesAll]
theorem rulesAll_get : ∀ (rs : List RuleD) {k : Nat} (h : k < rs.length) (j : Nat), j < 4 → (rulesAll rs)[k * 4 + j]? = (rcells rs[k])[j]?
  | r :: rs, 0, _, j, hj => by
    rw [rulesAll, List.flatMap_cons, Nat.zero_mul, Nat.zero_add, List.getElem?_append_left (by exact hj)]
    rfl
  | r :: rs, k + 1, h, j, hj => by
    rw [rulesAll, List.flatMap_cons, List.getElem?_append_right (by show 4 ≤ _; omega), show (rcells r).length = 4 from rfl, show (k + 1) * 4 + j - 4 = k * 4 + j by omega]
    exact rulesAll_get rs (by simpa using h) j hj
theorem rulesAll_one (rs : List RuleD) : ∀ u ∈ rulesAll rs, u.oneCell' = true := by
  intro u hu
  obtain ⟨r, _, h⟩ := List.mem_flatMap.1 hu
  simp [rcells] at h
  rcases h with rfl | rfl | rfl | rfl
  all_goals rfl
theorem RuleRow.cells {w : World} {A : Option Addr} {n c : Nat} {rs : List RuleD} (h : RuleRow w A n c rs) : Holds w A (rulesAll rs) := by
  intro hne
  obtain ⟨b, off, e, hc⟩ := h.holds (by rintro rfl; exact hne rfl)
  refine ⟨b, off, e, fun k u hu => ?_⟩
  have hk : k < rs.length * 4 := by
    have := (List.getElem?_eq_some_iff.1 hu).1
    rwa [rulesAll_length] at this
  have h1 : k / 4 < rs.length := by omega
  have h2 := rulesAll_get rs h1 (k % 4) (by omega)
  rw [show k / 4 * 4 + k % 4 = k by omega] at h2
  rw [h2] at hu
  have h3 := (hc _ h1).cell (k % 4) u hu
  rwa [show off + k / 4 * 4 + k % 4 = off + k by omega] at h3
theorem ruleRow_of {w : World} {A : Option Addr} {n c : Nat} {rs : List RuleD} (h : Holds w A (rulesAll rs)) (h1 : rs.length = n) (h2 : n ≤ c) (h3 : c ≤ 9223372036854775807) (h4 : A = none → c = 0) : RuleRow w A n c rs := by
  refine ⟨fun hne => ?_, h1, h2, h3, h4⟩
  have hne' : rulesAll rs ≠ [] := by
    intro e
    have := congrArg List.length e
    rw [rulesAll_length] at this
    have := List.length_pos_iff.2 hne
    simp at *
    omega
  obtain ⟨b, off, e, hc⟩ := h hne'
  refine ⟨b, off, e, fun k hk => ruleAt_of fun j u hu => ?_⟩
  have hj : j < 4 := (List.getElem?_eq_some_iff.1 hu).1
  have := hc (k * 4 + j) u (by rw [rulesAll_get rs hk j hj]; exact hu)
  rwa [← Nat.add_assoc] at this
/-- A row of rules of the call's own, from block B on; e: the type of its elements. -/
def OwnRu (e : TypeId) (B : Nat) (w : World) (A : Option Addr) (n c : Nat) (rs : List RuleD) : Prop := w.ownsRow B e 4 (.slice A n c) n (rulesAll rs)
theorem OwnRu.none (e : TypeId) (B : Nat) (w : World) : OwnRu e B w .none 0 0 [] := World.ownsRow_nil w B _ _
theorem OwnRu.len {e : TypeId} {B : Nat} {w : World} {A : Option Addr} {n c : Nat} {rs : List RuleD} (h : OwnRu e B w A n c rs) : rs.length = n := by
  have := h.1
  rw [rulesAll_length] at this
  omega
theorem OwnRu.row {e : TypeId} {B : Nat} {w : World} {A : Option Addr} {n c : Nat} {rs : List RuleD} (h : OwnRu e B w A n c rs) : RuleRow w A n c rs := by
  have hh := own_holds h
  have hl := h.len
  obtain ⟨hx, ⟨e', _⟩ | ⟨g, cap, cur, e', hg, _, hnc, hcm, hs, hc⟩⟩ := h
  · injection e' with a b c
    subst a
    subst c
    exact ruleRow_of hh hl (by omega) (by omega) (fun _ => rfl)
  · injection e' with a b c
    subst a c
    unfold maxLen at hcm
    exact ruleRow_of hh hl hnc (by omega) (fun e => by cases e)
theorem OwnRu.later {e : TypeId} {B : Nat} {w w' : World} {A : Option Addr} {n c : Nat} {rs : List RuleD} (h : OwnRu e B w A n c rs) (hb : Below w.heap.size w w') : OwnRu e B w' A n c rs := by
  obtain ⟨hx, h | ⟨g, cap, cur, e', hg, hh, r⟩⟩ := h
  · exact ⟨hx, .inl h⟩
  · refine ⟨hx, .inr ⟨g, cap, cur, e', hg, ?_, r⟩⟩
    have hlt : g < w.heap.size := (Array.getElem?_eq_some_iff.1 hh).1
    rw [← hh]
    exact hb.block g hlt
/-- It is kept where its own block is. -/
theorem OwnRu.block {e : TypeId} {B : Nat} {w w' : World} {A : Option Addr} {n c : Nat} {rs : List RuleD} (h : OwnRu e B w A n c rs) (hk : ∀ (g : Nat) (o : Obj), w.heap[g]? = some o → o.isCells = true → w'.heap[g]? = w.heap[g]?) : OwnRu e B w' A n c rs := by
  obtain ⟨hx, h | ⟨g, cap, cur, e', hg, hh, r⟩⟩ := h
  · exact ⟨hx, .inl h⟩
  · exact ⟨hx, .inr ⟨g, cap, cur, e', hg, (hk g _ hh rfl).trans hh, r⟩⟩
/-- A block of another type, known whole, is not its own. -/
theorem OwnRu.other {e : TypeId} {B : Nat} {w : World} {A : Option Addr} {n c : Nat} {rs : List RuleD} (h : OwnRu e B w A n c rs) {g : Nat} {t : TypeId} {cs : Array Value} (hg : Whole w g t cs) (hne : e ≠ t) : (Value.slice A n c).ownBlock ≠ some g := by
  rcases h.2 with ⟨e', _⟩ | ⟨g', cap, cur, e', _, hh, _⟩
  · rw [e']; simp [Value.ownBlock]
  · rw [e']
    intro he
    have : g' = g := by simpa [Value.ownBlock] using he
    subst this
    unfold Whole at hg
    rw [hh] at hg
    injection hg with hg
    injection hg with _ ht
    exact hne ht
/-- .. nor is an object that is no cells. -/
theorem OwnRu.object {e : TypeId} {B : Nat} {w : World} {A : Option Addr} {n c : Nat} {rs : List RuleD} (h : OwnRu e B w A n c rs) {g : Nat} {o : Obj} (hg : w.heap[g]? = some o) (ho : o.isCells = false) : (Value.slice A n c).ownBlock ≠ some g := by
  rcases h.2 with ⟨e', _⟩ | ⟨g', cap, cur, e', _, hh, _⟩
  · rw [e']; simp [Value.ownBlock]
  · rw [e']
    intro he
    have : g' = g := by simpa [Value.ownBlock] using he
    subst this
    rw [hh] at hg
    cases hg
    cases ho
theorem Whole.grown {w w' : World} {g : Nat} {t : TypeId} {cs : Array Value} {row : Option Nat} (h : Whole w g t cs) (hb : w.grownBy w' row) (hg : row ≠ some g) : Whole w' g t cs := (hb.block g h.lt (Ne.symm hg)).trans h
theorem whole_ruleAt {w : World} {g : Nat} {t : TypeId} {r : RuleD} (h : Whole w g t (ruleCells r)) : RuleAt w g 0 r :=
  ⟨h.cell 0 _ rfl, h.cell 1 _ rfl, h.cell 2 _ rfl, h.cell 3 _ rfl⟩
end Go.Proofs.YtlkpofhfkhdheaaGreatDoor
