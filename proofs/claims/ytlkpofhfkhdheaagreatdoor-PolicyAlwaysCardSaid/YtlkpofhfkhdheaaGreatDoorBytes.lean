/-
  A slice that reads as a list of one-cell values, nil let in; bytes as such a list.
-/
import Derived.WalkKit
import Derived.WalkSpells
namespace Go.Proofs.YtlkpofhfkhdheaaGreatDoor
open Go.RowKit

/-- A fact kept from the walk, under the fact's own statement. -/
theorem hid_ {p : Prop} (h : p) : Hid p := h

/-- The slice's place A holds the values xs, one cell each (nothing is asked of A where there is none). -/
def Holds (w : World) (A : Option Addr) (xs : List Value) : Prop :=
  xs ≠ [] → ∃ b off, A = some ⟨b, off, none⟩ ∧ ∀ k u, xs[k]? = some u → w.cell? ⟨b, off + k, none⟩ = some u

def byte (c : UInt8) : Value := .int .u8 (c.toNat : Int)
def bytes (l : List UInt8) : List Value := l.map byte

theorem Holds.nil (w : World) (A : Option Addr) : Holds w A [] := fun h => absurd rfl h

theorem lt_of_cell {w : World} {a : Addr} {v : Value} (h : w.cell? a = some v) : a.block < w.heap.size := by
  rcases Nat.lt_or_ge a.block w.heap.size with hlt | hge
  · exact hlt
  · rw [World.cell?, Array.getElem?_eq_none hge] at h
    simp at h

/-- All of it lies in one block that is there. -/
theorem Holds.keep {w w' : World} {A : Option Addr} {xs : List Value} (h : Holds w A xs)
    (hk : ∀ p : Addr, p.block < w.heap.size → w'.cell? p = w.cell? p) : Holds w' A xs := by
  intro hx
  obtain ⟨b, off, rfl, hc⟩ := h hx
  refine ⟨b, off, rfl, fun k u hu => ?_⟩
  have h1 := hc k u hu
  rw [hk _ (lt_of_cell h1)]
  exact h1
theorem Holds.below {w w' : World} {A : Option Addr} {xs : List Value} (h : Holds w A xs) (hb : Below w.heap.size w w') : Holds w' A xs :=
  h.keep fun _ hp => hb.cell hp

theorem bytes_length (l : List UInt8) : (bytes l).length = l.length := List.length_map ..
theorem bytes_nil : bytes [] = [] := rfl
theorem bytes_ne {l : List UInt8} (h : l ≠ []) : bytes l ≠ [] := by intro e; exact h (by simpa [bytes] using e)
theorem bytes_get {l : List UInt8} {k : Nat} (h : k < l.length) : (bytes l)[k]? = some (.int .u8 (l[k].toNat : Int)) := by simp [bytes, byte, h]
theorem bytes_get_inv {l : List UInt8} {k : Nat} {u : Value} (h : (bytes l)[k]? = some u) : ∃ hk : k < l.length, u = .int .u8 (l[k].toNat : Int) := by
  have hk : k < l.length := by
    have := (List.getElem?_eq_some_iff.1 h).1
    rwa [bytes_length] at this
  refine ⟨hk, ?_⟩
  rw [bytes_get hk] at h
  exact (Option.some.inj h).symm

theorem Holds.at_ {w : World} {A : Option Addr} {l : List UInt8} (h : Holds w A (bytes l)) {k : Nat} (hk : k < l.length) :
    ∃ b off, A = some ⟨b, off, none⟩ ∧ w.cell? ⟨b, off + k, none⟩ = some (.int .u8 (l[k].toNat : Int)) := by
  obtain ⟨b, off, rfl, hc⟩ := h (bytes_ne (by intro e; subst e; simp at hk))
  exact ⟨b, off, rfl, hc k _ (bytes_get hk)⟩

/-- A number of a byte's kind is a byte. -/
theorem byte_of {n : Int} (h : (Lit.int .u8 n).wf = true) : ∃ c : UInt8, (c.toNat : Int) = n := by
  have h1 : 0 ≤ n ∧ n ≤ 255 := by simpa [Lit.wf, IntKind.min, IntKind.max, IntKind.bits, IntKind.signed] using h
  refine ⟨UInt8.ofNat n.toNat, ?_⟩
  rw [UInt8.toNat_ofNat']
  omega
theorem bytes_of : ∀ zs : List Int, (∀ n ∈ zs, (Lit.int .u8 n).wf = true) → ∃ l : List UInt8, l.map (fun c => (c.toNat : Int)) = zs
  | [], _ => ⟨[], rfl⟩
  | z :: zs, h => by
    obtain ⟨c, hc⟩ := byte_of (h z (by simp))
    obtain ⟨l, hl⟩ := bytes_of zs (fun n hn => h n (by simp [hn]))
    exact ⟨c :: l, by simp [hc, hl]⟩

/-- What the shell tells of a slice of bytes that came in. -/
theorem holds_of_row {w : World} {a : Option Addr} {len cap : Nat} {zs : List Int}
    (h : (a = none ∧ len = 0 ∧ cap = 0 ∧ zs = []) ∨
      ∃ x, a = some x ∧ len ≤ cap ∧ cap ≤ maxLen ∧ zs.length = cap ∧ (∀ i, i < zs.length → w.cell? (x.add i) = some (.int .u8 (zs.getD i 0))) ∧ ∀ n ∈ zs, (Lit.int .u8 n).wf = true) :
    ∃ l : List UInt8, l.length = len ∧ len ≤ cap ∧ cap ≤ maxLen ∧ Holds w a (bytes l) ∧ (a = none → cap = 0) := by
  rcases h with ⟨rfl, rfl, rfl, rfl⟩ | ⟨x, rfl, hl, hm, hz, hcell, hwz⟩
  · exact ⟨[], rfl, Nat.le_refl _, by unfold maxLen; omega, Holds.nil _ _, fun _ => rfl⟩
  · obtain ⟨l, rfl⟩ := bytes_of zs hwz
    have hlen : l.length = cap := by simpa using hz
    refine ⟨l.take len, by rw [List.length_take]; omega, hl, hm, ?_, fun e => by cases e⟩
    intro hne
    have hpos : 0 < l.length := by
      rcases l with _ | ⟨c, l⟩
      · simp [bytes] at hne
      · simp
    obtain ⟨b, off, spot⟩ := x
    have h0 := hcell 0 (by simpa using hpos)
    have hs : spot = none := by simpa [Addr.add] using World.cell?_spot h0
    subst hs
    refine ⟨b, off, rfl, fun k u hu => ?_⟩
    obtain ⟨hk, rfl⟩ := bytes_get_inv hu
    have hkl : k < l.length := by rw [List.length_take] at hk; omega
    have h1 := hcell k (by simpa using hkl)
    have e1 : (Addr.mk b off none).add k = ⟨b, off + k, none⟩ := by
      unfold Addr.add
      split
      · rename_i e; subst e; rfl
      · rfl
    rw [e1] at h1
    rw [h1]
    simp [hkl]

theorem bytes_set (l : List UInt8) (k : Nat) (c : UInt8) : (bytes l).set k (.int .u8 (c.toNat : Int)) = bytes (l.set k c) := by
  unfold bytes
  rw [List.map_set]
  rfl
theorem bytes_replicate (n : Nat) : bytes (List.replicate n 0) = List.replicate n (.int .u8 0) := by
  unfold bytes
  rw [List.map_replicate]
  rfl

theorem add_plain (b off k : Nat) : (Addr.mk b off none).add k = ⟨b, off + k, none⟩ := by
  unfold Addr.add
  split
  · rename_i e; subst e; rfl
  · rfl

/-- A part of what is held. -/
theorem Holds.take {w : World} {A : Option Addr} {xs : List Value} (h : Holds w A xs) (m : Nat) : Holds w A (xs.take m) := by
  intro hne
  obtain ⟨b, off, rfl, hc⟩ := h (by rintro rfl; simp at hne)
  refine ⟨b, off, rfl, fun k u hu => hc k u ?_⟩
  rw [List.getElem?_take] at hu
  split at hu
  · exact hu
  · cases hu
theorem Holds.drop {w : World} {A : Option Addr} {xs : List Value} (h : Holds w A xs) (m : Nat) : Holds w (A.map fun x => x.add m) (xs.drop m) := by
  intro hne
  obtain ⟨b, off, rfl, hc⟩ := h (by rintro rfl; simp at hne)
  refine ⟨b, off + m, by rw [Option.map_some, add_plain], fun k u hu => ?_⟩
  rw [List.getElem?_drop] at hu
  rw [Nat.add_assoc]
  exact hc _ u hu
/-- The place of a cut, as the model has it: at the very end of the room it stays. -/
theorem Holds.drop' {w : World} {A : Option Addr} {xs : List Value} (h : Holds w A xs) (m cap : Nat) (hc : xs.length ≤ cap) :
    Holds w (if cap = m then A else A.map fun x => x.add m) (xs.drop m) := by
  by_cases e : cap = m
  · rw [List.drop_eq_nil_of_le (by omega)]; exact Holds.nil _ _
  · rw [if_neg e]; exact h.drop m
theorem bytes_take (l : List UInt8) (m : Nat) : (bytes l).take m = bytes (l.take m) := List.map_take.symm
theorem bytes_drop (l : List UInt8) (m : Nat) : (bytes l).drop m = bytes (l.drop m) := List.map_drop.symm
theorem bytes_append (l m : List UInt8) : bytes (l ++ m) = bytes l ++ bytes m := List.map_append
end Go.Proofs.YtlkpofhfkhdheaaGreatDoor
