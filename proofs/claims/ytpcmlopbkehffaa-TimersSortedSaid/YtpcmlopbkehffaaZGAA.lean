/-
  A slice that reads as a list of one-cell values, nil let in; bytes as such a list.
-/
import Derived.WalkKit
import Derived.WalkSpells
import Derived.Maps.AppendAt
import Derived.OwnWalk
import Derived.WalkLawsBesides
import Derived.RegionTactic
import Derived.BigRegion
import Derived.Deep.RegionWith
import Derived.Deep.QuietTactic
import Derived.BigQuiet
import Derived.Deep.DeepFit
import Derived.StillTailTactics
import Derived.Test.YtpcmlopbkehffaaRows
namespace Go.Proofs.Ytpcmlopbkehffaa
set_option linter.unusedSimpArgs false
set_option linter.unusedVariables false
open Go.RowKit

/-- A fact kept from the walk, under the fact's own statement. -/
theorem hid_ {p : Prop} (h : p) : Hid p := h

/-- The slice's place A holds the values xs, one cell each (nothing is asked of A where there is none). -/
def Holds (w : World) (A : Option Addr) (xs : List Value) : Prop :=
  xs ≠ [] → ∃ b off, A = some ⟨b, off, none⟩ ∧ ∀ k u, xs[k]? = some u → w.cell? ⟨b, off + k, none⟩ = some u

def byte (c : UInt8) : Value := .int .u8 (c.toNat : Int)
def bytes (l : List UInt8) : List Value := l.map byte

theorem Holds.nil (w : World) (A : Option Addr) : Holds w A [] := fun h => absurd rfl h

theorem lt_of_cell {w : World} {a : Addr} {v : Value} (h : w.cell? a = some v) : a.block < w.heap.size := by
  rcases Nat.lt_or_ge a.block w.heap.size with hlt | hge
  · exact hlt
  · rw [World.cell?, Array.getElem?_eq_none hge] at h
    simp at h

/-- All of it lies in one block that is there. -/
theorem Holds.keep {w w' : World} {A : Option Addr} {xs : List Value} (h : Holds w A xs)
    (hk : ∀ p : Addr, p.block < w.heap.size → w'.cell? p = w.cell? p) : Holds w' A xs := by
  intro hx
  obtain ⟨b, off, rfl, hc⟩ := h hx
  refine ⟨b, off, rfl, fun k u hu => ?_⟩
  have h1 := hc k u hu
  rw [hk _ (lt_of_cell h1)]
  exact h1
theorem Holds.below {w w' : World} {A : Option Addr} {xs : List Value} (h : Holds w A xs) (hb : Below w.heap.size w w') : Holds w' A xs :=
  h.keep fun _ hp => hb.cell hp

theorem bytes_length (l : List UInt8) : (bytes l).length = l.length := List.length_map ..
theorem bytes_nil : bytes [] = [] := rfl
theorem bytes_ne {l : List UInt8} (h : l ≠ []) : bytes l ≠ [] := by intro e; exact h (by simpa [bytes] using e)
theorem bytes_get {l : List UInt8} {k : Nat} (h : k < l.length) : (bytes l)[k]? = some (.int .u8 (l[k].toNat : Int)) := by simp [bytes, byte, h]
theorem bytes_get_inv {l : List UInt8} {k : Nat} {u : Value} (h : (bytes l)[k]? = some u) : ∃ hk : k < l.length, u = .int .u8 (l[k].toNat : Int) := by
  have hk : k < l.length := by
    have := (List.getElem?_eq_some_iff.1 h).1
    rwa [bytes_length] at this
  refine ⟨hk, ?_⟩
  rw [bytes_get hk] at h
  exact (Option.some.inj h).symm

theorem Holds.at_ {w : World} {A : Option Addr} {l : List UInt8} (h : Holds w A (bytes l)) {k : Nat} (hk : k < l.length) :
    ∃ b off, A = some ⟨b, off, none⟩ ∧ w.cell? ⟨b, off + k, none⟩ = some (.int .u8 (l[k].toNat : Int)) := by
  obtain ⟨b, off, rfl, hc⟩ := h (bytes_ne (by intro e; subst e; simp at hk))
  exact ⟨b, off, rfl, hc k _ (bytes_get hk)⟩

/-- A number of a byte's kind is a byte. -/
theorem byte_of {n : Int} (h : (Lit.int .u8 n).wf = true) : ∃ c : UInt8, (c.toNat : Int) = n := by
  have h1 : 0 ≤ n ∧ n ≤ 255 := by simpa [Lit.wf, IntKind.min, IntKind.max, IntKind.bits, IntKind.signed] using h
  refine ⟨UInt8.ofNat n.toNat, ?_⟩
  rw [UInt8.toNat_ofNat']
  omega
theorem bytes_of : ∀ zs : List Int, (∀ n ∈ zs, (Lit.int .u8 n).wf = true) → ∃ l : List UInt8, l.map (fun c => (c.toNat : Int)) = zs
  | [], _ => ⟨[], rfl⟩
  | z :: zs, h => by
    obtain ⟨c, hc⟩ := byte_of (h z (by simp))
    obtain ⟨l, hl⟩ := bytes_of zs (fun n hn => h n (by simp [hn]))
    exact ⟨c :: l, by simp [hc, hl]⟩

/-- What the shell tells of a slice of bytes that came in. -/
theorem holds_of_row {w : World} {a : Option Addr} {len cap : Nat} {zs : List Int}
    (h : (a = none ∧ len = 0 ∧ cap = 0 ∧ zs = []) ∨
      ∃ x, a = some x ∧ len ≤ cap ∧ cap ≤ maxLen ∧ zs.length = cap ∧ (∀ i, i < zs.length → w.cell? (x.add i) = some (.int .u8 (zs.getD i 0))) ∧ ∀ n ∈ zs, (Lit.int .u8 n).wf = true) :
    ∃ l : List UInt8, l.length = len ∧ len ≤ cap ∧ cap ≤ maxLen ∧ Holds w a (bytes l) ∧ (a = none → cap = 0) := by
  rcases h with ⟨rfl, rfl, rfl, rfl⟩ | ⟨x, rfl, hl, hm, hz, hcell, hwz⟩
  · exact ⟨[], rfl, Nat.le_refl _, by unfold maxLen; omega, Holds.nil _ _, fun _ => rfl⟩
  · obtain ⟨l, rfl⟩ := bytes_of zs hwz
    have hlen : l.length = cap := by simpa using hz
    refine ⟨l.take len, by rw [List.length_take]; omega, hl, hm, ?_, fun e => by cases e⟩
    intro hne
    have hpos : 0 < l.length := by
      rcases l with _ | ⟨c, l⟩
      · simp [bytes] at hne
      · simp
    obtain ⟨b, off, spot⟩ := x
    have h0 := hcell 0 (by simpa using hpos)
    have hs : spot = none := by simpa [Addr.add] using World.cell?_spot h0
    subst hs
    refine ⟨b, off, rfl, fun k u hu => ?_⟩
    obtain ⟨hk, rfl⟩ := bytes_get_inv hu
    have hkl : k < l.length := by rw [List.length_take] at hk; omega
    have h1 := hcell k (by simpa using hkl)
    have e1 : (Addr.mk b off none).add k = ⟨b, off + k, none⟩ := by
      unfold Addr.add
      split
      · rename_i e; subst e; rfl
      · rfl
    rw [e1] at h1
    rw [h1]
    simp [hkl]

theorem bytes_set (l : List UInt8) (k : Nat) (c : UInt8) : (bytes l).set k (.int .u8 (c.toNat : Int)) = bytes (l.set k c) := by
  unfold bytes
  rw [List.map_set]
  rfl
theorem bytes_replicate (n : Nat) : bytes (List.replicate n 0) = List.replicate n (.int .u8 0) := by
  unfold bytes
  rw [List.map_replicate]
  rfl

theorem add_plain (b off k : Nat) : (Addr.mk b off none).add k = ⟨b, off + k, none⟩ := by
  unfold Addr.add
  split
  · rename_i e; subst e; rfl
  · rfl

/-- A part of what is held. -/
theorem Holds.take {w : World} {A : Option Addr} {xs : List Value} (h : Holds w A xs) (m : Nat) : Holds w A (xs.take m) := by
  intro hne
  obtain ⟨b, off, rfl, hc⟩ := h (by rintro rfl; simp at hne)
  refine ⟨b, off, rfl, fun k u hu => hc k u ?_⟩
  rw [List.getElem?_take] at hu
  split at hu
  · exact hu
  · cases hu
theorem Holds.drop {w : World} {A : Option Addr} {xs : List Value} (h : Holds w A xs) (m : Nat) : Holds w (A.map fun x => x.add m) (xs.drop m) := by
  intro hne
  obtain ⟨b, off, rfl, hc⟩ := h (by rintro rfl; simp at hne)
  refine ⟨b, off + m, by rw [Option.map_some, add_plain], fun k u hu => ?_⟩
  rw [List.getElem?_drop] at hu
  rw [Nat.add_assoc]
  exact hc _ u hu
/-- The place of a cut, as the model has it: at the very end of the room it stays. -/
theorem Holds.drop' {w : World} {A : Option Addr} {xs : List Value} (h : Holds w A xs) (m cap : Nat) (hc : xs.length ≤ cap) :
    Holds w (if cap = m then A else A.map fun x => x.add m) (xs.drop m) := by
  by_cases e : cap = m
  · rw [List.drop_eq_nil_of_le (by omega)]; exact Holds.nil _ _
  · rw [if_neg e]; exact h.drop m
theorem bytes_take (l : List UInt8) (m : Nat) : (bytes l).take m = bytes (l.take m) := List.map_take.symm
theorem bytes_drop (l : List UInt8) (m : Nat) : (bytes l).drop m = bytes (l.drop m) := List.map_drop.symm
theorem bytes_append (l m : List UInt8) : bytes (l ++ m) = bytes l ++ bytes m := List.map_append
end Go.Proofs.Ytpcmlopbkehffaa

/-
  Rows that the call itself made: what they hold, and appending to them from any source (nil, empty, or not).
-/
namespace Go.Proofs.Ytpcmlopbkehffaa
set_option linter.unusedSimpArgs false
set_option linter.unusedVariables false
open Go.RowKit

/-- A row of the call's own is a slice, and holds its cells. -/
theorem own_form {w : World} {B : Nat} {e : TypeId} {size n : Nat} {v : Value} {xs : List Value} (h : w.ownsRow B e size v n xs) :
    ∃ A c, v = .slice A n c ∧ n ≤ c ∧ c ≤ maxLen ∧ Holds w A xs := by
  obtain ⟨hx, ⟨rfl, rfl⟩ | ⟨g, cap, cur, rfl, hg, hh, hnc, hcm, hs, hc⟩⟩ := h
  · refine ⟨none, 0, rfl, Nat.le_refl _, by unfold maxLen; omega, ?_⟩
    have : xs = [] := List.eq_nil_of_length_eq_zero (by simpa using hx)
    subst this
    exact Holds.nil _ _
  · refine ⟨_, cap, rfl, hnc, hcm, fun _ => ⟨g, 0, rfl, fun k u hu => ?_⟩⟩
    rw [World.cell?, hh]
    rw [← hc, List.getElem?_take] at hu
    split at hu
    · simpa using hu
    · cases hu

theorem own_holds {w : World} {B : Nat} {e : TypeId} {size n c : Nat} {A : Option Addr} {xs : List Value} (h : w.ownsRow B e size (.slice A n c) n xs) : Holds w A xs := by
  obtain ⟨A', c', hv, _, _, hh⟩ := own_form h
  cases hv
  exact hh

/-- Its block is one of the call's own. -/
theorem own_from {w : World} {B : Nat} {e : TypeId} {size n : Nat} {v : Value} {xs : List Value} (h : w.ownsRow B e size v n xs) : ∀ k, v.ownBlock = some k → B ≤ k := fun k hk => (h.lt k hk).1

/-- Where such a row lies, if there is anything in it. -/
theorem own_place {w : World} {B : Nat} {e : TypeId} {size n c : Nat} {A : Option Addr} {xs : List Value} (h : w.ownsRow B e size (.slice A n c) n xs) (hn : 0 < n) :
    ∃ g, A = some ⟨g, 0, none⟩ ∧ B ≤ g ∧ g < w.heap.size ∧ n ≤ c := by
  obtain ⟨_, ⟨_, rfl⟩ | ⟨g, cap, cur, hv, hg, hh, hnc, _⟩⟩ := h
  · omega
  · injection hv with a b c
    subst a c
    refine ⟨g, rfl, hg, ?_, hnc⟩
    rcases Nat.lt_or_ge g w.heap.size with hlt | hge
    · exact hlt
    · rw [Array.getElem?_eq_none hge] at hh; cases hh

theorem bytes_one (l : List UInt8) : ∀ u ∈ bytes l, u.oneCell' = true := by
  intro u hu
  obtain ⟨c, _, rfl⟩ := List.mem_map.1 hu
  rfl

section
variable {P : Program} (w : World)
theorem run_app (B : Nat) (t ty e : TypeId) (i : TypeInfo) (z : Value) (size by_ : Nat) (ht : P.underlying t = some (.slice e)) (hi : P.info? e = some i) (hz : i.zero = some z)
    (hsize : i.size = size) (hby : i.bytes = by_) (hzs : z.cells.size = size) (hsz : 0 < size)
    (v : Value) (n : Nat) (xs : List Value) (hown : w.ownsRow B e size v n xs)
    (A : Option Addr) (m c : Nat) (news : List Value) (hl : news.length = m * size) (hA : Holds w A news) (hnil : A = none → c = 0) (h1 : ∀ u ∈ news, u.oneCell' = true)
    (N : Nat) (ys : List Value) (hN : n + m = N) (hys : xs ++ news = ys) (h63 : N ≤ maxLen) (hroom : N * by_ ≤ 140737488355328) (hB : B ≤ w.heap.size) :
    ∃ A' c' w', (Builtin.append_ #[t, t] ty #[v, .slice A m c]).run P w = .ok (.slice A' N c') w' ∧ w'.ownsRow B e size (.slice A' N c') N ys ∧
      w.grownBy w' v.ownBlock ∧ ((Value.slice A' N c').ownBlock = v.ownBlock ∨ (Value.slice A' N c').ownBlock = some w.heap.size) := by
  subst hN hys
  rcases A with _ | ad
  · have hm : m = 0 := by
      rcases Nat.eq_zero_or_pos m with h0 | h0
      · exact h0
      · have : news ≠ [] := by
          rintro rfl
          rw [List.length_nil] at hl
          have := Nat.mul_pos h0 hsz
          omega
        obtain ⟨b, off, h, _⟩ := hA this
        cases h
    subst hm
    have hn : news = [] := List.eq_nil_of_length_eq_zero (by simpa using hl)
    subst hn
    have hr := run_append_owned_none (P := P) w B t ty e i size ht hi v n xs hown
    obtain ⟨A', c', rfl, _⟩ := own_form hown
    refine ⟨A', c', w, ?_, by simpa using hown, World.grownBy.refl w _, .inl rfl⟩
    rw [hnil rfl]; exact hr
  · have hcells : ∀ j u, news[j]? = some u → w.cell? (ad.add j) = some u := by
      intro j u hu
      obtain ⟨b, off, h, hc⟩ := hA (by rintro rfl; simp at hu)
      cases h
      rw [add_plain]
      exact hc j u hu
    obtain ⟨v', w', hrun, h2, h3, _, h5⟩ := run_append_own_at (P := P) w B t ty e i z size by_ ht hi hz hsize hby hzs hsz v n xs hown ad m c news hl hcells h1 h63 hroom hB
    obtain ⟨A', c', rfl, _⟩ := own_form h2
    exact ⟨A', c', w', hrun, h2, h3, h5⟩

theorem wpList_app {ops : Array Oper} {rest : List Oper} {o : Oper} {a : Act} {Q : Exit → Act → World → Prop} (hgd : Region.wanted o (yielded ops a.tmps) = true) (s x : Operand) (t : TypeId)
    (ho : o.op = .call { callee := .builtin .append, args := #[s, x], argTypes := #[t, t] })
    (B : Nat) (e : TypeId) (i : TypeInfo) (z : Value) (size by_ : Nat) (ht : P.underlying t = some (.slice e)) (hi : P.info? e = some i) (hz : i.zero = some z)
    (hsize : i.size = size) (hby : i.bytes = by_) (hzs : z.cells.size = size) (hsz : 0 < size)
    (v : Value) (n : Nat) (xs : List Value) (hs : a.eval s = v) (hown : w.ownsRow B e size v n xs)
    (A : Option Addr) (m c : Nat) (news : List Value) (hx : a.eval x = .slice A m c) (hl : news.length = m * size) (hA : Holds w A news) (hnil : A = none → c = 0) (h1 : ∀ u ∈ news, u.oneCell' = true)
    (N : Nat) (ys : List Value) (hN : n + m = N) (hys : xs ++ news = ys) (h63 : N ≤ maxLen) (hroom : N * by_ ≤ 140737488355328) (hB : B ≤ w.heap.size)
    (h : ∀ A' c' w', w'.ownsRow B e size (.slice A' N c') N ys → w.grownBy w' v.ownBlock →
      ((Value.slice A' N c').ownBlock = v.ownBlock ∨ (Value.slice A' N c').ownBlock = some w.heap.size) → wpList P ops Q rest (a.put o.dst (.slice A' N c')) w') :
    wpList P ops Q (o :: rest) a w := by
  obtain ⟨A', c', w', hrun, h2, h3, h4⟩ := run_app (P := P) w B t o.type e i z size by_ ht hi hz hsize hby hzs hsz v n xs hown A m c news hl hA hnil h1 N ys hN hys h63 hroom hB
  refine wpList_step fun K hK => ?_
  rw [if_pos hgd]
  unfold Oper.wp execOp
  simp only [ho, resolve, invoke, builtin, Sem.run_bind, Sem.run_pure, Result.andThen_ok, List.map_toArray, List.map_cons, List.map_nil, hs, hx, hrun]
  exact hK _ _ (h A' c' w' h2 h3 h4)
end
end Go.Proofs.Ytpcmlopbkehffaa

/-
  A slice of bytes that reads as a list, whoever made it; a row of bytes of the call's own; appending to it.
-/
namespace Go.Proofs.Ytpcmlopbkehffaa
set_option linter.unusedSimpArgs false
set_option linter.unusedVariables false
open Go.RowKit

/-- The slice with this place, length and room reads as the bytes l. -/
structure Sl (w : World) (A : Option Addr) (n c : Nat) (l : List UInt8) : Prop where
  holds : Holds w A (bytes l)
  len : l.length = n
  cap : n ≤ c
  max : c ≤ 9223372036854775807
  nil : A = none → c = 0

theorem Sl.none (w : World) : Sl w none 0 0 [] := ⟨Holds.nil _ _, rfl, Nat.le_refl _, by omega, fun _ => rfl⟩
theorem Sl.below {w w' : World} {A : Option Addr} {n c : Nat} {l : List UInt8} (h : Sl w A n c l) (hb : Below w.heap.size w w') : Sl w' A n c l :=
  ⟨h.holds.below hb, h.len, h.cap, h.max, h.nil⟩
theorem Sl.keep {w w' : World} {A : Option Addr} {n c : Nat} {l : List UInt8} (h : Sl w A n c l) (hk : ∀ p : Addr, p.block < w.heap.size → w'.cell? p = w.cell? p) : Sl w' A n c l :=
  ⟨h.holds.keep hk, h.len, h.cap, h.max, h.nil⟩
theorem Sl.drew {w : World} {A : Option Addr} {n c : Nat} {l : List UInt8} (h : Sl w A n c l) (k : Nat) : Sl (w.drewN k) A n c l :=
  h.keep fun _ _ => rfl
theorem Sl.le {w : World} {A : Option Addr} {n c : Nat} {l : List UInt8} (h : Sl w A n c l) : n ≤ 9223372036854775807 := Nat.le_trans h.cap h.max

/-- The place of s[m:], as the model has it. -/
def cutAt (A : Option Addr) (c m : Nat) : Option Addr := if c = m then A else A.map fun x => x.add m
theorem Sl.from_ {w : World} {A : Option Addr} {n c : Nat} {l : List UInt8} (h : Sl w A n c l) (m : Nat) (hm : m ≤ n) : Sl w (cutAt A c m) (n - m) (c - m) (l.drop m) := by
  refine ⟨?_, by rw [List.length_drop, h.len], by have := h.cap; omega, by have := h.max; omega, ?_⟩
  · have := h.holds.drop' m c (by rw [bytes_length, h.len]; exact h.cap)
    rwa [bytes_drop] at this
  · intro e
    unfold cutAt at e
    split at e
    · omega
    · rcases A with _ | a
      · have := h.nil rfl; omega
      · cases e
theorem Sl.upto {w : World} {A : Option Addr} {n c : Nat} {l : List UInt8} (h : Sl w A n c l) (m : Nat) (hm : m ≤ n) : Sl w A m c (l.take m) := by
  refine ⟨?_, by rw [List.length_take, h.len]; omega, by have := h.cap; omega, h.max, h.nil⟩
  rw [← bytes_take]
  exact h.holds.take m
/-- The room cut off as well (three numbers). -/
theorem Sl.tight {w : World} {A : Option Addr} {n c : Nat} {l : List UInt8} (h : Sl w A n c l) (c' : Nat) (h1 : n ≤ c') (h2 : c' ≤ c) : Sl w A n c' l :=
  ⟨h.holds, h.len, h1, by have := h.max; omega, fun e => by have := h.nil e; omega⟩

theorem Sl.at_ {w : World} {A A' : Option Addr} {n n' c c' : Nat} {l l' : List UInt8} (h : Sl w A n c l) (e1 : A = A') (e2 : n = n') (e3 : c = c') (e4 : l = l') : Sl w A' n' c' l' := by subst e1 e2 e3 e4; exact h
theorem cutAt_same {A : Option Addr} {c m : Nat} (h : c = m) : cutAt A c m = A := if_pos h
theorem cutAt_add {A : Option Addr} {c m : Nat} (h : ¬ c = m) : cutAt A c m = A.map fun x => x.add m := if_neg h
/-- .. as the walk writes the place where the number is not 0. -/
theorem cutAt_off {A : Option Addr} {c m k : Nat} (h : ¬ c = m) (h0 : ¬ m = 0) (hk : m = k) : cutAt A c m = A.map fun x => { block := x.block, off := x.off + k } := by
  subst hk
  rw [cutAt_add h]
  congr 1
  funext x
  unfold Addr.add
  rw [if_neg h0]

/-- A row of bytes of the call's own, from block B on. -/
def Own (B : Nat) (w : World) (A : Option Addr) (n c : Nat) (l : List UInt8) : Prop := w.ownsRow B 5 1 (.slice A n c) n (bytes l)
theorem Own.sl {B : Nat} {w : World} {A : Option Addr} {n c : Nat} {l : List UInt8} (h : Own B w A n c l) : Sl w A n c l := by
  have h' := h
  obtain ⟨hx, ⟨e, rfl⟩ | ⟨g, cap, cur, e, hg, hh, hnc, hcm, hs, hc⟩⟩ := h'
  · injection e with a b c
    subst a
    subst c
    exact ⟨own_holds h, by rw [← bytes_length, hx], Nat.le_refl _, by omega, fun _ => rfl⟩
  · injection e with a b c
    subst a c
    unfold maxLen at hcm
    exact ⟨own_holds h, by rw [← bytes_length, hx]; omega, hnc, by omega, fun e => by cases e⟩
theorem Own.none (B : Nat) (w : World) : Own B w none 0 0 [] := World.ownsRow_nil w B _ _
/-- What is below a base is as it was, and what is from it on stays its own from any lower base. -/
theorem Own.mono {B B' : Nat} {w : World} {A : Option Addr} {n c : Nat} {l : List UInt8} (h : Own B w A n c l) (hB : B' ≤ B) : Own B' w A n c l := by
  obtain ⟨hx, h | ⟨g, cap, cur, e, hg, r⟩⟩ := h
  · exact ⟨hx, .inl h⟩
  · exact ⟨hx, .inr ⟨g, cap, cur, e, by omega, r⟩⟩
theorem Own.alloc {B : Nat} {w : World} {A : Option Addr} {n c : Nat} {l : List UInt8} (h : Own B w A n c l) (o : Obj) : Own B (w.alloc o) A n c l := World.ownsRow.alloc h o
theorem Own.drew {B : Nat} {w : World} {A : Option Addr} {n c : Nat} {l : List UInt8} (h : Own B w A n c l) : Own B w.drew A n c l := h
theorem Own.at_ {B : Nat} {w : World} {A : Option Addr} {n n' c : Nat} {l l' : List UInt8} (h : Own B w A n c l) (e1 : n = n') (e2 : l = l') : Own B w A n' c l' := by subst e1 e2; exact h
/-- .. and kept where a later part changes nothing that was there. -/
theorem Own.later {B : Nat} {w w' : World} {A : Option Addr} {n c : Nat} {l : List UInt8} (h : Own B w A n c l) (hb : Below w.heap.size w w') : Own B w' A n c l := by
  obtain ⟨hx, h | ⟨g, cap, cur, e, hg, hh, r⟩⟩ := h
  · exact ⟨hx, .inl h⟩
  · refine ⟨hx, .inr ⟨g, cap, cur, e, hg, ?_, r⟩⟩
    have hlt : g < w.heap.size := (Array.getElem?_eq_some_iff.1 hh).1
    rw [← hh]
    exact hb.block g hlt

theorem info_u8 : (Try.prog.info? 5).map (fun i => (i.zero, i.size, i.bytes)) = some (some (.int .u8 0), 1, 1) := by kernel_rfl

/-- A contract that leaves the world alone, told from the other side. -/
theorem quiet_flip {P : Program} {f : FuncId} {args : Array Value} {w : World} {v : Value} (h : Calls P f args w fun e w' => e = .returned v ∧ w = w') :
    Calls P f args w fun e w' => e = .returned v ∧ w' = w := h.mono fun _ _ ⟨h1, h2⟩ => ⟨h1, h2.symm⟩
/-- A list written out, in a block of its own. -/
theorem own_lit (w : World) (l : List UInt8) (cs : Array Value) (h : cs.toList = bytes l) (n : Nat) (hn : l.length = n) (hm : n ≤ 9223372036854775807) (B : Nat) (hB : B ≤ w.heap.size) :
    Own B (w.alloc (.cells cs 5)) (some ⟨w.heap.size, 0, Option.none⟩) n n l := by
  refine ⟨by rw [bytes_length]; omega, .inr ⟨w.heap.size, n, cs, rfl, hB, heap_alloc_new w _, Nat.le_refl _, by unfold maxLen; omega, ?_, ?_⟩⟩
  · rw [← Array.length_toList, h, bytes_length]; omega
  · rw [h, List.take_of_length_le (by rw [bytes_length]; omega)]
/-- .. whatever the block is marked with (a constant's bytes). -/
theorem sl_lit (w : World) (l : List UInt8) (cs : Array Value) (T : TypeId) (mk : Nat × Nat) (h : cs.toList = bytes l) (n : Nat) (hn : l.length = n) (hm : n ≤ 9223372036854775807) :
    Sl (w.alloc (.cells cs T mk)) (some ⟨w.heap.size, 0, Option.none⟩) n n l := by
  refine ⟨fun _ => ⟨w.heap.size, 0, rfl, fun k u hu => ?_⟩, hn, Nat.le_refl _, hm, fun e => by cases e⟩
  rw [World.cell?_alloc_mark, Nat.zero_add, ← hu, ← h, Array.getElem?_toList]
/-- What the shell tells of a slice of bytes that came in. -/
theorem sl_of_row {w : World} {a : Option Addr} {len cap : Nat} {zs : List Int}
    (h : (a = .none ∧ len = 0 ∧ cap = 0 ∧ zs = []) ∨
      ∃ x, a = some x ∧ len ≤ cap ∧ cap ≤ maxLen ∧ zs.length = cap ∧ (∀ i, i < zs.length → w.cell? (x.add i) = some (.int .u8 (zs.getD i 0))) ∧ ∀ n ∈ zs, (Lit.int .u8 n).wf = true) :
    ∃ l : List UInt8, Sl w a len cap l := by
  obtain ⟨l, h1, h2, h3, h4, h5⟩ := holds_of_row h
  unfold maxLen at h3
  exact ⟨l, h4, h1, h2, by omega, h5⟩
theorem Own.place {B : Nat} {w : World} {A : Option Addr} {n c : Nat} {l : List UInt8} (h : Own B w A n c l) (hn : 0 < n) : ∃ g, A = some ⟨g, 0, .none⟩ ∧ B ≤ g ∧ g < w.heap.size := by
  obtain ⟨g, h1, h2, h3, _⟩ := own_place h hn
  exact ⟨g, h1, h2, h3⟩
/-- A store into such a row. -/
theorem Own.store {B : Nat} {w : World} {g n c : Nat} {l : List UInt8} (h : Own B w (some ⟨g, 0, .none⟩) n c l) (hg : B ≤ g) (j : Nat) (hj : j < l.length) (x : UInt8) :
    w.cell? ⟨g, j, .none⟩ = some (.int .u8 (l[j].toNat : Int)) ∧ w.frozen? ⟨g, j, .none⟩ = false ∧
      Own B (w.setCell ⟨g, j, .none⟩ (.int .u8 (x.toNat : Int))) (some ⟨g, 0, .none⟩) n c (l.set j x) ∧ Below B w (w.setCell ⟨g, j, .none⟩ (.int .u8 (x.toNat : Int))) := by
  have hl : l.length = n := h.sl.len
  have h1 := World.ownsRow.cellAt h j (by omega)
  rw [bytes_get hj] at h1
  have h2 := World.ownsRow.stored h j (.int .u8 (x.toNat : Int))
  rw [bytes_set] at h2
  exact ⟨h1, World.ownsRow.frozenAt h j, h2.1, (Below.refl _ _).setCell (p := ⟨g, j, .none⟩) hg _⟩
end Go.Proofs.Ytpcmlopbkehffaa

/-
  A slice of one-cell values that reads as a list, whoever made it; such a row of the call's own, and appending one value to it.
-/
namespace Go.Proofs.Ytpcmlopbkehffaa
set_option linter.unusedSimpArgs false
set_option linter.unusedVariables false
open Go.RowKit

/-- The slice with this place, length and room holds the values vs. -/
structure Row (w : World) (A : Option Addr) (n c : Nat) (vs : List Value) : Prop where
  holds : Holds w A vs
  len : vs.length = n
  cap : n ≤ c
  max : c ≤ 9223372036854775807
  nil : A = .none → c = 0
theorem Row.none (w : World) : Row w .none 0 0 [] := ⟨Holds.nil _ _, rfl, Nat.le_refl _, by omega, fun _ => rfl⟩
theorem Row.below {w w' : World} {A : Option Addr} {n c : Nat} {vs : List Value} (h : Row w A n c vs) (hb : Below w.heap.size w w') : Row w' A n c vs := ⟨h.holds.below hb, h.len, h.cap, h.max, h.nil⟩
theorem Row.le {w : World} {A : Option Addr} {n c : Nat} {vs : List Value} (h : Row w A n c vs) : n ≤ 9223372036854775807 := Nat.le_trans h.cap h.max
theorem Row.at_ {w : World} {A : Option Addr} {n c : Nat} {vs : List Value} (h : Row w A n c vs) {k : Nat} (hk : k < vs.length) :
    ∃ b off, A = some ⟨b, off, .none⟩ ∧ w.cell? ⟨b, off + k, .none⟩ = some vs[k] := by
  have hg : vs[k]? = some vs[k] := List.getElem?_eq_getElem hk
  obtain ⟨b, off, rfl, hc⟩ := h.holds (by rintro rfl; simp at hk)
  exact ⟨b, off, rfl, hc k _ hg⟩

/-- A row of one-cell values of type e, of the call's own, from block B on. -/
def OwnV (e : TypeId) (B : Nat) (w : World) (A : Option Addr) (n c : Nat) (vs : List Value) : Prop := w.ownsRow B e 1 (.slice A n c) n vs
theorem OwnV.none (e : TypeId) (B : Nat) (w : World) : OwnV e B w .none 0 0 [] := World.ownsRow_nil w B _ _
theorem OwnV.len {e : TypeId} {B : Nat} {w : World} {A : Option Addr} {n c : Nat} {vs : List Value} (h : OwnV e B w A n c vs) : vs.length = n := by
  have := h.1
  omega
theorem OwnV.later {e : TypeId} {B : Nat} {w w' : World} {A : Option Addr} {n c : Nat} {vs : List Value} (h : OwnV e B w A n c vs) (hb : Below w.heap.size w w') : OwnV e B w' A n c vs := by
  obtain ⟨hx, h | ⟨g, cap, cur, e', hg, hh, r⟩⟩ := h
  · exact ⟨hx, .inl h⟩
  · refine ⟨hx, .inr ⟨g, cap, cur, e', hg, ?_, r⟩⟩
    have hlt : g < w.heap.size := (Array.getElem?_eq_some_iff.1 hh).1
    rw [← hh]
    exact hb.block g hlt
theorem OwnV.from_ {e : TypeId} {B : Nat} {w : World} {A : Option Addr} {n c : Nat} {vs : List Value} (h : OwnV e B w A n c vs) : ∀ k, (Value.slice A n c).ownBlock = some k → B ≤ k ∧ k < w.heap.size := World.ownsRow.lt h
theorem OwnV.row {e : TypeId} {B : Nat} {w : World} {A : Option Addr} {n c : Nat} {vs : List Value} (h : OwnV e B w A n c vs) : Row w A n c vs := by
  have hh := own_holds h
  have hl := h.len
  obtain ⟨hx, ⟨e', rfl⟩ | ⟨g, cap, cur, e', hg, _, hnc, hcm, hs, hc⟩⟩ := h
  · injection e' with a b c
    subst a
    subst c
    exact ⟨hh, hl, Nat.le_refl _, by omega, fun _ => rfl⟩
  · injection e' with a b c
    subst a c
    unfold maxLen at hcm
    exact ⟨hh, hl, hnc, by omega, fun e => by cases e⟩
/-- A row is kept where another one grows. -/
theorem OwnV.kept {e : TypeId} {B : Nat} {w w' : World} {A : Option Addr} {n c : Nat} {vs : List Value} {row : Option Nat} (h : OwnV e B w A n c vs) (hg : w.grownBy w' row) (hne : (Value.slice A n c).ownBlock = .none ∨ (Value.slice A n c).ownBlock ≠ row) : OwnV e B w' A n c vs :=
  World.ownsRow.kept h hg hne
theorem ownV_lit (e : TypeId) (w : World) (vs : List Value) (cs : Array Value) (h : cs.toList = vs) (n : Nat) (hn : vs.length = n) (hm : n ≤ 9223372036854775807) (B : Nat) (hB : B ≤ w.heap.size) :
    OwnV e B (w.alloc (.cells cs e)) (some ⟨w.heap.size, 0, .none⟩) n n vs := by
  refine ⟨by omega, .inr ⟨w.heap.size, n, cs, rfl, hB, heap_alloc_new w _, Nat.le_refl _, by unfold maxLen; omega, ?_, ?_⟩⟩
  · rw [← Array.length_toList, h]; omega
  · rw [h, List.take_of_length_le (by omega)]
theorem at_new (w : World) (v : Value) (T : TypeId) : (w.alloc (.cells #[v] T)).cell? ⟨w.heap.size, 0, .none⟩ = some v := by rw [World.cell?_alloc_mark]; rfl

/-- append(s, x), x first laid in a block of its own. -/
theorem wpList_one {w : World} {ops : Array Oper} {rest : List Oper} {o : Oper} {a : Act} {Q : Exit → Act → World → Prop} (hgd : Region.wanted o (yielded ops a.tmps) = true) (s x : Operand) (t e : TypeId)
    (ho : o.op = .call { callee := .builtin .append, args := #[s, x], argTypes := #[t, t] })
    (z : Value) (by_ : Nat) (ht : Try.prog.underlying t = some (.slice e)) (hinfo : (Try.prog.info? e).map (fun i => (i.zero, i.size, i.bytes)) = some (some z, 1, by_)) (hz : z.cells.size = 1)
    (B : Nat) (A0 : Option Addr) (n0 c0 : Nat) (l0 : List Value) (hs : a.eval s = .slice A0 n0 c0) (hown : OwnV e B w A0 n0 c0 l0)
    (b : Nat) (v : Value) (hx : a.eval x = .slice (some ⟨b, 0, .none⟩) 1 1) (hl : w.cell? ⟨b, 0, .none⟩ = some v) (hv : v.oneCell' = true)
    (N : Nat) (ys : List Value) (hN : n0 + 1 = N) (hys : l0 ++ [v] = ys) (hroom : N * by_ ≤ 140737488355328) (hlen : N ≤ 140737488355328) (hB : B ≤ w.heap.size)
    (h : ∀ A' c' w', OwnV e B w' A' N c' ys → Below B w w' → w.grownBy w' (Value.slice A0 n0 c0).ownBlock →
      ((Value.slice A' N c').ownBlock = (Value.slice A0 n0 c0).ownBlock ∨ (Value.slice A' N c').ownBlock = some w.heap.size) → wpList Try.prog ops Q rest (a.put o.dst (.slice A' N c')) w') :
    wpList Try.prog ops Q (o :: rest) a w := by
  subst hys
  obtain ⟨i0, hi0, hz0, hz1, hz2⟩ := info_parts hinfo
  refine wpList_app w hgd s x t ho B e i0 _ 1 by_ ht hi0 hz0 hz1 hz2 hz (by omega) (.slice A0 n0 c0) n0 l0 hs hown _ 1 1 [v] hx
    rfl ?_ (fun e => by cases e) (by intro u hu; rw [List.mem_singleton.1 hu]; exact hv) N (l0 ++ [v]) hN rfl (by unfold maxLen; omega) hroom hB ?_
  · intro _
    refine ⟨b, 0, rfl, fun k u hu => ?_⟩
    rcases k with _ | k
    · cases hu; exact hl
    · simp at hu
  · intro A' c' w' ho' hg hat
    exact h A' c' w' ho' ((Below.refl B w).grown hg hB (own_from hown)) hg hat
end Go.Proofs.Ytpcmlopbkehffaa

/-
  A block of cells that is known whole.
-/
namespace Go.Proofs.Ytpcmlopbkehffaa
set_option linter.unusedSimpArgs false
set_option linter.unusedVariables false
open Go.RowKit

def Whole (w : World) (g : Nat) (t : TypeId) (cs : Array Value) : Prop := w.heap[g]? = some (.cells cs t (0, 0))
theorem Whole.cell {w : World} {g : Nat} {t : TypeId} {cs : Array Value} (h : Whole w g t cs) (i : Nat) (v : Value) (hv : cs[i]? = some v) : w.cell? ⟨g, i, none⟩ = some v := by
  unfold Whole at h
  rw [World.cell?, h]
  simpa using hv
theorem Whole.free {w : World} {g : Nat} {t : TypeId} {cs : Array Value} (h : Whole w g t cs) (i : Nat) : w.frozen? ⟨g, i, none⟩ = false := by
  unfold Whole at h
  simp [World.frozen?, h]
theorem Whole.below {w w' : World} {g B : Nat} {t : TypeId} {cs : Array Value} (h : Whole w g t cs) (hb : Below B w w') (hg : g < B) : Whole w' g t cs := (hb.block g hg).trans h
theorem Whole.lt {w : World} {g : Nat} {t : TypeId} {cs : Array Value} (h : Whole w g t cs) : g < w.heap.size := (Array.getElem?_eq_some_iff.1 h).1
theorem Whole.store {w : World} {g : Nat} {t : TypeId} {cs : Array Value} (h : Whole w g t cs) (i : Nat) (v : Value) : Whole (w.setCell ⟨g, i, none⟩ v) g t (cs.setIfInBounds i v) := by
  unfold Whole at h ⊢
  simp [World.setCell, Array.getElem?_modify, h]
theorem Whole.far {w : World} {g : Nat} {t : TypeId} {cs : Array Value} (h : Whole w g t cs) {p : Addr} (hp : g ≠ p.block) (v : Value) : Whole (w.setCell p v) g t cs := (Below.heap_setCell w p v g hp).trans h
theorem whole_new (w : World) (t : TypeId) (cs : Array Value) : Whole (w.alloc (.cells cs t)) w.heap.size t cs := heap_alloc_new w _
theorem whole_at (w : World) (g : Nat) (t : TypeId) (cs : Array Value) (h : g = w.heap.size) : Whole (w.alloc (.cells cs t)) g t cs := by
  subst h
  exact whole_new w t cs
theorem Whole.alloc {w : World} {g : Nat} {t : TypeId} {cs : Array Value} (h : Whole w g t cs) (o : Obj) : Whole (w.alloc o) g t cs := (Below.heap_alloc w o g h.lt).trans h
theorem Whole.drewN {w : World} {g : Nat} {t : TypeId} {cs : Array Value} (h : Whole w g t cs) (n : Nat) : Whole (w.drewN n) g t cs := h
theorem Whole.drew {w : World} {g : Nat} {t : TypeId} {cs : Array Value} (h : Whole w g t cs) : Whole w.drew g t cs := h
/-- Four stores, one behind the other. -/
abbrev put4 (W : World) (g : Nat) (a b c d : Value) : World := (((W.setCell ⟨g, 0, none⟩ a).setCell ⟨g, 1, none⟩ b).setCell ⟨g, 2, none⟩ c).setCell ⟨g, 3, none⟩ d
theorem whole_put4 {W : World} {g : Nat} {T : TypeId} {a b c d : Value} (h : Whole W g T #[a, b, c, d]) (a' b' c' d' : Value) : Whole (put4 W g a' b' c' d') g T #[a', b', c', d'] :=
  (((h.store 0 a').store 1 b').store 2 c').store 3 d'
theorem below_put4 {B : Nat} {w W : World} {g : Nat} (h : Below B w W) (hg : B ≤ g) (a b c d : Value) : Below B w (put4 W g a b c d) :=
  (((h.setCell (p := ⟨g, 0, none⟩) hg a).setCell (p := ⟨g, 1, none⟩) hg b).setCell (p := ⟨g, 2, none⟩) hg c).setCell (p := ⟨g, 3, none⟩) hg d
end Go.Proofs.Ytpcmlopbkehffaa
