/-
  A slice that reads as a list of one-cell values, nil let in; bytes as such a list.
-/
import Derived.WalkKit
import Derived.WalkSpells
import Derived.Maps.AppendAt
import Derived.OwnWalk
import Derived.WalkLawsBesides
import Derived.RegionTactic
import Derived.BigRegion
import Derived.Deep.RegionWith
import Derived.Deep.QuietTactic
import Derived.BigQuiet
import Derived.Deep.DeepFit
import Derived.StillTailTactics
import Derived.Test.YtnpbokbfkdncmaaGreatRows
import Derived.Lib.DecodeN
import Derived.Lib.RuneCountTail
import Derived.Lib.AppendStr
import Derived.Lib.SlBytesRow
import Derived.Laws.BytesArg
import Derived.Laws.BitsAllLaws
namespace Go.Proofs.YtnpbokbfkdncmaaGreat
open Go.RowKit

/-- A fact kept from the walk, under the fact's own statement. -/
theorem hid_ {p : Prop} (h : p) : Hid p := h

/-- The slice's place A holds the values xs, one cell each (nothing is asked of A where there is none). -/
def Holds (w : World) (A : Option Addr) (xs : List Value) : Prop :=
  xs ≠ [] → ∃ b off, A = some ⟨b, off, none⟩ ∧ ∀ k u, xs[k]? = some u → w.cell? ⟨b, off + k, none⟩ = some u

def byte (c : UInt8) : Value := .int .u8 (c.toNat : Int)
def bytes (l : List UInt8) : List Value := l.map byte

theorem Holds.nil (w : World) (A : Option Addr) : Holds w A [] := fun h => absurd rfl h

theorem lt_of_cell {w : World} {a : Addr} {v : Value} (h : w.cell? a = some v) : a.block < w.heap.size := by
  rcases Nat.lt_or_ge a.block w.heap.size with hlt | hge
  · exact hlt
  · rw [World.cell?, Array.getElem?_eq_none hge] at h
    simp at h

/-- All of it lies in one block that is there. -/
theorem Holds.keep {w w' : World} {A : Option Addr} {xs : List Value} (h : Holds w A xs)
    (hk : ∀ p : Addr, p.block < w.heap.size → w'.cell? p = w.cell? p) : Holds w' A xs := by
  intro hx
  obtain ⟨b, off, rfl, hc⟩ := h hx
  refine ⟨b, off, rfl, fun k u hu => ?_⟩
  have h1 := hc k u hu
  rw [hk _ (lt_of_cell h1)]
  exact h1
theorem Holds.below {w w' : World} {A : Option Addr} {xs : List Value} (h : Holds w A xs) (hb : Below w.heap.size w w') : Holds w' A xs :=
  h.keep fun _ hp => hb.cell hp

theorem bytes_length (l : List UInt8) : (bytes l).length = l.length := List.length_map ..
theorem bytes_nil : bytes [] = [] := rfl
theorem bytes_ne {l : List UInt8} (h : l ≠ []) : bytes l ≠ [] := by intro e; exact h (by simpa [bytes] using e)
theorem bytes_get {l : List UInt8} {k : Nat} (h : k < l.length) : (bytes l)[k]? = some (.int .u8 (l[k].toNat : Int)) := by simp [bytes, byte, h]
theorem bytes_get_inv {l : List UInt8} {k : Nat} {u : Value} (h : (bytes l)[k]? = some u) : ∃ hk : k < l.length, u = .int .u8 (l[k].toNat : Int) := by
  have hk : k < l.length := by
    have := (List.getElem?_eq_some_iff.1 h).1
    rwa [bytes_length] at this
  refine ⟨hk, ?_⟩
  rw [bytes_get hk] at h
  exact (Option.some.inj h).symm

theorem Holds.at_ {w : World} {A : Option Addr} {l : List UInt8} (h : Holds w A (bytes l)) {k : Nat} (hk : k < l.length) :
    ∃ b off, A = some ⟨b, off, none⟩ ∧ w.cell? ⟨b, off + k, none⟩ = some (.int .u8 (l[k].toNat : Int)) := by
  obtain ⟨b, off, rfl, hc⟩ := h (bytes_ne (by intro e; subst e; simp at hk))
  exact ⟨b, off, rfl, hc k _ (bytes_get hk)⟩

/-- A number of a byte's kind is a byte. -/
theorem byte_of {n : Int} (h : (Lit.int .u8 n).wf = true) : ∃ c : UInt8, (c.toNat : Int) = n := by
  have h1 : 0 ≤ n ∧ n ≤ 255 := by simpa [Lit.wf, IntKind.min, IntKind.max, IntKind.bits, IntKind.signed] using h
  refine ⟨UInt8.ofNat n.toNat, ?_⟩
  rw [UInt8.toNat_ofNat']
  omega
theorem bytes_of : ∀ zs : List Int, (∀ n ∈ zs, (Lit.int .u8 n).wf = true) → ∃ l : List UInt8, l.map (fun c => (c.toNat : Int)) = zs
  | [], _ => ⟨[], rfl⟩
  | z :: zs, h => by
    obtain ⟨c, hc⟩ := byte_of (h z (by simp))
    obtain ⟨l, hl⟩ := bytes_of zs (fun n hn => h n (by simp [hn]))
    exact ⟨c :: l, by simp [hc, hl]⟩

/-- What the shell tells of a slice of bytes that came in. -/
theorem holds_of_row {w : World} {a : Option Addr} {len cap : Nat} {zs : List Int}
    (h : (a = none ∧ len = 0 ∧ cap = 0 ∧ zs = []) ∨
      ∃ x, a = some x ∧ len ≤ cap ∧ cap ≤ maxLen ∧ zs.length = cap ∧ (∀ i, i < zs.length → w.cell? (x.add i) = some (.int .u8 (zs.getD i 0))) ∧ ∀ n ∈ zs, (Lit.int .u8 n).wf = true) :
    ∃ l : List UInt8, l.length = len ∧ len ≤ cap ∧ cap ≤ maxLen ∧ Holds w a (bytes l) ∧ (a = none → cap = 0) := by
  rcases h with ⟨rfl, rfl, rfl, rfl⟩ | ⟨x, rfl, hl, hm, hz, hcell, hwz⟩
  · exact ⟨[], rfl, Nat.le_refl _, by unfold maxLen; omega, Holds.nil _ _, fun _ => rfl⟩
  · obtain ⟨l, rfl⟩ := bytes_of zs hwz
    have hlen : l.length = cap := by simpa using hz
    refine ⟨l.take len, by rw [List.length_take]; omega, hl, hm, ?_, fun e => by cases e⟩
    intro hne
    have hpos : 0 < l.length := by
      rcases l with _ | ⟨c, l⟩
      · simp [bytes] at hne
      · simp
    obtain ⟨b, off, spot⟩ := x
    have h0 := hcell 0 (by simpa using hpos)
    have hs : spot = none := by simpa [Addr.add] using World.cell?_spot h0
    subst hs
    refine ⟨b, off, rfl, fun k u hu => ?_⟩
    obtain ⟨hk, rfl⟩ := bytes_get_inv hu
    have hkl : k < l.length := by rw [List.length_take] at hk; omega
    have h1 := hcell k (by simpa using hkl)
    have e1 : (Addr.mk b off none).add k = ⟨b, off + k, none⟩ := by
      unfold Addr.add
      split
      · rename_i e; subst e; rfl
      · rfl
    rw [e1] at h1
    rw [h1]
    simp [hkl]

theorem bytes_set (l : List UInt8) (k : Nat) (c : UInt8) : (bytes l).set k (.int .u8 (c.toNat : Int)) = bytes (l.set k c) := by
  unfold bytes
  rw [List.map_set]
  rfl
theorem bytes_replicate (n : Nat) : bytes (List.replicate n 0) = List.replicate n (.int .u8 0) := by
  unfold bytes
  rw [List.map_replicate]
  rfl

theorem add_plain (b off k : Nat) : (Addr.mk b off none).add k = ⟨b, off + k, none⟩ := by
  unfold Addr.add
  split
  · rename_i e; subst e; rfl
  · rfl

/-- A part of what is held. -/
theorem Holds.take {w : World} {A : Option Addr} {xs : List Value} (h : Holds w A xs) (m : Nat) : Holds w A (xs.take m) := by
  intro hne
  obtain ⟨b, off, rfl, hc⟩ := h (by rintro rfl; simp at hne)
  refine ⟨b, off, rfl, fun k u hu => hc k u ?_⟩
  rw [List.getElem?_take] at hu
  split at hu
  · exact hu
  · cases hu
theorem Holds.drop {w : World} {A : Option Addr} {xs : List Value} (h : Holds w A xs) (m : Nat) : Holds w (A.map fun x => x.add m) (xs.drop m) := by
  intro hne
  obtain ⟨b, off, rfl, hc⟩ := h (by rintro rfl; simp at hne)
  refine ⟨b, off + m, by rw [Option.map_some, add_plain], fun k u hu => ?_⟩
  rw [List.getElem?_drop] at hu
  rw [Nat.add_assoc]
  exact hc _ u hu
/-- The place of a cut, as the model has it: at the very end of the room it stays. -/
theorem Holds.drop' {w : World} {A : Option Addr} {xs : List Value} (h : Holds w A xs) (m cap : Nat) (hc : xs.length ≤ cap) :
    Holds w (if cap = m then A else A.map fun x => x.add m) (xs.drop m) := by
  by_cases e : cap = m
  · rw [List.drop_eq_nil_of_le (by omega)]; exact Holds.nil _ _
  · rw [if_neg e]; exact h.drop m
theorem bytes_take (l : List UInt8) (m : Nat) : (bytes l).take m = bytes (l.take m) := List.map_take.symm
theorem bytes_drop (l : List UInt8) (m : Nat) : (bytes l).drop m = bytes (l.drop m) := List.map_drop.symm
theorem bytes_append (l m : List UInt8) : bytes (l ++ m) = bytes l ++ bytes m := List.map_append
end Go.Proofs.YtnpbokbfkdncmaaGreat

/-
  Rows that the call itself made: what they hold, and appending to them from any source (nil, empty, or not).
-/
namespace Go.Proofs.YtnpbokbfkdncmaaGreat
open Go.RowKit

/-- A row of the call's own is a slice, and holds its cells. -/
theorem own_form {w : World} {B : Nat} {e : TypeId} {size n : Nat} {v : Value} {xs : List Value} (h : w.ownsRow B e size v n xs) :
    ∃ A c, v = .slice A n c ∧ n ≤ c ∧ c ≤ maxLen ∧ Holds w A xs := by
  obtain ⟨hx, ⟨rfl, rfl⟩ | ⟨g, cap, cur, rfl, hg, hh, hnc, hcm, hs, hc⟩⟩ := h
  · refine ⟨none, 0, rfl, Nat.le_refl _, by unfold maxLen; omega, ?_⟩
    have : xs = [] := List.eq_nil_of_length_eq_zero (by simpa using hx)
    subst this
    exact Holds.nil _ _
  · refine ⟨_, cap, rfl, hnc, hcm, fun _ => ⟨g, 0, rfl, fun k u hu => ?_⟩⟩
    rw [World.cell?, hh]
    rw [← hc, List.getElem?_take] at hu
    split at hu
    · simpa using hu
    · cases hu

theorem own_holds {w : World} {B : Nat} {e : TypeId} {size n c : Nat} {A : Option Addr} {xs : List Value} (h : w.ownsRow B e size (.slice A n c) n xs) : Holds w A xs := by
  obtain ⟨A', c', hv, _, _, hh⟩ := own_form h
  cases hv
  exact hh

/-- Its block is one of the call's own. -/
theorem own_from {w : World} {B : Nat} {e : TypeId} {size n : Nat} {v : Value} {xs : List Value} (h : w.ownsRow B e size v n xs) : ∀ k, v.ownBlock = some k → B ≤ k := fun k hk => (h.lt k hk).1

/-- Where such a row lies, if there is anything in it. -/
theorem own_place {w : World} {B : Nat} {e : TypeId} {size n c : Nat} {A : Option Addr} {xs : List Value} (h : w.ownsRow B e size (.slice A n c) n xs) (hn : 0 < n) :
    ∃ g, A = some ⟨g, 0, none⟩ ∧ B ≤ g ∧ g < w.heap.size ∧ n ≤ c := by
  obtain ⟨_, ⟨_, rfl⟩ | ⟨g, cap, cur, hv, hg, hh, hnc, _⟩⟩ := h
  · omega
  · injection hv with a b c
    subst a c
    refine ⟨g, rfl, hg, ?_, hnc⟩
    rcases Nat.lt_or_ge g w.heap.size with hlt | hge
    · exact hlt
    · rw [Array.getElem?_eq_none hge] at hh; cases hh

theorem bytes_one (l : List UInt8) : ∀ u ∈ bytes l, u.oneCell' = true := by
  intro u hu
  obtain ⟨c, _, rfl⟩ := List.mem_map.1 hu
  rfl

section
variable {P : Program} (w : World)
theorem run_app (B : Nat) (t ty e : TypeId) (i : TypeInfo) (z : Value) (size by_ : Nat) (ht : P.underlying t = some (.slice e)) (hi : P.info? e = some i) (hz : i.zero = some z)
    (hsize : i.size = size) (hby : i.bytes = by_) (hzs : z.cells.size = size) (hsz : 0 < size)
    (v : Value) (n : Nat) (xs : List Value) (hown : w.ownsRow B e size v n xs)
    (A : Option Addr) (m c : Nat) (news : List Value) (hl : news.length = m * size) (hA : Holds w A news) (hnil : A = none → c = 0) (h1 : ∀ u ∈ news, u.oneCell' = true)
    (N : Nat) (ys : List Value) (hN : n + m = N) (hys : xs ++ news = ys) (h63 : N ≤ maxLen) (hroom : N * by_ ≤ 140737488355328) (hB : B ≤ w.heap.size) :
    ∃ A' c' w', (Builtin.append_ #[t, t] ty #[v, .slice A m c]).run P w = .ok (.slice A' N c') w' ∧ w'.ownsRow B e size (.slice A' N c') N ys ∧
      w.grownBy w' v.ownBlock ∧ ((Value.slice A' N c').ownBlock = v.ownBlock ∨ (Value.slice A' N c').ownBlock = some w.heap.size) := by
  subst hN hys
  rcases A with _ | ad
  · have hm : m = 0 := by
      rcases Nat.eq_zero_or_pos m with h0 | h0
      · exact h0
      · have : news ≠ [] := by
          rintro rfl
          rw [List.length_nil] at hl
          have := Nat.mul_pos h0 hsz
          omega
        obtain ⟨b, off, h, _⟩ := hA this
        cases h
    subst hm
    have hn : news = [] := List.eq_nil_of_length_eq_zero (by simpa using hl)
    subst hn
    have hr := run_append_owned_none (P := P) w B t ty e i size ht hi v n xs hown
    obtain ⟨A', c', rfl, _⟩ := own_form hown
    refine ⟨A', c', w, ?_, by simpa using hown, World.grownBy.refl w _, .inl rfl⟩
    rw [hnil rfl]; exact hr
  · have hcells : ∀ j u, news[j]? = some u → w.cell? (ad.add j) = some u := by
      intro j u hu
      obtain ⟨b, off, h, hc⟩ := hA (by rintro rfl; simp at hu)
      cases h
      rw [add_plain]
      exact hc j u hu
    obtain ⟨v', w', hrun, h2, h3, _, h5⟩ := run_append_own_at (P := P) w B t ty e i z size by_ ht hi hz hsize hby hzs hsz v n xs hown ad m c news hl hcells h1 h63 hroom hB
    obtain ⟨A', c', rfl, _⟩ := own_form h2
    exact ⟨A', c', w', hrun, h2, h3, h5⟩

theorem wpList_app {ops : Array Oper} {rest : List Oper} {o : Oper} {a : Act} {Q : Exit → Act → World → Prop} (hgd : Region.wanted o (yielded ops a.tmps) = true) (s x : Operand) (t : TypeId)
    (ho : o.op = .call { callee := .builtin .append, args := #[s, x], argTypes := #[t, t] })
    (B : Nat) (e : TypeId) (i : TypeInfo) (z : Value) (size by_ : Nat) (ht : P.underlying t = some (.slice e)) (hi : P.info? e = some i) (hz : i.zero = some z)
    (hsize : i.size = size) (hby : i.bytes = by_) (hzs : z.cells.size = size) (hsz : 0 < size)
    (v : Value) (n : Nat) (xs : List Value) (hs : a.eval s = v) (hown : w.ownsRow B e size v n xs)
    (A : Option Addr) (m c : Nat) (news : List Value) (hx : a.eval x = .slice A m c) (hl : news.length = m * size) (hA : Holds w A news) (hnil : A = none → c = 0) (h1 : ∀ u ∈ news, u.oneCell' = true)
    (N : Nat) (ys : List Value) (hN : n + m = N) (hys : xs ++ news = ys) (h63 : N ≤ maxLen) (hroom : N * by_ ≤ 140737488355328) (hB : B ≤ w.heap.size)
    (h : ∀ A' c' w', w'.ownsRow B e size (.slice A' N c') N ys → w.grownBy w' v.ownBlock →
      ((Value.slice A' N c').ownBlock = v.ownBlock ∨ (Value.slice A' N c').ownBlock = some w.heap.size) → wpList P ops Q rest (a.put o.dst (.slice A' N c')) w') :
    wpList P ops Q (o :: rest) a w := by
  obtain ⟨A', c', w', hrun, h2, h3, h4⟩ := run_app (P := P) w B t o.type e i z size by_ ht hi hz hsize hby hzs hsz v n xs hown A m c news hl hA hnil h1 N ys hN hys h63 hroom hB
  refine wpList_step fun K hK => ?_
  rw [if_pos hgd]
  unfold Oper.wp execOp
  simp only [ho, resolve, invoke, builtin, Sem.run_bind, Sem.run_pure, Result.andThen_ok, List.map_toArray, List.map_cons, List.map_nil, hs, hx, hrun]
  exact hK _ _ (h A' c' w' h2 h3 h4)
end
end Go.Proofs.YtnpbokbfkdncmaaGreat

/-
  A slice of bytes that reads as a list, whoever made it; a row of bytes of the call's own; appending to it.
-/
namespace Go.Proofs.YtnpbokbfkdncmaaGreat
open Go.RowKit

/-- The slice with this place, length and room reads as the bytes l. -/
structure Sl (w : World) (A : Option Addr) (n c : Nat) (l : List UInt8) : Prop where
  holds : Holds w A (bytes l)
  len : l.length = n
  cap : n ≤ c
  max : c ≤ 9223372036854775807
  nil : A = none → c = 0

theorem Sl.none (w : World) : Sl w none 0 0 [] := ⟨Holds.nil _ _, rfl, Nat.le_refl _, by omega, fun _ => rfl⟩
theorem Sl.below {w w' : World} {A : Option Addr} {n c : Nat} {l : List UInt8} (h : Sl w A n c l) (hb : Below w.heap.size w w') : Sl w' A n c l :=
  ⟨h.holds.below hb, h.len, h.cap, h.max, h.nil⟩
theorem Sl.keep {w w' : World} {A : Option Addr} {n c : Nat} {l : List UInt8} (h : Sl w A n c l) (hk : ∀ p : Addr, p.block < w.heap.size → w'.cell? p = w.cell? p) : Sl w' A n c l :=
  ⟨h.holds.keep hk, h.len, h.cap, h.max, h.nil⟩
theorem Sl.drew {w : World} {A : Option Addr} {n c : Nat} {l : List UInt8} (h : Sl w A n c l) (k : Nat) : Sl (w.drewN k) A n c l :=
  h.keep fun _ _ => rfl
theorem Sl.le {w : World} {A : Option Addr} {n c : Nat} {l : List UInt8} (h : Sl w A n c l) : n ≤ 9223372036854775807 := Nat.le_trans h.cap h.max

/-- The place of s[m:], as the model has it. -/
def cutAt (A : Option Addr) (c m : Nat) : Option Addr := if c = m then A else A.map fun x => x.add m
theorem Sl.from_ {w : World} {A : Option Addr} {n c : Nat} {l : List UInt8} (h : Sl w A n c l) (m : Nat) (hm : m ≤ n) : Sl w (cutAt A c m) (n - m) (c - m) (l.drop m) := by
  refine ⟨?_, by rw [List.length_drop, h.len], by have := h.cap; omega, by have := h.max; omega, ?_⟩
  · have := h.holds.drop' m c (by rw [bytes_length, h.len]; exact h.cap)
    rwa [bytes_drop] at this
  · intro e
    unfold cutAt at e
    split at e
    · omega
    · rcases A with _ | a
      · have := h.nil rfl; omega
      · cases e
theorem Sl.upto {w : World} {A : Option Addr} {n c : Nat} {l : List UInt8} (h : Sl w A n c l) (m : Nat) (hm : m ≤ n) : Sl w A m c (l.take m) := by
  refine ⟨?_, by rw [List.length_take, h.len]; omega, by have := h.cap; omega, h.max, h.nil⟩
  rw [← bytes_take]
  exact h.holds.take m
/-- The room cut off as well (three numbers). -/
theorem Sl.tight {w : World} {A : Option Addr} {n c : Nat} {l : List UInt8} (h : Sl w A n c l) (c' : Nat) (h1 : n ≤ c') (h2 : c' ≤ c) : Sl w A n c' l :=
  ⟨h.holds, h.len, h1, by have := h.max; omega, fun e => by have := h.nil e; omega⟩

theorem Sl.at_ {w : World} {A A' : Option Addr} {n n' c c' : Nat} {l l' : List UInt8} (h : Sl w A n c l) (e1 : A = A') (e2 : n = n') (e3 : c = c') (e4 : l = l') : Sl w A' n' c' l' := by subst e1 e2 e3 e4; exact h
theorem cutAt_same {A : Option Addr} {c m : Nat} (h : c = m) : cutAt A c m = A := if_pos h
theorem cutAt_add {A : Option Addr} {c m : Nat} (h : ¬ c = m) : cutAt A c m = A.map fun x => x.add m := if_neg h
/-- .. as the walk writes the place where the number is not 0. -/
theorem cutAt_off {A : Option Addr} {c m k : Nat} (h : ¬ c = m) (h0 : ¬ m = 0) (hk : m = k) : cutAt A c m = A.map fun x => { block := x.block, off := x.off + k } := by
  subst hk
  rw [cutAt_add h]
  congr 1
  funext x
  unfold Addr.add
  rw [if_neg h0]

/-- A row of bytes of the call's own, from block B on. -/
def Own (B : Nat) (w : World) (A : Option Addr) (n c : Nat) (l : List UInt8) : Prop := w.ownsRow B 5 1 (.slice A n c) n (bytes l)
theorem Own.sl {B : Nat} {w : World} {A : Option Addr} {n c : Nat} {l : List UInt8} (h : Own B w A n c l) : Sl w A n c l := by
  have h' := h
  obtain ⟨hx, ⟨e, rfl⟩ | ⟨g, cap, cur, e, hg, hh, hnc, hcm, hs, hc⟩⟩ := h'
  · injection e with a b c
    subst a
    subst c
    exact ⟨own_holds h, by rw [← bytes_length, hx], Nat.le_refl _, by omega, fun _ => rfl⟩
  · injection e with a b c
    subst a c
    unfold maxLen at hcm
    exact ⟨own_holds h, by rw [← bytes_length, hx]; omega, hnc, by omega, fun e => by cases e⟩
theorem Own.none (B : Nat) (w : World) : Own B w none 0 0 [] := World.ownsRow_nil w B _ _
/-- What is below a base is as it was, and what is from it on stays its own from any lower base. -/
theorem Own.mono {B B' : Nat} {w : World} {A : Option Addr} {n c : Nat} {l : List UInt8} (h : Own B w A n c l) (hB : B' ≤ B) : Own B' w A n c l := by
  obtain ⟨hx, h | ⟨g, cap, cur, e, hg, r⟩⟩ := h
  · exact ⟨hx, .inl h⟩
  · exact ⟨hx, .inr ⟨g, cap, cur, e, by omega, r⟩⟩
theorem Own.alloc {B : Nat} {w : World} {A : Option Addr} {n c : Nat} {l : List UInt8} (h : Own B w A n c l) (o : Obj) : Own B (w.alloc o) A n c l := World.ownsRow.alloc h o
theorem Own.drew {B : Nat} {w : World} {A : Option Addr} {n c : Nat} {l : List UInt8} (h : Own B w A n c l) : Own B w.drew A n c l := h
theorem Own.at_ {B : Nat} {w : World} {A : Option Addr} {n n' c : Nat} {l l' : List UInt8} (h : Own B w A n c l) (e1 : n = n') (e2 : l = l') : Own B w A n' c l' := by subst e1 e2; exact h
/-- .. and kept where a later part changes nothing that was there. -/
theorem Own.later {B : Nat} {w w' : World} {A : Option Addr} {n c : Nat} {l : List UInt8} (h : Own B w A n c l) (hb : Below w.heap.size w w') : Own B w' A n c l := by
  obtain ⟨hx, h | ⟨g, cap, cur, e, hg, hh, r⟩⟩ := h
  · exact ⟨hx, .inl h⟩
  · refine ⟨hx, .inr ⟨g, cap, cur, e, hg, ?_, r⟩⟩
    have hlt : g < w.heap.size := (Array.getElem?_eq_some_iff.1 hh).1
    rw [← hh]
    exact hb.block g hlt

theorem info_u8 : (Tryz.prog.info? 5).map (fun i => (i.zero, i.size, i.bytes)) = some (some (.int .u8 0), 1, 1) := by kernel_rfl

/-- A contract that leaves the world alone, told from the other side. -/
theorem quiet_flip {P : Program} {f : FuncId} {args : Array Value} {w : World} {v : Value} (h : Calls P f args w fun e w' => e = .returned v ∧ w = w') :
    Calls P f args w fun e w' => e = .returned v ∧ w' = w := h.mono fun _ _ ⟨h1, h2⟩ => ⟨h1, h2.symm⟩
/-- append(s, x..) on bytes, s a row of the call's own: with all that is known of the new world. -/
theorem wpList_bytesG {w : World} {ops : Array Oper} {rest : List Oper} {o : Oper} {a : Act} {Q : Exit → Act → World → Prop} (hgd : Region.wanted o (yielded ops a.tmps) = true) (s x : Operand)
    (ho : o.op = .call { callee := .builtin .append, args := #[s, x], argTypes := #[33, 33] })
    (B : Nat) (A0 : Option Addr) (n0 c0 : Nat) (l0 : List UInt8) (hs : a.eval s = .slice A0 n0 c0) (hown : Own B w A0 n0 c0 l0)
    (A : Option Addr) (m c : Nat) (l : List UInt8) (hx : a.eval x = .slice A m c) (hl : Sl w A m c l)
    (N : Nat) (ys : List UInt8) (hN : n0 + m = N) (hys : l0 ++ l = ys) (hroom : N ≤ 140737488355328) (hB : B ≤ w.heap.size)
    (h : ∀ A' c' w', Own B w' A' N c' ys → Below B w w' → w.grownBy w' (Value.slice A0 n0 c0).ownBlock →
      ((Value.slice A' N c').ownBlock = (Value.slice A0 n0 c0).ownBlock ∨ (Value.slice A' N c').ownBlock = some w.heap.size) → wpList Tryz.prog ops Q rest (a.put o.dst (.slice A' N c')) w') :
    wpList Tryz.prog ops Q (o :: rest) a w := by
  subst hys
  obtain ⟨i0, hi0, hz0, hz1, hz2⟩ := info_parts info_u8
  refine wpList_app w hgd s x 33 ho B 5 i0 _ 1 1 Tryz.underlying33 hi0 hz0 hz1 hz2 rfl (by omega) (.slice A0 n0 c0) n0 (bytes l0) hs hown A m c (bytes l) hx
    (by rw [bytes_length, hl.len]; omega) hl.holds hl.nil (bytes_one l) N (bytes (l0 ++ l)) hN (bytes_append l0 l).symm (by unfold maxLen; omega) (by omega) hB ?_
  intro A' c' w' ho' hg hat
  exact h A' c' w' ho' ((Below.refl B w).grown hg hB (own_from hown)) hg hat
/-- append(s, x..) on bytes, s a row of the call's own. -/
theorem wpList_bytes {w : World} {ops : Array Oper} {rest : List Oper} {o : Oper} {a : Act} {Q : Exit → Act → World → Prop} (hgd : Region.wanted o (yielded ops a.tmps) = true) (s x : Operand)
    (ho : o.op = .call { callee := .builtin .append, args := #[s, x], argTypes := #[33, 33] })
    (B : Nat) (A0 : Option Addr) (n0 c0 : Nat) (l0 : List UInt8) (hs : a.eval s = .slice A0 n0 c0) (hown : Own B w A0 n0 c0 l0)
    (A : Option Addr) (m c : Nat) (l : List UInt8) (hx : a.eval x = .slice A m c) (hl : Sl w A m c l)
    (N : Nat) (ys : List UInt8) (hN : n0 + m = N) (hys : l0 ++ l = ys) (hroom : N ≤ 140737488355328) (hB : B ≤ w.heap.size)
    (h : ∀ A' c' w', Own B w' A' N c' ys → Below B w w' → wpList Tryz.prog ops Q rest (a.put o.dst (.slice A' N c')) w') :
    wpList Tryz.prog ops Q (o :: rest) a w := by
  exact wpList_bytesG hgd s x ho B A0 n0 c0 l0 hs hown A m c l hx hl N ys hN hys hroom hB (fun A' c' w' h1 h2 _ _ => h A' c' w' h1 h2)

/-- .. as one step of a region that draws its order. -/
theorem step_bytes {w : World} {ops : Array Oper} {o : Oper} {a : Act} {K : Act → World → Prop} {Q : Exit → Act → World → Prop} {E : Prop} (hgd : Region.wanted o (yielded ops a.tmps) = true) (s x : Operand)
    (ho : o.op = .call { callee := .builtin .append, args := #[s, x], argTypes := #[33, 33] })
    (B : Nat) (A0 : Option Addr) (n0 c0 : Nat) (l0 : List UInt8) (hs : a.eval s = .slice A0 n0 c0) (hown : Own B w A0 n0 c0 l0)
    (A : Option Addr) (m c : Nat) (l : List UInt8) (hx : a.eval x = .slice A m c) (hl : Sl w A m c l)
    (N : Nat) (ys : List UInt8) (hN : n0 + m = N) (hys : l0 ++ l = ys) (hroom : N ≤ 140737488355328) (hB : B ≤ w.heap.size)
    (h : ∀ A' c' w', Own B w' A' N c' ys → Below B w w' → K (a.put o.dst (.slice A' N c')) w') :
    if Region.wanted o (yielded ops a.tmps) = true then Oper.wp Tryz.prog o a w K Q else E := by
  subst hys
  rw [if_pos hgd]
  obtain ⟨i0, hi0, hz0, hz1, hz2⟩ := info_parts info_u8
  obtain ⟨A', c', w', hrun, h2, h3, _⟩ := run_app (P := Tryz.prog) w B 33 o.type 5 i0 _ 1 1 Tryz.underlying33 hi0 hz0 hz1 hz2 rfl (by omega) (.slice A0 n0 c0) n0 (bytes l0) hown A m c (bytes l)
    (by rw [bytes_length, hl.len]; omega) hl.holds hl.nil (bytes_one l) N (bytes (l0 ++ l)) hN (bytes_append l0 l).symm (by unfold maxLen; omega) (by omega) hB
  unfold Oper.wp execOp
  simp only [ho, resolve, invoke, builtin, Sem.run_bind, Sem.run_pure, Result.andThen_ok, List.map_toArray, List.map_cons, List.map_nil, hs, hx, hrun]
  exact h A' c' w' h2 ((Below.refl B w).grown h3 hB (own_from hown))
/-- make([]byte, 0, N) -/
theorem wpList_makeBytes {w : World} {ops : Array Oper} {rest : List Oper} {o : Oper} {a : Act} {Q : Exit → Act → World → Prop} (hg : o.guard = .none) (l c : Operand)
    (ho : o.op = Op.makeSlice 33 l c) (C : Int) (N : Nat) (hl : a.eval l = .int .i64 0) (hc : a.eval c = .int .i64 C) (hC : C = (N : Int)) (hN : N ≤ 140737488355328)
    (h : ∀ A' c' w', Own w.heap.size w' A' 0 c' [] → Below w.heap.size w w' → wpList Tryz.prog ops Q rest (a.put o.dst (.slice A' 0 c')) w') :
    wpList Tryz.prog ops Q (o :: rest) a w := by
  obtain ⟨i0, hi0, hz0, hz1, hz2⟩ := info_parts info_u8
  refine wpList_make_own w hg l c 33 ho w.heap.size 5 i0 (.int .u8 0) 1 Tryz.underlying33 hi0 hz0 hz1 .i64 .i64 C N hl hc hC (by rw [hz2]; omega) (by unfold maxLen; omega) (Nat.le_refl _) ?_
  intro w1 h1 hg1
  exact h _ _ _ h1 ((Below.refl _ _).grown hg1 (Nat.le_refl _) (fun k hk => by cases hk))

/-- A list written out, in a block of its own. -/
theorem own_lit (w : World) (l : List UInt8) (cs : Array Value) (h : cs.toList = bytes l) (n : Nat) (hn : l.length = n) (hm : n ≤ 9223372036854775807) (B : Nat) (hB : B ≤ w.heap.size) :
    Own B (w.alloc (.cells cs 5)) (some ⟨w.heap.size, 0, Option.none⟩) n n l := by
  refine ⟨by rw [bytes_length]; omega, .inr ⟨w.heap.size, n, cs, rfl, hB, heap_alloc_new w _, Nat.le_refl _, by unfold maxLen; omega, ?_, ?_⟩⟩
  · rw [← Array.length_toList, h, bytes_length]; omega
  · rw [h, List.take_of_length_le (by rw [bytes_length]; omega)]
/-- .. whatever the block is marked with (a constant's bytes). -/
theorem sl_lit (w : World) (l : List UInt8) (cs : Array Value) (T : TypeId) (mk : Nat × Nat) (h : cs.toList = bytes l) (n : Nat) (hn : l.length = n) (hm : n ≤ 9223372036854775807) :
    Sl (w.alloc (.cells cs T mk)) (some ⟨w.heap.size, 0, Option.none⟩) n n l := by
  refine ⟨fun _ => ⟨w.heap.size, 0, rfl, fun k u hu => ?_⟩, hn, Nat.le_refl _, hm, fun e => by cases e⟩
  rw [World.cell?_alloc_mark, Nat.zero_add, ← hu, ← h, Array.getElem?_toList]
/-- What the shell tells of a slice of bytes that came in. -/
theorem sl_of_row {w : World} {a : Option Addr} {len cap : Nat} {zs : List Int}
    (h : (a = .none ∧ len = 0 ∧ cap = 0 ∧ zs = []) ∨
      ∃ x, a = some x ∧ len ≤ cap ∧ cap ≤ maxLen ∧ zs.length = cap ∧ (∀ i, i < zs.length → w.cell? (x.add i) = some (.int .u8 (zs.getD i 0))) ∧ ∀ n ∈ zs, (Lit.int .u8 n).wf = true) :
    ∃ l : List UInt8, Sl w a len cap l := by
  obtain ⟨l, h1, h2, h3, h4, h5⟩ := holds_of_row h
  unfold maxLen at h3
  exact ⟨l, h4, h1, h2, by omega, h5⟩
theorem Own.place {B : Nat} {w : World} {A : Option Addr} {n c : Nat} {l : List UInt8} (h : Own B w A n c l) (hn : 0 < n) : ∃ g, A = some ⟨g, 0, .none⟩ ∧ B ≤ g ∧ g < w.heap.size := by
  obtain ⟨g, h1, h2, h3, _⟩ := own_place h hn
  exact ⟨g, h1, h2, h3⟩
/-- A store into such a row. -/
theorem Own.store {B : Nat} {w : World} {g n c : Nat} {l : List UInt8} (h : Own B w (some ⟨g, 0, .none⟩) n c l) (hg : B ≤ g) (j : Nat) (hj : j < l.length) (x : UInt8) :
    w.cell? ⟨g, j, .none⟩ = some (.int .u8 (l[j].toNat : Int)) ∧ w.frozen? ⟨g, j, .none⟩ = false ∧
      Own B (w.setCell ⟨g, j, .none⟩ (.int .u8 (x.toNat : Int))) (some ⟨g, 0, .none⟩) n c (l.set j x) ∧ Below B w (w.setCell ⟨g, j, .none⟩ (.int .u8 (x.toNat : Int))) := by
  have hl : l.length = n := h.sl.len
  have h1 := World.ownsRow.cellAt h j (by omega)
  rw [bytes_get hj] at h1
  have h2 := World.ownsRow.stored h j (.int .u8 (x.toNat : Int))
  rw [bytes_set] at h2
  exact ⟨h1, World.ownsRow.frozenAt h j, h2.1, (Below.refl _ _).setCell (p := ⟨g, j, .none⟩) hg _⟩
end Go.Proofs.YtnpbokbfkdncmaaGreat

/-
  A slice of one-cell values that reads as a list, whoever made it; such a row of the call's own, and appending one value to it.
-/
namespace Go.Proofs.YtnpbokbfkdncmaaGreat
open Go.RowKit

/-- The slice with this place, length and room holds the values vs. -/
structure Row (w : World) (A : Option Addr) (n c : Nat) (vs : List Value) : Prop where
  holds : Holds w A vs
  len : vs.length = n
  cap : n ≤ c
  max : c ≤ 9223372036854775807
  nil : A = .none → c = 0
theorem Row.none (w : World) : Row w .none 0 0 [] := ⟨Holds.nil _ _, rfl, Nat.le_refl _, by omega, fun _ => rfl⟩
theorem Row.below {w w' : World} {A : Option Addr} {n c : Nat} {vs : List Value} (h : Row w A n c vs) (hb : Below w.heap.size w w') : Row w' A n c vs := ⟨h.holds.below hb, h.len, h.cap, h.max, h.nil⟩
theorem Row.le {w : World} {A : Option Addr} {n c : Nat} {vs : List Value} (h : Row w A n c vs) : n ≤ 9223372036854775807 := Nat.le_trans h.cap h.max
theorem Row.at_ {w : World} {A : Option Addr} {n c : Nat} {vs : List Value} (h : Row w A n c vs) {k : Nat} (hk : k < vs.length) :
    ∃ b off, A = some ⟨b, off, .none⟩ ∧ w.cell? ⟨b, off + k, .none⟩ = some vs[k] := by
  have hg : vs[k]? = some vs[k] := List.getElem?_eq_getElem hk
  obtain ⟨b, off, rfl, hc⟩ := h.holds (by rintro rfl; simp at hk)
  exact ⟨b, off, rfl, hc k _ hg⟩

/-- A row of one-cell values of type e, of the call's own, from block B on. -/
def OwnV (e : TypeId) (B : Nat) (w : World) (A : Option Addr) (n c : Nat) (vs : List Value) : Prop := w.ownsRow B e 1 (.slice A n c) n vs
theorem OwnV.none (e : TypeId) (B : Nat) (w : World) : OwnV e B w .none 0 0 [] := World.ownsRow_nil w B _ _
theorem OwnV.len {e : TypeId} {B : Nat} {w : World} {A : Option Addr} {n c : Nat} {vs : List Value} (h : OwnV e B w A n c vs) : vs.length = n := by
  have := h.1
  omega
theorem OwnV.later {e : TypeId} {B : Nat} {w w' : World} {A : Option Addr} {n c : Nat} {vs : List Value} (h : OwnV e B w A n c vs) (hb : Below w.heap.size w w') : OwnV e B w' A n c vs := by
  obtain ⟨hx, h | ⟨g, cap, cur, e', hg, hh, r⟩⟩ := h
  · exact ⟨hx, .inl h⟩
  · refine ⟨hx, .inr ⟨g, cap, cur, e', hg, ?_, r⟩⟩
    have hlt : g < w.heap.size := (Array.getElem?_eq_some_iff.1 hh).1
    rw [← hh]
    exact hb.block g hlt
theorem OwnV.from_ {e : TypeId} {B : Nat} {w : World} {A : Option Addr} {n c : Nat} {vs : List Value} (h : OwnV e B w A n c vs) : ∀ k, (Value.slice A n c).ownBlock = some k → B ≤ k ∧ k < w.heap.size := World.ownsRow.lt h
theorem OwnV.row {e : TypeId} {B : Nat} {w : World} {A : Option Addr} {n c : Nat} {vs : List Value} (h : OwnV e B w A n c vs) : Row w A n c vs := by
  have hh := own_holds h
  have hl := h.len
  obtain ⟨hx, ⟨e', rfl⟩ | ⟨g, cap, cur, e', hg, _, hnc, hcm, hs, hc⟩⟩ := h
  · injection e' with a b c
    subst a
    subst c
    exact ⟨hh, hl, Nat.le_refl _, by omega, fun _ => rfl⟩
  · injection e' with a b c
    subst a c
    unfold maxLen at hcm
    exact ⟨hh, hl, hnc, by omega, fun e => by cases e⟩
/-- A row is kept where another one grows. -/
theorem OwnV.kept {e : TypeId} {B : Nat} {w w' : World} {A : Option Addr} {n c : Nat} {vs : List Value} {row : Option Nat} (h : OwnV e B w A n c vs) (hg : w.grownBy w' row) (hne : (Value.slice A n c).ownBlock = .none ∨ (Value.slice A n c).ownBlock ≠ row) : OwnV e B w' A n c vs :=
  World.ownsRow.kept h hg hne
theorem ownV_lit (e : TypeId) (w : World) (vs : List Value) (cs : Array Value) (h : cs.toList = vs) (n : Nat) (hn : vs.length = n) (hm : n ≤ 9223372036854775807) (B : Nat) (hB : B ≤ w.heap.size) :
    OwnV e B (w.alloc (.cells cs e)) (some ⟨w.heap.size, 0, .none⟩) n n vs := by
  refine ⟨by omega, .inr ⟨w.heap.size, n, cs, rfl, hB, heap_alloc_new w _, Nat.le_refl _, by unfold maxLen; omega, ?_, ?_⟩⟩
  · rw [← Array.length_toList, h]; omega
  · rw [h, List.take_of_length_le (by omega)]
theorem at_new (w : World) (v : Value) (T : TypeId) : (w.alloc (.cells #[v] T)).cell? ⟨w.heap.size, 0, .none⟩ = some v := by rw [World.cell?_alloc_mark]; rfl

/-- append(s, x), x first laid in a block of its own. -/
theorem wpList_one {w : World} {ops : Array Oper} {rest : List Oper} {o : Oper} {a : Act} {Q : Exit → Act → World → Prop} (hgd : Region.wanted o (yielded ops a.tmps) = true) (s x : Operand) (t e : TypeId)
    (ho : o.op = .call { callee := .builtin .append, args := #[s, x], argTypes := #[t, t] })
    (z : Value) (by_ : Nat) (ht : Tryz.prog.underlying t = some (.slice e)) (hinfo : (Tryz.prog.info? e).map (fun i => (i.zero, i.size, i.bytes)) = some (some z, 1, by_)) (hz : z.cells.size = 1)
    (B : Nat) (A0 : Option Addr) (n0 c0 : Nat) (l0 : List Value) (hs : a.eval s = .slice A0 n0 c0) (hown : OwnV e B w A0 n0 c0 l0)
    (b : Nat) (v : Value) (hx : a.eval x = .slice (some ⟨b, 0, .none⟩) 1 1) (hl : w.cell? ⟨b, 0, .none⟩ = some v) (hv : v.oneCell' = true)
    (N : Nat) (ys : List Value) (hN : n0 + 1 = N) (hys : l0 ++ [v] = ys) (hroom : N * by_ ≤ 140737488355328) (hlen : N ≤ 140737488355328) (hB : B ≤ w.heap.size)
    (h : ∀ A' c' w', OwnV e B w' A' N c' ys → Below B w w' → w.grownBy w' (Value.slice A0 n0 c0).ownBlock →
      ((Value.slice A' N c').ownBlock = (Value.slice A0 n0 c0).ownBlock ∨ (Value.slice A' N c').ownBlock = some w.heap.size) → wpList Tryz.prog ops Q rest (a.put o.dst (.slice A' N c')) w') :
    wpList Tryz.prog ops Q (o :: rest) a w := by
  subst hys
  obtain ⟨i0, hi0, hz0, hz1, hz2⟩ := info_parts hinfo
  refine wpList_app w hgd s x t ho B e i0 _ 1 by_ ht hi0 hz0 hz1 hz2 hz (by omega) (.slice A0 n0 c0) n0 l0 hs hown _ 1 1 [v] hx
    rfl ?_ (fun e => by cases e) (by intro u hu; rw [List.mem_singleton.1 hu]; exact hv) N (l0 ++ [v]) hN rfl (by unfold maxLen; omega) hroom hB ?_
  · intro _
    refine ⟨b, 0, rfl, fun k u hu => ?_⟩
    rcases k with _ | k
    · cases hu; exact hl
    · simp at hu
  · intro A' c' w' ho' hg hat
    exact h A' c' w' ho' ((Below.refl B w).grown hg hB (own_from hown)) hg hat
end Go.Proofs.YtnpbokbfkdncmaaGreat

/-
  Plain facts on runes: the model's own decoding, told of the bytes, and what a name is. No program is named here.
-/
namespace Go.Proofs.YtnpbokbfkdncmaaGreat.Ru
open Go.Lib (decodeN)

/-- The rune that bytes begin with, and how many they are; 0 and 0: none. -/
def runeN (n b0 b1 b2 b3 : Nat) : Nat × Nat :=
  if n = 0 then (0, 0) else if decodeN n b0 b1 b2 b3 = (65533, 1) then (0, 0) else decodeN n b0 b1 b2 b3
theorem runeN_bad {n b0 b1 b2 b3 : Nat} (h : decodeN n b0 b1 b2 b3 = (65533, 1)) : runeN n b0 b1 b2 b3 = (0, 0) := by
  unfold runeN
  rw [if_pos h]
  split <;> rfl
theorem runeN_good {n b0 b1 b2 b3 r k : Nat} (hn : n ≠ 0) (h : decodeN n b0 b1 b2 b3 = (r, k)) (h1 : r ≠ 65533 ∨ k ≠ 1) : runeN n b0 b1 b2 b3 = (r, k) := by
  unfold runeN
  rw [if_neg hn, if_neg (by rw [h]; intro e; injection e; omega), h]

/-- A number that a rune may be, above the least that its bytes may say. -/
def fits (least r : Nat) : Bool := decide (least ≤ r ∧ r ≤ 1114111 ∧ ¬ (55296 ≤ r ∧ r ≤ 57343))
theorem fits_yes {least r : Nat} (h : fits least r = true) : least ≤ r ∧ r ≤ 1114111 ∧ ¬ (55296 ≤ r ∧ r ≤ 57343) := of_decide_eq_true h
theorem fits_no {least r : Nat} (h : fits least r = false) : ¬ (least ≤ r ∧ r ≤ 1114111 ∧ ¬ (55296 ≤ r ∧ r ≤ 57343)) := of_decide_eq_false h

theorem rune_ascii (n b0 b1 b2 b3 : Nat) (hn : n ≠ 0) (h : b0 < 128) : runeN n b0 b1 b2 b3 = (b0, 1) :=
  runeN_good hn (by unfold decodeN; rw [if_pos h]) (by omega)
theorem rune_none (n b0 b1 b2 b3 : Nat) (h : 128 ≤ b0) (h1 : ¬ (194 ≤ b0 ∧ b0 ≤ 244)) (h0 : b0 < 256) : runeN n b0 b1 b2 b3 = (0, 0) := by
  apply runeN_bad
  unfold decodeN
  repeat' split
  all_goals first | rfl | (exfalso; omega)
theorem rune_few2 (n b0 b1 b2 b3 : Nat) (h : 194 ≤ b0 ∧ b0 ≤ 223) (hn : n < 2) : runeN n b0 b1 b2 b3 = (0, 0) := by
  apply runeN_bad
  unfold decodeN
  repeat' split
  all_goals first | rfl | (exfalso; omega)
theorem rune_few3 (n b0 b1 b2 b3 : Nat) (h : 224 ≤ b0 ∧ b0 ≤ 239) (hn : n < 3) : runeN n b0 b1 b2 b3 = (0, 0) := by
  apply runeN_bad
  unfold decodeN
  repeat' split
  all_goals first | rfl | (exfalso; omega)
theorem rune_few4 (n b0 b1 b2 b3 : Nat) (h : 240 ≤ b0 ∧ b0 ≤ 244) (hn : n < 4) : runeN n b0 b1 b2 b3 = (0, 0) := by
  apply runeN_bad
  unfold decodeN
  repeat' split
  all_goals first | rfl | (exfalso; omega)
set_option maxRecDepth 100000 in
theorem rune_two (n b0 b1 b2 b3 : Nat) (h : 194 ≤ b0 ∧ b0 ≤ 223) (hn : 2 ≤ n) (h1 : 128 ≤ b1 ∧ b1 ≤ 191) : runeN n b0 b1 b2 b3 = ((b0 - 192) * 64 + b1 - 128, 2) := by
  refine runeN_good (by omega) ?_ (by omega)
  unfold decodeN
  rw [if_neg (by omega), if_pos (by omega), if_pos (by omega)]
  congr 1; omega
theorem rune_two_not (n b0 b1 b2 b3 : Nat) (h : 194 ≤ b0 ∧ b0 ≤ 223) (hb : b1 < 256) (h1 : ¬ (128 ≤ b1 ∧ b1 ≤ 191)) : runeN n b0 b1 b2 b3 = (0, 0) := by
  apply runeN_bad
  unfold decodeN
  repeat' split
  all_goals first | rfl | (exfalso; omega)
set_option maxRecDepth 100000 in
theorem rune_three (n b0 b1 b2 b3 : Nat) (h : 224 ≤ b0 ∧ b0 ≤ 239) (hn : 3 ≤ n) (h1 : 128 ≤ b1 ∧ b1 ≤ 191) (h2 : 128 ≤ b2 ∧ b2 ≤ 191) (r : Nat) (hr : r = ((b0 - 224) * 64 + b1 - 128) * 64 + b2 - 128) :
    runeN n b0 b1 b2 b3 = if fits 2048 r = true then (r, 3) else (0, 0) := by
  have e : b0 % 16 * 4096 + b1 % 64 * 64 + b2 % 64 = r := by omega
  cases hf : fits 2048 r
  · have hf' := fits_no hf
    rw [if_neg (by decide)]
    apply runeN_bad
    unfold decodeN
    rw [if_neg (by omega), if_neg (by omega), if_pos (by omega), e, if_neg (by omega)]
  · have hf' := fits_yes hf
    rw [if_pos rfl]
    refine runeN_good (by omega) ?_ (by omega)
    unfold decodeN
    rw [if_neg (by omega), if_neg (by omega), if_pos (by omega), e, if_pos (by omega)]
theorem rune_three_not (n b0 b1 b2 b3 : Nat) (h : 224 ≤ b0 ∧ b0 ≤ 239) (hb : b1 < 256) (hb2 : b2 < 256) (h1 : ¬ (128 ≤ b1 ∧ b1 ≤ 191) ∨ ¬ (128 ≤ b2 ∧ b2 ≤ 191)) : runeN n b0 b1 b2 b3 = (0, 0) := by
  apply runeN_bad
  unfold decodeN
  rw [if_neg (by omega), if_neg (by omega), if_neg (by omega), if_neg (by omega)]
set_option maxRecDepth 100000 in
theorem rune_four (n b0 b1 b2 b3 : Nat) (h : 240 ≤ b0 ∧ b0 ≤ 244) (hn : 4 ≤ n) (h1 : 128 ≤ b1 ∧ b1 ≤ 191) (h2 : 128 ≤ b2 ∧ b2 ≤ 191) (h3 : 128 ≤ b3 ∧ b3 ≤ 191) (r : Nat) (hr : r = (((b0 - 240) * 64 + b1 - 128) * 64 + b2 - 128) * 64 + b3 - 128) :
    runeN n b0 b1 b2 b3 = if fits 65536 r = true then (r, 4) else (0, 0) := by
  have e : b0 % 8 * 262144 + b1 % 64 * 4096 + b2 % 64 * 64 + b3 % 64 = r := by omega
  cases hf : fits 65536 r
  · have hf' := fits_no hf
    rw [if_neg (by decide)]
    apply runeN_bad
    unfold decodeN
    rw [if_neg (by omega), if_neg (by omega), if_neg (by omega), if_pos (by omega), e, if_neg (by omega)]
  · have hf' := fits_yes hf
    rw [if_pos rfl]
    refine runeN_good (by omega) ?_ (by omega)
    unfold decodeN
    rw [if_neg (by omega), if_neg (by omega), if_neg (by omega), if_pos (by omega), e, if_pos (by omega)]
theorem rune_four_not (n b0 b1 b2 b3 : Nat) (h : 240 ≤ b0 ∧ b0 ≤ 244) (hb : b1 < 256) (hb2 : b2 < 256) (hb3 : b3 < 256) (h1 : ¬ (128 ≤ b1 ∧ b1 ≤ 191) ∨ ¬ (128 ≤ b2 ∧ b2 ≤ 191) ∨ ¬ (128 ≤ b3 ∧ b3 ≤ 191)) : runeN n b0 b1 b2 b3 = (0, 0) := by
  apply runeN_bad
  unfold decodeN
  rw [if_neg (by omega), if_neg (by omega), if_neg (by omega), if_neg (by omega)]

/-- .. of a text. -/
def runeF (s : ByteArray) : Nat × Nat := runeN s.size (s.get! 0).toNat (s.get! 1).toNat (s.get! 2).toNat (s.get! 3).toNat
theorem get_eq (s : ByteArray) (k : Nat) (h : k < s.size) : s.get! k = s[k] := by
  rw [← Lib.getD_get!']
  simp only [List.getD_eq_getElem?_getD]
  rw [List.getElem?_eq_getElem (by simpa using h)]
  rfl
/-- What the bytes behind the leading one have made of its number. -/
def acc (s : ByteArray) (r0 : Nat) : Nat → Nat
  | 0 => 0
  | 1 => r0
  | k + 2 => acc s r0 (k + 1) * 64 + (s.get! (k + 1)).toNat - 128
theorem acc_1 (s : ByteArray) (r0 : Nat) : acc s r0 1 = r0 := rfl
theorem acc_2 (s : ByteArray) (r0 : Nat) : acc s r0 2 = r0 * 64 + (s.get! 1).toNat - 128 := rfl
theorem acc_3 (s : ByteArray) (r0 : Nat) : acc s r0 3 = (r0 * 64 + (s.get! 1).toNat - 128) * 64 + (s.get! 2).toNat - 128 := rfl
theorem acc_4 (s : ByteArray) (r0 : Nat) : acc s r0 4 = ((r0 * 64 + (s.get! 1).toNat - 128) * 64 + (s.get! 2).toNat - 128) * 64 + (s.get! 3).toNat - 128 := rfl
theorem acc_succ (s : ByteArray) (r0 : Nat) {k : Nat} (h : 1 ≤ k) : acc s r0 (k + 1) = acc s r0 k * 64 + (s.get! k).toNat - 128 := by
  obtain ⟨j, rfl⟩ : ∃ j, k = j + 1 := ⟨k - 1, by omega⟩
  rfl
def Conts (s : ByteArray) (k : Nat) : Prop := ∀ j, 1 ≤ j → j < k → 128 ≤ (s.get! j).toNat ∧ (s.get! j).toNat ≤ 191
theorem Conts.one (s : ByteArray) : Conts s 1 := fun j h1 h2 => by omega
theorem Conts.succ {s : ByteArray} {k : Nat} (h : Conts s k) (h1 : 128 ≤ (s.get! k).toNat ∧ (s.get! k).toNat ≤ 191) : Conts s (k + 1) := fun j h2 h3 => by
  by_cases e : j = k
  · subst e; exact h1
  · exact h j h2 (by omega)
theorem acc_lt {s : ByteArray} {r0 : Nat} (h0 : r0 < 64) (k : Nat) (h1 : 1 ≤ k) (h4 : k ≤ 4) (hc : Conts s k) : acc s r0 k < 64 ^ k := by
  rcases (show k = 1 ∨ k = 2 ∨ k = 3 ∨ k = 4 by omega) with rfl | rfl | rfl | rfl
  · rw [acc_1, show (64 : Nat) ^ 1 = 64 from rfl]; exact h0
  · have := hc 1 (by omega) (by omega); rw [acc_2, show (64 : Nat) ^ 2 = 4096 from rfl]; omega
  · have := hc 1 (by omega) (by omega); have := hc 2 (by omega) (by omega); rw [acc_3, show (64 : Nat) ^ 3 = 262144 from rfl]; omega
  · have := hc 1 (by omega) (by omega); have := hc 2 (by omega) (by omega); have := hc 3 (by omega) (by omega); rw [acc_4, show (64 : Nat) ^ 4 = 16777216 from rfl]; omega
theorem runeF_2 {s : ByteArray} (h : 194 ≤ (s.get! 0).toNat ∧ (s.get! 0).toNat ≤ 223) (hn : 2 ≤ s.size) (hc : Conts s 2) (R : Nat) (hR : acc s ((s.get! 0).toNat - 192) 2 = R) : runeF s = if fits 128 R = true then (R, 2) else (0, 0) := by
  have h1 := hc 1 (by omega) (by omega)
  rw [acc_2] at hR
  unfold runeF
  rw [rune_two _ _ _ _ _ h hn h1]
  rw [if_pos]
  · congr 1
  · unfold fits
    rw [decide_eq_true_eq]
    omega
theorem runeF_3 {s : ByteArray} (h : 224 ≤ (s.get! 0).toNat ∧ (s.get! 0).toNat ≤ 239) (hn : 3 ≤ s.size) (hc : Conts s 3) (R : Nat) (hR : acc s ((s.get! 0).toNat - 224) 3 = R) : runeF s = if fits 2048 R = true then (R, 3) else (0, 0) := by
  have h1 := hc 1 (by omega) (by omega)
  have h2 := hc 2 (by omega) (by omega)
  rw [acc_3] at hR
  unfold runeF
  exact rune_three _ _ _ _ _ h hn h1 h2 R hR.symm
theorem runeF_4 {s : ByteArray} (h : 240 ≤ (s.get! 0).toNat ∧ (s.get! 0).toNat ≤ 244) (hn : 4 ≤ s.size) (hc : Conts s 4) (R : Nat) (hR : acc s ((s.get! 0).toNat - 240) 4 = R) : runeF s = if fits 65536 R = true then (R, 4) else (0, 0) := by
  have h1 := hc 1 (by omega) (by omega)
  have h2 := hc 2 (by omega) (by omega)
  have h3 := hc 3 (by omega) (by omega)
  rw [acc_4] at hR
  unfold runeF
  exact rune_four _ _ _ _ _ h hn h1 h2 h3 R hR.symm
theorem runeF_2_not {s : ByteArray} (h : 194 ≤ (s.get! 0).toNat ∧ (s.get! 0).toNat ≤ 223) (k : Nat) (h1 : 1 ≤ k) (hk : k < 2) (hc : ¬ (128 ≤ (s.get! k).toNat ∧ (s.get! k).toNat ≤ 191)) : runeF s = (0, 0) := by
  obtain rfl : k = 1 := by omega
  exact rune_two_not _ _ _ _ _ h (UInt8.toNat_lt _) hc
theorem runeF_3_not {s : ByteArray} (h : 224 ≤ (s.get! 0).toNat ∧ (s.get! 0).toNat ≤ 239) (k : Nat) (h1 : 1 ≤ k) (hk : k < 3) (hc : ¬ (128 ≤ (s.get! k).toNat ∧ (s.get! k).toNat ≤ 191)) : runeF s = (0, 0) := by
  refine rune_three_not _ _ _ _ _ h (UInt8.toNat_lt _) (UInt8.toNat_lt _) ?_
  rcases (show k = 1 ∨ k = 2 by omega) with rfl | rfl
  · exact .inl hc
  · exact .inr hc
theorem runeF_4_not {s : ByteArray} (h : 240 ≤ (s.get! 0).toNat ∧ (s.get! 0).toNat ≤ 244) (k : Nat) (h1 : 1 ≤ k) (hk : k < 4) (hc : ¬ (128 ≤ (s.get! k).toNat ∧ (s.get! k).toNat ≤ 191)) : runeF s = (0, 0) := by
  refine rune_four_not _ _ _ _ _ h (UInt8.toNat_lt _) (UInt8.toNat_lt _) (UInt8.toNat_lt _) ?_
  rcases (show k = 1 ∨ k = 2 ∨ k = 3 by omega) with rfl | rfl | rfl
  · exact .inl hc
  · exact .inr (.inl hc)
  · exact .inr (.inr hc)
/-- .. of what stands from place i on. -/
def runeAt (s : ByteArray) (i : Nat) : Nat × Nat := runeF (s.extract i s.size)
/-- All runes from place i on, if each is right. -/
def runesFrom (s : ByteArray) : Nat → Nat → Option (List Nat)
  | 0, _ => some []
  | f + 1, i => if s.size ≤ i then some [] else if (runeAt s i).2 = 0 then none else (runesFrom s f (i + (runeAt s i).2)).map ((runeAt s i).1 :: ·)
def runesOf (s : ByteArray) (i : Nat) : Option (List Nat) := runesFrom s (s.size - i) i
theorem size_from (s : ByteArray) (i : Nat) : (s.extract i s.size).size = s.size - i := by
  rw [ByteArray.size_extract]; omega
theorem decode_width (n b0 b1 b2 b3 : Nat) (hn : n ≠ 0) : 1 ≤ (decodeN n b0 b1 b2 b3).2 ∧ (decodeN n b0 b1 b2 b3).2 ≤ n ∧ (decodeN n b0 b1 b2 b3).2 ≤ 4 ∧ (decodeN n b0 b1 b2 b3).1 ≤ 1114111 := by
  unfold decodeN
  repeat' split
  all_goals (simp only; omega)
theorem runeF_width (s : ByteArray) : (runeF s).2 ≤ s.size ∧ (runeF s).2 ≤ 4 ∧ (runeF s).1 ≤ 1114111 := by
  unfold runeF runeN
  split
  · simp
  · split
    · simp
    · rename_i h _
      have := decode_width s.size (s.get! 0).toNat (s.get! 1).toNat (s.get! 2).toNat (s.get! 3).toNat h
      omega
theorem runeAt_width (s : ByteArray) (i : Nat) : (runeAt s i).2 ≤ s.size - i ∧ (runeAt s i).1 ≤ 1114111 := by
  have := runeF_width (s.extract i s.size)
  rw [size_from] at this
  exact ⟨this.1, this.2.2⟩
theorem runesFrom_fuel (s : ByteArray) : ∀ (f g i : Nat), s.size - i ≤ f → s.size - i ≤ g → runesFrom s f i = runesFrom s g i
  | 0, 0, _, _, _ => rfl
  | 0, g + 1, i, h, _ => by rw [runesFrom, runesFrom, if_pos (by omega)]
  | f + 1, 0, i, _, h => by rw [runesFrom, runesFrom, if_pos (by omega)]
  | f + 1, g + 1, i, h1, h2 => by
    rw [runesFrom, runesFrom]
    by_cases h0 : s.size ≤ i
    · rw [if_pos h0, if_pos h0]
    · rw [if_neg h0, if_neg h0]
      by_cases hk : (runeAt s i).2 = 0
      · rw [if_pos hk, if_pos hk]
      · rw [if_neg hk, if_neg hk, runesFrom_fuel s f g _ (by omega) (by omega)]
theorem runesOf_end {s : ByteArray} {i : Nat} (h : s.size ≤ i) : runesOf s i = some [] := by
  unfold runesOf
  rw [show s.size - i = 0 by omega]
  rfl
theorem runesOf_none {s : ByteArray} {i : Nat} (h : i < s.size) (hk : (runeAt s i).2 = 0) : runesOf s i = none := by
  unfold runesOf
  obtain ⟨f, hf⟩ : ∃ f, s.size - i = f + 1 := ⟨s.size - i - 1, by omega⟩
  rw [hf, runesFrom, if_neg (by omega), if_pos hk]
theorem runesOf_step {s : ByteArray} {i : Nat} (h : i < s.size) (hk : (runeAt s i).2 ≠ 0) : runesOf s i = (runesOf s (i + (runeAt s i).2)).map ((runeAt s i).1 :: ·) := by
  unfold runesOf
  obtain ⟨f, hf⟩ : ∃ f, s.size - i = f + 1 := ⟨s.size - i - 1, by omega⟩
  conv => lhs; rw [hf, runesFrom, if_neg (by omega), if_neg hk]
  rw [runesFrom_fuel s f (s.size - (i + (runeAt s i).2)) _ (by omega) (Nat.le_refl _)]
/-- So far the runes up to place i have given rs. -/
def RunesAt (s : ByteArray) (rs : List Nat) (i : Nat) : Prop := i ≤ s.size ∧ rs.length ≤ i ∧ (∀ r ∈ rs, r ≤ 1114111) ∧ runesOf s 0 = (runesOf s i).map (rs ++ ·)
theorem runesAt_zero (s : ByteArray) : RunesAt s [] 0 := ⟨Nat.zero_le _, Nat.le_refl _, fun r h => by simp at h, by simp⟩
theorem runesAt_end {s : ByteArray} {rs : List Nat} {i : Nat} (h : RunesAt s rs i) (hi : i = s.size) : runesOf s 0 = some rs := by
  rw [h.2.2.2, runesOf_end (by omega)]
  simp
theorem runesAt_bad {s : ByteArray} {rs : List Nat} {i : Nat} (h : RunesAt s rs i) (hi : i < s.size) (hk : (runeAt s i).2 = 0) : runesOf s 0 = none := by
  rw [h.2.2.2, runesOf_none hi hk]
  rfl
theorem runesAt_step {s : ByteArray} {rs : List Nat} {i : Nat} (h : RunesAt s rs i) (hi : i < s.size) (hk : (runeAt s i).2 ≠ 0) : RunesAt s (rs ++ [(runeAt s i).1]) (i + (runeAt s i).2) := by
  have hw := runeAt_width s i
  refine ⟨by omega, by rw [List.length_append, List.length_singleton]; have := h.2.1; omega, ?_, ?_⟩
  · intro r hr
    rcases List.mem_append.1 hr with h1 | h1
    · exact h.2.2.1 r h1
    · rw [List.mem_singleton.1 h1]; exact hw.2
  · rw [h.2.2.2, runesOf_step hi hk, Option.map_map]
    congr 1
    funext x
    simp
end Go.Proofs.YtnpbokbfkdncmaaGreat.Ru

/-
  Plain facts on spans and their bytes. No program is named here.
-/
namespace Go.Proofs.YtnpbokbfkdncmaaGreat
open Ru

/-- A rune that no name may have. -/
def badRune (r : Nat) : Bool := decide (r < 32) || (decide (127 ≤ r) && decide (r ≤ 159))
/-- A name. -/
def nameOk (s : ByteArray) : Bool := decide (1 ≤ s.size) && decide (s.size ≤ 32) && (match runesOf s 0 with | none => false | some rs => rs.all fun r => !badRune r)
def nameKind (s : ByteArray) : Int := if nameOk s = true then 0 else 5
theorem name_none {s : ByteArray} (h : runesOf s 0 = none) : nameOk s = false := by unfold nameOk; rw [h]; simp
theorem name_size {s : ByteArray} (h : s.size < 1 ∨ 32 < s.size) : nameOk s = false := by
  unfold nameOk
  rcases h with h | h
  · rw [decide_eq_false (by omega)]; rfl
  · rw [decide_eq_false (show ¬ s.size ≤ 32 by omega)]; simp
theorem name_sizes {s : ByteArray} (h : nameOk s = true) : 1 ≤ s.size ∧ s.size ≤ 32 := by
  by_cases h1 : s.size < 1 ∨ 32 < s.size
  · rw [name_size h1] at h; cases h
  · omega
theorem name_bad {s : ByteArray} {rs : List Nat} (h : runesOf s 0 = some rs) {k : Nat} (hk : k < rs.length) (hb : badRune rs[k] = true) : nameOk s = false := by
  unfold nameOk
  rw [h]
  have : (rs.all fun r => !badRune r) = false := by
    rw [List.all_eq_false]
    exact ⟨rs[k], List.getElem_mem hk, by rw [hb]; decide⟩
  simp only [this, Bool.and_false]
theorem name_good {s : ByteArray} {rs : List Nat} (h : runesOf s 0 = some rs) (h1 : 1 ≤ s.size) (h2 : s.size ≤ 32) (hg : ∀ k (hk : k < rs.length), badRune rs[k] = false) : nameOk s = true := by
  unfold nameOk
  rw [h, decide_eq_true h1, decide_eq_true h2]
  have : (rs.all fun r => !badRune r) = true := by
    rw [List.all_eq_true]
    intro r hr
    obtain ⟨k, hk, rfl⟩ := List.getElem_of_mem hr
    rw [hg k hk]; rfl
  simp only [this, Bool.and_true]
theorem kind_bad {s : ByteArray} (h : nameOk s = false) : nameKind s = 5 := by unfold nameKind; rw [h]; rfl
theorem kind_good {s : ByteArray} (h : nameOk s = true) : nameKind s = 0 := by unfold nameKind; rw [h]; rfl

/-- A span: its numbers, its texts, whether it failed. -/
structure SpanD where
  trace : Nat
  id : Nat
  parent : Nat
  start : Nat
  len : Nat
  service : ByteArray
  name : ByteArray
  fail : Bool
/-- Its numbers are those of 64 bits. -/
structure SpanD.Wf (s : SpanD) : Prop where
  trace : s.trace < 18446744073709551616
  id : s.id < 18446744073709551616
  parent : s.parent < 18446744073709551616
  start : s.start < 18446744073709551616
  len : s.len < 18446744073709551616
  service : s.service.size ≤ 9223372036854775807
  name : s.name.size ≤ 9223372036854775807
def SpanD.zero : SpanD := ⟨0, 0, 0, 0, 0, ⟨#[]⟩, ⟨#[]⟩, false⟩

def argBad (s : SpanD) : Bool := decide (s.trace = 0) || decide (s.id = 0) || decide (1099511627776 < s.start) || decide (1099511627776 < s.len)
/-- What stands against a span. -/
def rightF (s : SpanD) : Int := if argBad s = true then 1 else if nameOk s.service = true ∧ nameOk s.name = true then 0 else 5
theorem right_arg {s : SpanD} (h : argBad s = true) : rightF s = 1 := by unfold rightF; rw [if_pos h]
theorem right_name {s : SpanD} (h : argBad s = false) (hn : nameOk s.service = false ∨ nameOk s.name = false) : rightF s = 5 := by
  unfold rightF
  rw [if_neg (by rw [h]; decide), if_neg]
  rintro ⟨h1, h2⟩
  rcases hn with hn | hn
  · rw [hn] at h1; cases h1
  · rw [hn] at h2; cases h2
theorem right_ok {s : SpanD} (h : argBad s = false) (h1 : nameOk s.service = true) (h2 : nameOk s.name = true) : rightF s = 0 := by
  unfold rightF
  rw [if_neg (by rw [h]; decide), if_pos ⟨h1, h2⟩]
theorem right_zero {s : SpanD} (h : rightF s = 0) : argBad s = false ∧ nameOk s.service = true ∧ nameOk s.name = true := by
  cases ha : argBad s
  · by_cases hn : nameOk s.service = true ∧ nameOk s.name = true
    · exact ⟨rfl, hn⟩
    · unfold rightF at h
      rw [if_neg (by rw [ha]; decide), if_neg hn] at h
      cases h
  · rw [right_arg ha] at h; cases h
theorem arg_yes {s : SpanD} (h : argBad s = true) : s.trace = 0 ∨ (s.trace ≠ 0 ∧ s.id = 0) ∨ (s.trace ≠ 0 ∧ s.id ≠ 0 ∧ 1099511627776 < s.start) ∨ (s.trace ≠ 0 ∧ s.id ≠ 0 ∧ s.start ≤ 1099511627776 ∧ 1099511627776 < s.len) := by
  unfold argBad at h
  simp at h
  omega
theorem arg_no {s : SpanD} (h : argBad s = false) : s.trace ≠ 0 ∧ s.id ≠ 0 ∧ s.start ≤ 1099511627776 ∧ s.len ≤ 1099511627776 := by
  unfold argBad at h
  simp at h
  omega

/-! ### numbers as bytes, the highest first -/
def byteOf (n i : Nat) : UInt8 := UInt8.ofNat (n / 256 ^ i % 256)
theorem byteOf_toNat (n i : Nat) : (byteOf n i).toNat = n / 256 ^ i % 256 := by
  unfold byteOf
  rw [UInt8.toNat_ofNat']
  omega
/-- The first k of the eight bytes. -/
def eightK (n : Nat) : Nat → List UInt8
  | 0 => []
  | k + 1 => eightK n k ++ [byteOf n (7 - k)]
def eight (n : Nat) : List UInt8 := eightK n 8
theorem eightK_length (n k : Nat) : (eightK n k).length = k := by
  induction k with
  | zero => rfl
  | succ k ih => rw [eightK, List.length_append, ih]; rfl
theorem eight_length (n : Nat) : (eight n).length = 8 := eightK_length n 8
/-- The number of the first k bytes. -/
def numB (l : List UInt8) : Nat → Nat
  | 0 => 0
  | k + 1 => numB l k * 256 + (l.getD k 0).toNat
theorem numB_lt (l : List UInt8) (k : Nat) : numB l k < 256 ^ k := by
  induction k with
  | zero => simp [numB]
  | succ k ih =>
    have := UInt8.toNat_lt (l.getD k 0)
    rw [numB, Nat.pow_succ]
    omega
theorem numB_append (a b : List UInt8) (k : Nat) (h : k ≤ a.length) : numB (a ++ b) k = numB a k := by
  induction k with
  | zero => rfl
  | succ k ih =>
    rw [numB, numB, ih (by omega)]
    congr 2
    simp only [List.getD_eq_getElem?_getD]
    rw [List.getElem?_append_left (by omega)]
theorem numB_eightK (n : Nat) : ∀ k, k ≤ 8 → numB (eightK n k) k = n / 256 ^ (8 - k) % 256 ^ k := by
  intro k
  induction k with
  | zero => intro _; simp [numB, Nat.mod_one]
  | succ k ih =>
    intro hk
    have e : (eightK n (k + 1)).getD k 0 = byteOf n (7 - k) := by
      rw [eightK, List.getD_eq_getElem?_getD, List.getElem?_append_right (by rw [eightK_length]; omega), eightK_length, Nat.sub_self]
      rfl
    rw [numB, e, byteOf_toNat, eightK, numB_append _ _ _ (by rw [eightK_length]; omega), ih (by omega)]
    have e2 : (256 : Nat) ^ (8 - k) = 256 ^ (7 - k) * 256 := by rw [show 8 - k = 7 - k + 1 by omega, Nat.pow_succ]
    rw [e2, show 8 - (k + 1) = 7 - k by omega, ← Nat.div_div_eq_div_mul]
    generalize n / 256 ^ (7 - k) = m
    rw [Nat.pow_succ]
    have h1 := Nat.mod_mul_left_div_self m (256 ^ k) 256
    have h2 := Nat.mod_mod_of_dvd m (show 256 ∣ 256 ^ k * 256 from ⟨256 ^ k, Nat.mul_comm _ _⟩)
    rw [Nat.mul_comm (256 ^ k) 256] at *
    have h3 : m % (256 * 256 ^ k) / 256 = m / 256 % 256 ^ k := by rw [Nat.mod_mul_right_div_self]
    omega
theorem numB_eight (n : Nat) (h : n < 18446744073709551616) (t : List UInt8) : numB (eight n ++ t) 8 = n := by
  rw [numB_append _ _ _ (by rw [eight_length]; omega)]
  unfold eight
  rw [numB_eightK n 8 (by omega)]
  rw [show 8 - 8 = 0 from rfl, Nat.pow_zero, Nat.div_one]
  exact Nat.mod_eq_of_lt (by rw [show (256 : Nat) ^ 8 = 18446744073709551616 from rfl]; exact h)
end Go.Proofs.YtnpbokbfkdncmaaGreat

/-
  Texts: their bytes, and appending them to a row of bytes of the call's own.
-/
namespace Go.Proofs.YtnpbokbfkdncmaaGreat
open Go.RowKit

/-- A text's bytes. -/
def strB (s : ByteArray) : List UInt8 := s.data.toList
theorem strB_length (s : ByteArray) : (strB s).length = s.size := by unfold strB; rw [Array.length_toList]; rfl
theorem strB_cells (s : ByteArray) : Lib.strCells s = bytes (strB s) := rfl

/-- append(b, s...), s a text. -/
theorem wpList_string {w : World} {ops : Array Oper} {rest : List Oper} {o : Oper} {a : Act} {Q : Exit → Act → World → Prop} (hgd : Region.wanted o (yielded ops a.tmps) = true) (v x : Operand)
    (ho : o.op = .call { callee := .builtin .append, args := #[v, x], argTypes := #[33, 9] })
    (B : Nat) (A0 : Option Addr) (n0 c0 : Nat) (l0 : List UInt8) (hs : a.eval v = .slice A0 n0 c0) (hown : Own B w A0 n0 c0 l0)
    (s : ByteArray) (hx : a.eval x = .string s)
    (N : Nat) (ys : List UInt8) (hN : n0 + s.size = N) (hys : l0 ++ strB s = ys) (hroom : N ≤ 140737488355328) (hB : B ≤ w.heap.size)
    (h : ∀ A' c' w', Own B w' A' N c' ys → Below B w w' → wpList Tryz.prog ops Q rest (a.put o.dst (.slice A' N c')) w') :
    wpList Tryz.prog ops Q (o :: rest) a w := by
  subst hys hN
  obtain ⟨i0, hi0, hz0, hz1, hz2⟩ := info_parts info_u8
  obtain ⟨v', w', hrun, h2, h3, _⟩ := Lib.run_append_own_string (P := Tryz.prog) w B 33 9 o.type 5 i0 Tryz.underlying33 Tryz.underlying9 hi0 hz0 hz1 hz2 (.slice A0 n0 c0) n0 (bytes l0) hown s (by unfold maxLen; omega) hroom hB
  obtain ⟨A', c', rfl, _⟩ := own_form h2
  rw [strB_cells, ← bytes_append] at h2
  refine wpList_step fun K hK => ?_
  rw [if_pos hgd]
  unfold Oper.wp execOp
  simp only [ho, resolve, invoke, builtin, Sem.run_bind, Sem.run_pure, Result.andThen_ok, List.map_toArray, List.map_cons, List.map_nil, hs, hx, hrun]
  exact hK _ _ (h A' c' w' h2 ((Below.refl B w).grown h3 hB (own_from hown)))
/-- The text of bytes. -/
def strOf (l : List UInt8) : ByteArray := ⟨l.toArray⟩
theorem strOf_size (l : List UInt8) : (strOf l).size = l.length := rfl
theorem strB_strOf (l : List UInt8) : strB (strOf l) = l := rfl
theorem strOf_strB (s : ByteArray) : strOf (strB s) = s := by
  apply ByteArray.ext
  rfl
/-- string(b) -/
theorem sl_string {w : World} {A : Option Addr} {n c : Nat} {l : List UInt8} (h : Sl w A n c l) :
    (convert 33 9 (.slice A n c)).run Tryz.prog w = .ok (.string (strOf l)) w := by
  rcases l with _ | ⟨x, l⟩
  · have hn : n = 0 := h.len.symm
    subst hn
    rcases A with _ | ⟨b, off, spot⟩
    · rw [run_convert_bytes_nil w 33 5 Tryz.underlying33 Tryz.underlying5 0 c 9 Tryz.underlying9]
      rfl
    · rw [run_convert_bytes_string w 33 9 5 _ 0 c Tryz.underlying33 Tryz.underlying5 Tryz.underlying9,
        run_bytesToString w _ 0 c [] (by simp [loadCells, loadCellsFrom])]
      rfl
  · obtain ⟨b, off, rfl, hc⟩ := h.holds (by simp [bytes])
    have hs := Lib.run_convert_whole (P := Tryz.prog) w 33 5 9 Tryz.underlying33 Tryz.underlying5 Tryz.underlying9 b off (strOf (x :: l)) (fun i hi => hc i _ (bytes_get hi)) c
    rw [strOf_size, h.len] at hs
    exact hs
end Go.Proofs.YtnpbokbfkdncmaaGreat

/-
  A block of cells that is known whole.
-/
namespace Go.Proofs.YtnpbokbfkdncmaaGreat
open Go.RowKit

def Whole (w : World) (g : Nat) (t : TypeId) (cs : Array Value) : Prop := w.heap[g]? = some (.cells cs t (0, 0))
theorem Whole.cell {w : World} {g : Nat} {t : TypeId} {cs : Array Value} (h : Whole w g t cs) (i : Nat) (v : Value) (hv : cs[i]? = some v) : w.cell? ⟨g, i, none⟩ = some v := by
  unfold Whole at h
  rw [World.cell?, h]
  simpa using hv
theorem Whole.free {w : World} {g : Nat} {t : TypeId} {cs : Array Value} (h : Whole w g t cs) (i : Nat) : w.frozen? ⟨g, i, none⟩ = false := by
  unfold Whole at h
  simp [World.frozen?, h]
theorem Whole.below {w w' : World} {g B : Nat} {t : TypeId} {cs : Array Value} (h : Whole w g t cs) (hb : Below B w w') (hg : g < B) : Whole w' g t cs := (hb.block g hg).trans h
theorem Whole.lt {w : World} {g : Nat} {t : TypeId} {cs : Array Value} (h : Whole w g t cs) : g < w.heap.size := (Array.getElem?_eq_some_iff.1 h).1
theorem Whole.store {w : World} {g : Nat} {t : TypeId} {cs : Array Value} (h : Whole w g t cs) (i : Nat) (v : Value) : Whole (w.setCell ⟨g, i, none⟩ v) g t (cs.setIfInBounds i v) := by
  unfold Whole at h ⊢
  simp [World.setCell, Array.getElem?_modify, h]
theorem Whole.far {w : World} {g : Nat} {t : TypeId} {cs : Array Value} (h : Whole w g t cs) {p : Addr} (hp : g ≠ p.block) (v : Value) : Whole (w.setCell p v) g t cs := (Below.heap_setCell w p v g hp).trans h
theorem whole_new (w : World) (t : TypeId) (cs : Array Value) : Whole (w.alloc (.cells cs t)) w.heap.size t cs := heap_alloc_new w _
theorem whole_at (w : World) (g : Nat) (t : TypeId) (cs : Array Value) (h : g = w.heap.size) : Whole (w.alloc (.cells cs t)) g t cs := by
  subst h
  exact whole_new w t cs
theorem Whole.alloc {w : World} {g : Nat} {t : TypeId} {cs : Array Value} (h : Whole w g t cs) (o : Obj) : Whole (w.alloc o) g t cs := (Below.heap_alloc w o g h.lt).trans h
theorem Whole.drewN {w : World} {g : Nat} {t : TypeId} {cs : Array Value} (h : Whole w g t cs) (n : Nat) : Whole (w.drewN n) g t cs := h
theorem Whole.drew {w : World} {g : Nat} {t : TypeId} {cs : Array Value} (h : Whole w g t cs) : Whole w.drew g t cs := h
/-- Four stores, one behind the other. -/
abbrev put4 (W : World) (g : Nat) (a b c d : Value) : World := (((W.setCell ⟨g, 0, none⟩ a).setCell ⟨g, 1, none⟩ b).setCell ⟨g, 2, none⟩ c).setCell ⟨g, 3, none⟩ d
theorem whole_put4 {W : World} {g : Nat} {T : TypeId} {a b c d : Value} (h : Whole W g T #[a, b, c, d]) (a' b' c' d' : Value) : Whole (put4 W g a' b' c' d') g T #[a', b', c', d'] :=
  (((h.store 0 a').store 1 b').store 2 c').store 3 d'
theorem below_put4 {B : Nat} {w W : World} {g : Nat} (h : Below B w W) (hg : B ≤ g) (a b c d : Value) : Below B w (put4 W g a b c d) :=
  (((h.setCell (p := ⟨g, 0, none⟩) hg a).setCell (p := ⟨g, 1, none⟩) hg b).setCell (p := ⟨g, 2, none⟩) hg c).setCell (p := ⟨g, 3, none⟩) hg d
end Go.Proofs.YtnpbokbfkdncmaaGreat

/-
  Plain facts on a register of 32 bits that is shifted and fed (CRC-32): no program is named here.
  steps n r: the register after n places; upd: one byte added, eight places; regs: all bytes; more: a sum of bytes behind a sum.
-/
namespace Go.Proofs.YtnpbokbfkdncmaaGreat.Crc

def poly : BitVec 32 := 0xedb88320#32

def step (r : BitVec 32) : BitVec 32 := if r.getLsbD 0 = true then (r >>> 1) ^^^ poly else r >>> 1

def steps : Nat → BitVec 32 → BitVec 32
  | 0, r => r
  | n + 1, r => step (steps n r)

theorem shr_xor (a b : BitVec 32) : (a ^^^ b) >>> 1 = (a >>> 1) ^^^ (b >>> 1) := by
  apply BitVec.eq_of_getLsbD_eq
  intro i hi
  simp

theorem xor_swap (a b c d : BitVec 32) : (a ^^^ b) ^^^ (c ^^^ d) = (a ^^^ c) ^^^ (b ^^^ d) := by ac_rfl

theorem step_xor (a b : BitVec 32) : step (a ^^^ b) = step a ^^^ step b := by
  unfold step
  rw [shr_xor, BitVec.getLsbD_xor]
  cases a.getLsbD 0 <;> cases b.getLsbD 0 <;> simp
  · ac_rfl
  · ac_rfl
  · rw [xor_swap]; simp

theorem step_zero : step 0#32 = 0#32 := by decide

theorem steps_zero (n : Nat) : steps n 0#32 = 0#32 := by
  induction n with
  | zero => rfl
  | succ n ih => rw [steps, ih, step_zero]

theorem steps_xor (n : Nat) (a b : BitVec 32) : steps n (a ^^^ b) = steps n a ^^^ steps n b := by
  induction n with
  | zero => rfl
  | succ n ih => rw [steps, steps, steps, ih, step_xor]

theorem steps_add (m n : Nat) (r : BitVec 32) : steps (m + n) r = steps m (steps n r) := by
  induction m with
  | zero => rw [Nat.zero_add]; rfl
  | succ m ih => rw [Nat.succ_add, steps, steps, ih]

theorem steps_succ' (n : Nat) (r : BitVec 32) : steps (n + 1) r = steps n (step r) := by
  rw [steps_add n 1]; rfl

theorem poly_high : poly.getLsbD 31 = true := by decide

/-- A register that falls to nothing was nothing: the fallen bit can be read off the highest place. -/
theorem step_eq_zero (a : BitVec 32) (h : step a = 0#32) : a = 0#32 := by
  unfold step at h
  by_cases h0 : a.getLsbD 0 = true
  · rw [if_pos h0] at h
    have h1 : ((a >>> 1) ^^^ poly).getLsbD 31 = false := by rw [h]; simp
    rw [BitVec.getLsbD_xor, poly_high, BitVec.getLsbD_ushiftRight] at h1
    simp at h1
  · rw [if_neg h0] at h
    apply BitVec.eq_of_getLsbD_eq
    intro i hi
    cases i with
    | zero => simpa using h0
    | succ i =>
      have h1 : (a >>> 1).getLsbD i = false := by rw [h]; simp
      rw [BitVec.getLsbD_ushiftRight, Nat.add_comm] at h1
      rw [h1]; simp

theorem steps_eq_zero (n : Nat) (a : BitVec 32) (h : steps n a = 0#32) : a = 0#32 := by
  induction n with
  | zero => exact h
  | succ n ih => exact ih (step_eq_zero _ h)

/-! ### bytes -/
/-- All bits turned (under a name of its own: the walk would write '~~~' out as a difference). -/
def inv (x : BitVec 32) : BitVec 32 := ~~~x

def wide (c : UInt8) : BitVec 32 := c.toBitVec.setWidth 32

theorem wide_toNat (c : UInt8) : (wide c).toNat = c.toNat := by
  unfold wide
  rw [BitVec.toNat_setWidth]
  have : c.toNat < 256 := UInt8.toNat_lt c
  show c.toNat % 2 ^ 32 = c.toNat
  omega

def upd (r : BitVec 32) (c : UInt8) : BitVec 32 := steps 8 (r ^^^ wide c)
def regs (r : BitVec 32) (l : List UInt8) : BitVec 32 := l.foldl upd r
def more (s : BitVec 32) (l : List UInt8) : BitVec 32 := ~~~ (regs (~~~ s) l)

theorem regs_nil (r : BitVec 32) : regs r [] = r := rfl
theorem regs_cons (r : BitVec 32) (c : UInt8) (l : List UInt8) : regs r (c :: l) = regs (upd r c) l := rfl
theorem regs_append (r : BitVec 32) (l m : List UInt8) : regs r (l ++ m) = regs (regs r l) m := List.foldl_append
theorem regs_snoc (r : BitVec 32) (l : List UInt8) (c : UInt8) : regs r (l ++ [c]) = upd (regs r l) c := by rw [regs_append]; rfl
theorem more_nil (s : BitVec 32) : more s [] = s := by unfold more; rw [regs_nil]; simp
theorem not_more (s : BitVec 32) (l : List UInt8) : ~~~ (more s l) = regs (~~~ s) l := by unfold more; simp
theorem more_append (s : BitVec 32) (l m : List UInt8) : more s (l ++ m) = more (more s l) m := by
  unfold more
  rw [regs_append]
  simp

/-- Two registers that are fed with the same bytes: what parts them goes its own way. -/
theorem upd_xor (r z : BitVec 32) (c : UInt8) : upd (r ^^^ z) c = upd r c ^^^ steps 8 z := by
  unfold upd
  rw [← steps_xor]
  congr 1
  ac_rfl

theorem regs_xor (l : List UInt8) : ∀ r z : BitVec 32, regs (r ^^^ z) l = regs r l ^^^ steps (8 * l.length) z := by
  induction l with
  | nil => intro r z; simp [regs_nil, steps]
  | cons c l ih =>
    intro r z
    rw [regs_cons, upd_xor, ih, regs_cons, List.length_cons, ← steps_add]
    congr 2

theorem not_xor (a b : BitVec 32) : ~~~ (a ^^^ b) = ~~~ a ^^^ b := by
  apply BitVec.eq_of_getLsbD_eq
  intro i hi
  simp [hi]

theorem more_join (s : BitVec 32) (l : List UInt8) : more s l = more 0#32 l ^^^ steps (8 * l.length) s := by
  unfold more
  have h : ~~~ s = ~~~ (0#32) ^^^ s := by rw [← not_xor, BitVec.zero_xor]
  rw [h, regs_xor, not_xor]

/-! ### a word fed byte by byte -/
theorem shr_shr (x : BitVec 32) (m n : Nat) : x >>> m >>> n = x >>> (m + n) := by
  apply BitVec.eq_of_getLsbD_eq
  intro i hi
  simp only [BitVec.getLsbD_ushiftRight, Nat.add_assoc]
theorem steps_shift (n : Nat) (z : BitVec 32) (h : ∀ i, i < n → z.getLsbD i = false) : steps n z = z >>> n := by
  induction n generalizing z with
  | zero => rw [BitVec.ushiftRight_zero]; rfl
  | succ n ih =>
    rw [steps_succ', show step z = z >>> 1 from by unfold step; rw [if_neg (by rw [h 0 (by omega)]; decide)], ih]
    · rw [shr_shr, Nat.add_comm]
    · intro i hi
      rw [BitVec.getLsbD_ushiftRight, Nat.add_comm]
      exact h _ (by omega)
def low (x : BitVec 32) : UInt8 := UInt8.ofNat (x.toNat % 256)
theorem low_toNat (x : BitVec 32) : (low x).toNat = x.toNat % 256 := by
  unfold low
  rw [UInt8.toNat_ofNat']
  omega
theorem wide_low (x : BitVec 32) : wide (low x) = x ^^^ ((x >>> 8) <<< 8) := by
  apply BitVec.eq_of_getLsbD_eq
  intro i hi
  have h1 : (wide (low x)).getLsbD i = (x.toNat % 256).testBit i := by
    unfold BitVec.getLsbD
    rw [wide_toNat, low_toNat]
  rw [h1, show (256 : Nat) = 2 ^ 8 from rfl, Nat.testBit_mod_two_pow]
  rw [BitVec.getLsbD_xor, BitVec.getLsbD_shiftLeft, BitVec.getLsbD_ushiftRight]
  by_cases h : i < 8
  · simp [h, BitVec.getLsbD]
  · have : 8 + (i - 8) = i := by omega
    simp [h, hi, this]
theorem steps_feed (k : Nat) (r x : BitVec 32) : steps (k + 8) (r ^^^ x) = steps k (upd r (low x) ^^^ (x >>> 8)) := by
  have h1 : x = wide (low x) ^^^ ((x >>> 8) <<< 8) := by
    rw [wide_low, BitVec.xor_assoc, BitVec.xor_self, BitVec.xor_zero]
  have h2 : steps 8 ((x >>> 8) <<< 8) = x >>> 8 := by
    rw [steps_shift 8 _ (by intro i hi; simp [BitVec.getLsbD_shiftLeft, hi])]
    apply BitVec.eq_of_getLsbD_eq
    intro i hi
    simp only [BitVec.getLsbD_ushiftRight, BitVec.getLsbD_shiftLeft]
    by_cases h : 8 + i < 32
    · simp [h]
    · simp [h, BitVec.getLsbD_of_ge x (8 + i) (by omega)]
  rw [steps_add]
  congr 1
  unfold upd
  rw [← h2, ← steps_xor, BitVec.xor_assoc, ← h1]
def word (x : BitVec 32) : List UInt8 := [low x, low (x >>> 8), low (x >>> 8 >>> 8), low (x >>> 8 >>> 8 >>> 8)]
theorem regs_word (r x : BitVec 32) : regs r (word x) = steps 32 (r ^^^ x) := by
  have h : x >>> 8 >>> 8 >>> 8 >>> 8 = 0#32 := by
    rw [shr_shr, shr_shr, shr_shr]
    exact BitVec.ushiftRight_eq_zero (by omega)
  have h1 := steps_feed 24 r x
  have h2 := steps_feed 16 (upd r (low x)) (x >>> 8)
  have h3 := steps_feed 8 (upd (upd r (low x)) (low (x >>> 8))) (x >>> 8 >>> 8)
  have h4 := steps_feed 0 (upd (upd (upd r (low x)) (low (x >>> 8))) (low (x >>> 8 >>> 8))) (x >>> 8 >>> 8 >>> 8)
  rw [h, BitVec.xor_zero] at h4
  rw [h1, h2, h3, h4]
  rfl
/-- Whatever is summed: with its own sum behind it it has one and the same sum. -/
theorem more_rest (l : List UInt8) : more 0#32 (l ++ word (more 0#32 l)) = 0x2144df1c#32 := by
  unfold more
  rw [regs_append, regs_word]
  generalize regs (~~~0#32) l = r
  have h : r ^^^ ~~~r = BitVec.allOnes 32 := by
    rw [← BitVec.allOnes_xor, ← BitVec.xor_assoc, BitVec.xor_comm r, BitVec.xor_assoc, BitVec.xor_self, BitVec.xor_zero]
  rw [h]
  decide +kernel

/-! ### three texts of one length together -/
theorem wide_xor (c d : UInt8) : wide (c ^^^ d) = wide c ^^^ wide d := by
  apply BitVec.eq_of_toNat_eq
  rw [wide_toNat, BitVec.toNat_xor, wide_toNat, wide_toNat]
  rfl
theorem upd_both (r z : BitVec 32) (c d : UInt8) : upd (r ^^^ z) (c ^^^ d) = upd r c ^^^ upd z d := by
  unfold upd
  rw [wide_xor, xor_swap, steps_xor]
theorem regs_both : ∀ (a b : List UInt8), a.length = b.length → ∀ r z : BitVec 32, regs (r ^^^ z) (List.zipWith (· ^^^ ·) a b) = regs r a ^^^ regs z b
  | [], [], _, r, z => rfl
  | c :: a, d :: b, h, r, z => by
    rw [List.zipWith_cons_cons, regs_cons, regs_cons, regs_cons, upd_both, regs_both a b (by simpa using h)]
  | [], _ :: _, h, _, _ => by simp at h
  | _ :: _, [], h, _, _ => by simp at h
theorem zip_zero : ∀ a : List UInt8, List.zipWith (· ^^^ ·) a (List.replicate a.length (0 : UInt8)) = a
  | [] => rfl
  | c :: a => by
    rw [List.length_cons, List.replicate_succ, List.zipWith_cons_cons, zip_zero a]
    simp
theorem more_both (a b : List UInt8) (h : a.length = b.length) :
    more 0#32 a ^^^ more 0#32 b ^^^ more 0#32 (List.replicate a.length 0) = more 0#32 (List.zipWith (· ^^^ ·) a b) := by
  unfold more
  generalize hr : ~~~(0#32) = r
  have h1 := regs_both a b h r r
  have h2 := regs_both (List.zipWith (· ^^^ ·) a b) (List.replicate a.length 0) (by simp [List.length_zipWith, ← h]) (r ^^^ r) r
  have hl : (List.zipWith (· ^^^ ·) a b).length = a.length := by simp [List.length_zipWith, ← h]
  have h3 := zip_zero (List.zipWith (· ^^^ ·) a b)
  rw [hl] at h3
  rw [h3, h1, BitVec.xor_self, BitVec.zero_xor] at h2
  rw [h2, not_xor]
  generalize regs r a = x
  generalize regs r b = y
  generalize regs r (List.replicate a.length 0) = z
  rw [show ~~~y = y ^^^ ~~~(0#32) from by rw [BitVec.xor_comm, ← not_xor, BitVec.zero_xor], show ~~~z = z ^^^ ~~~(0#32) from by rw [BitVec.xor_comm, ← not_xor, BitVec.zero_xor]]
  rw [not_xor]
  have e : ~~~(0#32) ^^^ ~~~(0#32) = 0#32 := BitVec.xor_self
  calc ~~~x ^^^ (y ^^^ ~~~(0#32)) ^^^ (z ^^^ ~~~(0#32)) = (~~~x ^^^ y ^^^ z) ^^^ (~~~(0#32) ^^^ ~~~(0#32)) := by ac_rfl
    _ = ~~~x ^^^ y ^^^ z := by rw [e, BitVec.xor_zero]

/-- The text so far: the first k bytes together, nothing behind them. -/
def sofar (a b : List UInt8) (k : Nat) : List UInt8 := (List.zipWith (· ^^^ ·) a b).take k ++ List.replicate (a.length - k) 0
theorem sofar_zero (a b : List UInt8) : sofar a b 0 = List.replicate a.length 0 := by simp [sofar]
theorem sofar_all (a b : List UInt8) (h : a.length = b.length) : sofar a b a.length = List.zipWith (· ^^^ ·) a b := by
  unfold sofar
  rw [Nat.sub_self, List.replicate_zero, List.append_nil, List.take_of_length_le (by simp [List.length_zipWith, ← h])]
theorem sofar_length (a b : List UInt8) (h : a.length = b.length) (k : Nat) (hk : k ≤ a.length) : (sofar a b k).length = a.length := by
  simp [sofar, List.length_zipWith, ← h]; omega
theorem sofar_succ (a b : List UInt8) (h : a.length = b.length) (k : Nat) (hk : k < a.length) :
    (sofar a b k).set k (a[k] ^^^ b[k]'(by omega)) = sofar a b (k + 1) := by
  unfold sofar
  have hz : k < (List.zipWith (· ^^^ ·) a b).length := by simp [List.length_zipWith, ← h]; exact hk
  have ht : ((List.zipWith (· ^^^ ·) a b).take k).length = k := by rw [List.length_take]; omega
  rw [List.set_append, if_neg (by omega), ht, Nat.sub_self, show a.length - k = (a.length - (k + 1)) + 1 from by omega, List.replicate_succ, List.set_cons_zero,
    List.take_succ_eq_append_getElem hz, List.append_assoc]
  simp

/-! ### one bit that is turned -/
def bitAt (i : Nat) : BitVec 32 := 1#32 <<< i
theorem steps_bit (i : Nat) (h : i < 32) : steps i (bitAt i) = 1#32 := by
  rw [steps_shift i _ (by intro j hj; simp [bitAt, BitVec.getLsbD_shiftLeft, hj])]
  apply BitVec.eq_of_getLsbD_eq
  intro j hj
  unfold bitAt
  simp only [BitVec.getLsbD_ushiftRight, BitVec.getLsbD_shiftLeft]
  by_cases h0 : j = 0
  · subst h0; simp [h]
  · have : i + j - i = j := by omega
    rw [this]
    have h1 : (1#32).getLsbD j = false := by simp [BitVec.getLsbD_one, h0]
    simp [h1]
theorem steps_bit' (n i : Nat) (h : i < 32) : steps (n + i) (bitAt i) = steps n 1#32 := by rw [steps_add, steps_bit i h]
def bit8 (t : Nat) : UInt8 := UInt8.ofNat (2 ^ t % 256)
theorem wide_bit8 (t : Nat) (h : t < 8) : wide (bit8 t) = bitAt t := by
  match t, h with
  | 0, _ => decide | 1, _ => decide | 2, _ => decide | 3, _ => decide | 4, _ => decide | 5, _ => decide | 6, _ => decide | 7, _ => decide
theorem regs_turn (l : List UInt8) (j t : Nat) (hj : j < l.length) (ht : t < 8) (r : BitVec 32) :
    regs r (l.set j (l[j] ^^^ bit8 t)) = regs r l ^^^ steps (8 * l.length - (8 * j + t)) 1#32 := by
  have e1 : l = l.take j ++ l[j] :: l.drop (j + 1) := by rw [← List.drop_eq_getElem_cons hj, List.take_append_drop]
  have e2 : l.set j (l[j] ^^^ bit8 t) = l.take j ++ (l[j] ^^^ bit8 t) :: l.drop (j + 1) := List.set_eq_take_append_cons_drop .. |>.trans (by rw [if_pos hj])
  rw [e2]
  conv => rhs; arg 1; rw [e1]
  rw [regs_append, regs_cons, regs_append, regs_cons]
  generalize regs r (l.take j) = x
  have h1 : upd x (l[j] ^^^ bit8 t) = upd x l[j] ^^^ steps (8 - t) 1#32 := by
    have h2 := upd_both x 0#32 l[j] (bit8 t)
    rw [BitVec.xor_zero] at h2
    rw [h2]
    congr 1
    unfold upd
    rw [BitVec.zero_xor, wide_bit8 t ht]
    have h3 := steps_bit' (8 - t) t (by omega)
    rw [show 8 - t + t = 8 from by omega] at h3
    exact h3
  rw [h1, regs_xor, ← steps_add]
  congr 2
  rw [List.length_drop]
  omega

/-- The lowest k bits. -/
def lows (x : BitVec 32) : Nat → BitVec 32
  | 0 => 0#32
  | k + 1 => if x.getLsbD k = true then lows x k ^^^ bitAt k else lows x k
theorem lows_bit (x : BitVec 32) (k : Nat) : ∀ i, i < 32 → (lows x k).getLsbD i = (decide (i < k) && x.getLsbD i) := by
  induction k with
  | zero => intro i hi; simp [lows]
  | succ k ih =>
    intro i hi
    have hb : (bitAt k).getLsbD i = decide (i = k) := by
      unfold bitAt
      rw [BitVec.getLsbD_shiftLeft, BitVec.getLsbD_one]
      by_cases e : i = k
      · subst e; simp [hi]
      · have h2 : ¬ (i - k = 0 ∧ k ≤ i) := by omega
        by_cases e1 : i < k
        · simp [e1, e]
        · have : i - k ≠ 0 := by omega
          simp [this, e]
    rw [lows]
    by_cases h : x.getLsbD k = true
    · rw [if_pos h, BitVec.getLsbD_xor, ih i hi, hb]
      by_cases e : i = k
      · subst e; simp [h]
      · have : (decide (i < k + 1)) = decide (i < k) := by simp; omega
        rw [this]; simp [e]
    · rw [if_neg h, ih i hi]
      by_cases e : i = k
      · subst e; simp [h]
      · have : (decide (i < k + 1)) = decide (i < k) := by simp; omega
        rw [this]
theorem lows_all (x : BitVec 32) : lows x 32 = x := by
  apply BitVec.eq_of_getLsbD_eq
  intro i hi
  rw [lows_bit x 32 i hi]
  simp [hi]
/-- Bits turned within 32 places are seen. -/
theorem turned_seen (l c : List UInt8) (n : Nat) (x : BitVec 32) (hx : x ≠ 0#32) (h : regs (inv 0#32) c = regs (inv 0#32) l ^^^ steps n x) : more 0#32 c ≠ more 0#32 l := by
  intro e
  unfold more at e
  have e' : regs (~~~0#32) c = regs (~~~0#32) l := by
    have := congrArg (fun y => ~~~y) e
    simpa using this
  rw [show inv 0#32 = ~~~0#32 from rfl] at h
  rw [h] at e'
  have h2 : steps n x = 0#32 := by
    have := congrArg (fun y => regs (~~~0#32) l ^^^ y) e'
    simp only [← BitVec.xor_assoc, BitVec.xor_self, BitVec.zero_xor] at this
    exact this
  exact hx (steps_eq_zero n x h2)
theorem turned_step (l c : List UInt8) (at_ k p : Nat) (x : BitVec 32) (hl : c.length = l.length) (h32 : at_ + 32 ≤ 8 * l.length) (hk : k < 32) (hp : p = at_ + k) (hb : x.getLsbD k = true)
    (h : regs (inv 0#32) c = regs (inv 0#32) l ^^^ steps (8 * l.length - at_) (lows x k)) (hpl : p / 8 < c.length) :
    regs (inv 0#32) (c.set (p / 8) (c[p / 8] ^^^ bit8 (p % 8))) = regs (inv 0#32) l ^^^ steps (8 * l.length - at_) (lows x (k + 1)) := by
  rw [regs_turn c (p / 8) (p % 8) hpl (by omega), h, lows, if_pos hb, steps_xor, BitVec.xor_assoc]
  congr 2
  have h1 := steps_bit' (8 * l.length - at_ - k) k hk
  rw [show 8 * l.length - at_ - k + k = 8 * l.length - at_ from by omega] at h1
  rw [h1, hl]
  congr 1
  omega
theorem turned_not (l c : List UInt8) (n k : Nat) (x : BitVec 32) (hb : x.getLsbD k = false)
    (h : regs (inv 0#32) c = regs (inv 0#32) l ^^^ steps n (lows x k)) : regs (inv 0#32) c = regs (inv 0#32) l ^^^ steps n (lows x (k + 1)) := by
  rw [h, lows, if_neg (by rw [hb]; decide)]

/-! ### the walk's spellings -/

theorem bits_and1 (y : BitVec 32) : bits .and .u32 (y.toNat : Int) 1 = if y.getLsbD 0 = true then 1 else 0 := by
  have h := u32_and_nat y.toNat 1 y.isLt (by omega)
  rw [show ((1 : Nat) : Int) = 1 from rfl] at h
  rw [h, nat_mask1]
  have h0 : y.getLsbD 0 = decide (y.toNat % 2 = 1) := by simp [BitVec.getLsbD, Nat.testBit_zero]
  rw [h0]
  by_cases h1 : y.toNat % 2 = 1
  · simp [h1]
  · have : y.toNat % 2 = 0 := by omega
    simp [this]
theorem bits_xor (x y : BitVec 32) : bits .xor .u32 (x.toNat : Int) (y.toNat : Int) = ((x ^^^ y).toNat : Int) := by
  rw [u32_xor_nat _ _ x.isLt y.isLt, BitVec.toNat_xor]
theorem half (y : BitVec 32) : ((y.toNat : Nat) : Int) / (2 : Int) = ((y >>> 1).toNat : Int) := by
  rw [BitVec.toNat_ushiftRight, Nat.shiftRight_eq_div_pow]
  omega
theorem xor_poly (x : BitVec 32) : bits .xor .u32 (x.toNat : Int) 3988292384 = ((x ^^^ poly).toNat : Int) := bits_xor x poly
def feed (x : BitVec 32) (c : UInt8) : BitVec 32 := x ^^^ wide c
theorem xor_byte (x : BitVec 32) (c : UInt8) : bits .xor .u32 (x.toNat : Int) (c.toNat : Int) = ((feed x c).toNat : Int) := by
  rw [← wide_toNat, bits_xor]; rfl
theorem xor_byte' (x : BitVec 32) (c : UInt8) : bits .xor .u32 (x.toNat : Int) ((c.toNat : Int) % 4294967296) = ((feed x c).toNat : Int) := by
  have : c.toNat < 256 := UInt8.toNat_lt c
  rw [show (c.toNat : Int) % 4294967296 = (c.toNat : Int) from by omega, xor_byte]
theorem not_u32 (s : BitVec 32) : bits .xor .u32 IntKind.u32.max (s.toNat : Int) = ((inv s).toNat : Int) := by
  rw [show IntKind.u32.max = (((BitVec.allOnes 32).toNat : Nat) : Int) from by decide, bits_xor, BitVec.allOnes_xor]; rfl
theorem shr_toNat (x : BitVec 32) (k : Nat) : (x >>> k).toNat = x.toNat / 2 ^ k := by rw [BitVec.toNat_ushiftRight, Nat.shiftRight_eq_div_pow]
theorem shr_int (x : BitVec 32) (k : Nat) : (x.toNat : Int) / (2 : Int) ^ k = ((x >>> k).toNat : Int) := by
  rw [shr_toNat, Int.natCast_ediv, Int.natCast_pow]
  rfl
theorem bit_yes {x : BitVec 32} {k : Nat} (h : x.getLsbD k = true) : (bits .and .u32 ((x.toNat : Int) / (2 : Int) ^ k) 1 == 1) = true := by
  rw [shr_int, bits_and1, if_pos (by rw [BitVec.getLsbD_ushiftRight]; exact h)]; rfl
theorem bit_no {x : BitVec 32} {k : Nat} (h : x.getLsbD k = false) : (bits .and .u32 ((x.toNat : Int) / (2 : Int) ^ k) 1 == 1) = false := by
  rw [shr_int, bits_and1, if_neg (by rw [BitVec.getLsbD_ushiftRight, Nat.add_zero, h]; decide)]; rfl
theorem byte_xor (c d : UInt8) : bits .xor .u8 (c.toNat : Int) (d.toNat : Int) = ((c ^^^ d).toNat : Int) := by
  rw [u8_xor_nat _ _ (UInt8.toNat_lt c) (UInt8.toNat_lt d)]
  rfl
theorem turn_byte (b : UInt8) (t : Nat) : bits .xor .u8 (b.toNat : Int) ((2 : Int) ^ t % (256 : Int)) = ((b ^^^ bit8 t).toNat : Int) := by
  rw [← byte_xor]
  congr 1
  unfold bit8
  rw [UInt8.toNat_ofNat']
  rw [show (2 : Int) ^ t = ((2 ^ t : Nat) : Int) from by rw [Int.natCast_pow]; rfl]
  omega
theorem and255 (n : Nat) (h : n < 4294967296) : bits .and .u32 (n : Int)  255 % (256 : Int) = ((n % 256 : Nat) : Int) := by
  have h1 := u32_and_nat n 255 h (by omega)
  rw [show ((255 : Nat) : Int) = 255 from rfl] at h1
  rw [h1, nat_mask8]
  omega
/-- The four bytes of a word, as the program cuts them. -/
theorem byte0 (x : BitVec 32) : bits .and .u32 (x.toNat : Int)  255 % (256 : Int) = ((low x).toNat : Int) := by
  rw [and255 _ x.isLt, low_toNat]
theorem byte1 (x : BitVec 32) : bits .and .u32 ((x.toNat : Int) / (256 : Int))  255 % (256 : Int) = ((low (x >>> 8)).toNat : Int) := by
  have := x.isLt
  rw [show (x.toNat : Int) / (256 : Int) = ((x.toNat / 256 : Nat) : Int) from by omega, and255 _ (by omega), low_toNat, shr_toNat]
theorem byte2 (x : BitVec 32) : bits .and .u32 ((x.toNat : Int) / (65536 : Int))  255 % (256 : Int) = ((low (x >>> 8 >>> 8)).toNat : Int) := by
  have := x.isLt
  rw [show (x.toNat : Int) / (65536 : Int) = ((x.toNat / 65536 : Nat) : Int) from by omega, and255 _ (by omega), low_toNat, shr_shr, shr_toNat]
theorem byte3 (x : BitVec 32) : (x.toNat : Int) / (16777216 : Int) = ((low (x >>> 8 >>> 8 >>> 8)).toNat : Int) := by
  have := x.isLt
  rw [low_toNat, shr_shr, shr_shr, shr_toNat]
  show (x.toNat : Int) / 16777216 = ((x.toNat / 16777216 % 256 : Nat) : Int)
  omega
/-- A number of the kind uint32 is a register. -/
theorem reg_of {n : Int} (h : (Lit.int .u32 n).wf = true) : ∃ x : BitVec 32, n = (x.toNat : Int) := by
  have h1 : 0 ≤ n ∧ n ≤ 4294967295 := by simpa [Lit.wf, IntKind.min, IntKind.max, IntKind.bits, IntKind.signed] using h
  refine ⟨BitVec.ofNat 32 n.toNat, ?_⟩
  rw [BitVec.toNat_ofNat]
  omega
theorem step_one (y : BitVec 32) (h : y.getLsbD 0 = true) : step y = (y >>> 1) ^^^ poly := by unfold step; rw [if_pos h]
theorem step_none (y : BitVec 32) (h : y.getLsbD 0 = false) : step y = y >>> 1 := by unfold step; rw [if_neg (by rw [h]; decide)]
end Go.Proofs.YtnpbokbfkdncmaaGreat.Crc

/-
  Plain facts on frames: a length's four bytes, the data, a sum's four bytes. No program is named here.
-/
namespace Go.Proofs.YtnpbokbfkdncmaaGreat.Fm
open Crc

/-- The number that a text begins with, its lowest byte first. -/
def numN : List UInt8 → Nat
  | a :: b :: c :: d :: _ => a.toNat + 256 * b.toNat + 65536 * c.toNat + 16777216 * d.toNat
  | _ => 0

theorem numN_lt (l : List UInt8) : numN l < 4294967296 := by
  match l with
  | [] | [_] | [_, _] | [_, _, _] => simp [numN]
  | a :: b :: c :: d :: _ =>
    have := UInt8.toNat_lt a; have := UInt8.toNat_lt b; have := UInt8.toNat_lt c; have := UInt8.toNat_lt d
    simp only [numN]; omega

theorem word_length (x : BitVec 32) : (word x).length = 4 := rfl

theorem numN_word (x : BitVec 32) (t : List UInt8) : numN (word x ++ t) = x.toNat := by
  have h := x.isLt
  simp only [word, List.cons_append, List.nil_append, numN, low_toNat, shr_toNat, Nat.reducePow]
  omega

/-- Four bytes are the bytes of their number. -/
theorem word_numN (l : List UInt8) (h : l.length = 4) : word (BitVec.ofNat 32 (numN l)) = l := by
  match l, h with
  | [a, b, c, d], _ =>
    have h1 := UInt8.toNat_lt a; have h2 := UInt8.toNat_lt b; have h3 := UInt8.toNat_lt c; have h4 := UInt8.toNat_lt d
    have hx : (BitVec.ofNat 32 (numN [a, b, c, d])).toNat = numN [a, b, c, d] := by
      rw [BitVec.toNat_ofNat]; exact Nat.mod_eq_of_lt (numN_lt _)
    generalize BitVec.ofNat 32 (numN [a, b, c, d]) = x at *
    simp only [numN] at hx
    have e : ∀ (c : UInt8) (y : BitVec 32), y.toNat % 256 = c.toNat → low y = c := by
      intro c y hy
      apply UInt8.toNat_inj.1
      rw [low_toNat, hy]
    unfold word
    rw [e a x (by omega), e b (x >>> 8) (by rw [shr_toNat]; omega), e c (x >>> 8 >>> 8) (by rw [shr_toNat, shr_toNat]; omega), e d (x >>> 8 >>> 8 >>> 8) (by rw [shr_toNat, shr_toNat, shr_toNat]; omega)]

theorem numN_take (l : List UInt8) (k : Nat) (h : 4 ≤ k) : numN (l.take k) = numN l := by
  match l with
  | [] => simp
  | [a] => rw [List.take_of_length_le (by simp; omega)]
  | [a, b] => rw [List.take_of_length_le (by simp; omega)]
  | [a, b, c] => rw [List.take_of_length_le (by simp; omega)]
  | a :: b :: c :: d :: t =>
    obtain ⟨k, rfl⟩ : ∃ j, k = j + 4 := ⟨k - 4, by omega⟩
    simp [numN]

/-- What Cut answers: the kind, the data, what is behind. -/
def cutF (l : List UInt8) : Int × List UInt8 × List UInt8 :=
  if l.length < 4 then (3, [], [])
  else if 8192 < numN l then (2, [], [])
  else if l.length < 4 + numN l + 4 then (3, [], [])
  else if (more 0#32 (l.take (4 + numN l))).toNat = numN (l.drop (4 + numN l)) then (0, (l.take (4 + numN l)).drop 4, l.drop (4 + numN l + 4))
  else (2, [], [])

theorem cut_few {l : List UInt8} (h : l.length < 4) : cutF l = (3, [], []) := by unfold cutF; rw [if_pos h]
theorem cut_long {l : List UInt8} (h : ¬ l.length < 4) (h1 : 8192 < numN l) : cutF l = (2, [], []) := by unfold cutF; rw [if_neg h, if_pos h1]
theorem cut_cut {l : List UInt8} (h : ¬ l.length < 4) (h1 : ¬ 8192 < numN l) (h2 : l.length < 4 + numN l + 4) : cutF l = (3, [], []) := by unfold cutF; rw [if_neg h, if_neg h1, if_pos h2]
theorem cut_ok {l : List UInt8} (h : ¬ l.length < 4) (h1 : ¬ 8192 < numN l) (h2 : ¬ l.length < 4 + numN l + 4) (h3 : (more 0#32 (l.take (4 + numN l))).toNat = numN (l.drop (4 + numN l))) :
    cutF l = (0, (l.take (4 + numN l)).drop 4, l.drop (4 + numN l + 4)) := by unfold cutF; rw [if_neg h, if_neg h1, if_neg h2, if_pos h3]
theorem cut_bad {l : List UInt8} (h : ¬ l.length < 4) (h1 : ¬ 8192 < numN l) (h2 : ¬ l.length < 4 + numN l + 4) (h3 : ¬ (more 0#32 (l.take (4 + numN l))).toNat = numN (l.drop (4 + numN l))) :
    cutF l = (2, [], []) := by unfold cutF; rw [if_neg h, if_neg h1, if_neg h2, if_neg h3]

/-- What is behind is shorter, and of the data it is told how long it is. -/
theorem cut_lengths {l : List UInt8} (h : (cutF l).1 = 0) : (cutF l).2.1.length ≤ 8192 ∧ (cutF l).2.1.length + 8 + (cutF l).2.2.length = l.length ∧ (cutF l).2.2 = l.drop ((cutF l).2.1.length + 8) := by
  by_cases h0 : l.length < 4
  · rw [cut_few h0] at h; cases h
  by_cases h1 : 8192 < numN l
  · rw [cut_long h0 h1] at h; cases h
  by_cases h2 : l.length < 4 + numN l + 4
  · rw [cut_cut h0 h1 h2] at h; cases h
  by_cases h3 : (more 0#32 (l.take (4 + numN l))).toNat = numN (l.drop (4 + numN l))
  · rw [cut_ok h0 h1 h2 h3]
    have hl : ((l.take (4 + numN l)).drop 4).length = numN l := by rw [List.length_drop, List.length_take]; omega
    refine ⟨?_, ?_, ?_⟩
    · show ((l.take (4 + numN l)).drop 4).length ≤ 8192
      omega
    · show ((l.take (4 + numN l)).drop 4).length + 8 + (l.drop (4 + numN l + 4)).length = l.length
      rw [hl, List.length_drop]; omega
    · show l.drop (4 + numN l + 4) = l.drop (((l.take (4 + numN l)).drop 4).length + 8)
      rw [hl]; congr 1; omega
  · rw [cut_bad h0 h1 h2 h3] at h; cases h
theorem cut_kind (l : List UInt8) : (cutF l).1 = 0 ∨ ((cutF l).1 ≠ 0 ∧ (cutF l).2 = ([], [])) := by
  unfold cutF
  repeat' split
  all_goals simp

theorem cut_le (l : List UInt8) : (cutF l).2.1.length ≤ l.length ∧ (cutF l).2.2.length ≤ l.length := by
  rcases cut_kind l with h | ⟨_, h⟩
  · have := cut_lengths h
    omega
  · rw [h]; simp

/-- The frame of data. -/
def framed (d : List UInt8) : List UInt8 := (word (BitVec.ofNat 32 d.length) ++ d) ++ word (more 0#32 (word (BitVec.ofNat 32 d.length) ++ d))
theorem framed_length (d : List UInt8) : (framed d).length = 4 + d.length + 4 := by
  unfold framed
  rw [List.length_append, List.length_append, word_length, word_length]
theorem numN_head (n : Nat) (h : n ≤ 8192) (t : List UInt8) : numN (word (BitVec.ofNat 32 n) ++ t) = n := by
  rw [numN_word, BitVec.toNat_ofNat]
  exact Nat.mod_eq_of_lt (by omega)

theorem cut_framed (d r : List UInt8) (h : d.length ≤ 8192) : cutF (framed d ++ r) = (0, d, r) := by
  have hn : numN (framed d ++ r) = d.length := by
    unfold framed
    rw [List.append_assoc, List.append_assoc]
    exact numN_head _ h _
  have hl := framed_length d
  have e1 : (framed d ++ r).take (4 + numN (framed d ++ r)) = word (BitVec.ofNat 32 d.length) ++ d := by
    rw [hn, framed, List.append_assoc, List.take_append_of_le_length (by rw [List.length_append, word_length]; omega), List.take_of_length_le (by rw [List.length_append, word_length]; omega)]
  have e2 : (framed d ++ r).drop (4 + numN (framed d ++ r)) = word (more 0#32 (word (BitVec.ofNat 32 d.length) ++ d)) ++ r := by
    rw [hn, framed, List.append_assoc, List.drop_append_of_le_length (by rw [List.length_append, word_length]; omega), List.drop_of_length_le (by rw [List.length_append, word_length]; omega)]
    rfl
  have e3 : (framed d ++ r).drop (4 + numN (framed d ++ r) + 4) = r := by
    rw [hn, ← hl, List.drop_left]
  rw [cut_ok (by rw [List.length_append]; omega) (by rw [hn]; omega) (by rw [List.length_append, hn]; omega) (by rw [e1, e2, numN_word]), e1, e3]
  congr 1

/-- A frame that is cut off is too short. -/
theorem cut_framed_off (d : List UInt8) (h : d.length ≤ 8192) (k : Nat) (hk : k < (framed d).length) : cutF ((framed d).take k) = (3, [], []) := by
  have hl := framed_length d
  have hlen : ((framed d).take k).length = k := by rw [List.length_take]; omega
  by_cases h4 : k < 4
  · exact cut_few (by omega)
  have hn : numN ((framed d).take k) = d.length := by
    rw [numN_take _ _ (by omega)]
    unfold framed
    rw [List.append_assoc]
    exact numN_head _ h _
  exact cut_cut (by omega) (by omega) (by omega)

/-! ### all frames -/
/-- The data of the frames from the beginning on, how many bytes they took, what stopped them. -/
def allF : Nat → List UInt8 → List (List UInt8) × Nat × Int
  | 0, _ => ([], 0, 0)
  | f + 1, l => if l = [] then ([], 0, 0) else if (cutF l).1 = 0 then
      ((cutF l).2.1 :: (allF f (cutF l).2.2).1, (cutF l).2.1.length + 8 + (allF f (cutF l).2.2).2.1, (allF f (cutF l).2.2).2.2) else ([], 0, (cutF l).1)
theorem allF_fuel : ∀ (f g : Nat) (l : List UInt8), l.length ≤ f → l.length ≤ g → allF f l = allF g l
  | 0, 0, _, _, _ => rfl
  | 0, g + 1, l, h, _ => by
    obtain rfl : l = [] := List.eq_nil_of_length_eq_zero (by omega)
    simp [allF]
  | f + 1, 0, l, _, h => by
    obtain rfl : l = [] := List.eq_nil_of_length_eq_zero (by omega)
    simp [allF]
  | f + 1, g + 1, l, h1, h2 => by
    rw [allF, allF]
    by_cases h0 : l = []
    · rw [if_pos h0, if_pos h0]
    · rw [if_neg h0, if_neg h0]
      by_cases hk : (cutF l).1 = 0
      · have := (cut_lengths hk).2.1
        rw [if_pos hk, if_pos hk, allF_fuel f g _ (by omega) (by omega)]
      · rw [if_neg hk, if_neg hk]
def allOf (l : List UInt8) : List (List UInt8) × Nat × Int := allF l.length l
theorem all_none : allOf [] = ([], 0, 0) := rfl
theorem all_stop {l : List UInt8} (h0 : l ≠ []) (hk : (cutF l).1 ≠ 0) : allOf l = ([], 0, (cutF l).1) := by
  unfold allOf
  obtain ⟨n, hn⟩ : ∃ n, l.length = n + 1 := ⟨l.length - 1, by have := List.length_pos_iff.2 h0; omega⟩
  rw [hn, allF, if_neg h0, if_neg hk]
theorem all_step {l : List UInt8} (h0 : l ≠ []) (hk : (cutF l).1 = 0) : allOf l = ((cutF l).2.1 :: (allOf (cutF l).2.2).1, (cutF l).2.1.length + 8 + (allOf (cutF l).2.2).2.1, (allOf (cutF l).2.2).2.2) := by
  unfold allOf
  obtain ⟨n, hn⟩ : ∃ n, l.length = n + 1 := ⟨l.length - 1, by have := List.length_pos_iff.2 h0; omega⟩
  have := (cut_lengths hk).2.1
  conv => lhs; rw [hn, allF, if_neg h0, if_pos hk]
  rw [allF_fuel n (cutF l).2.2.length _ (by omega) (Nat.le_refl _)]

/-- So far the frames of the first u bytes have given ms. -/
def AllAt (l : List UInt8) (ms : List (List UInt8)) (u : Nat) : Prop := u ≤ l.length ∧ allOf l = (ms ++ (allOf (l.drop u)).1, u + (allOf (l.drop u)).2.1, (allOf (l.drop u)).2.2)
theorem allAt_zero (l : List UInt8) : AllAt l [] 0 := ⟨Nat.zero_le _, by simp⟩
theorem allAt_end {l : List UInt8} {ms : List (List UInt8)} {u : Nat} (h : AllAt l ms u) (hu : u = l.length) : allOf l = (ms, u, 0) := by
  rw [h.2, List.drop_of_length_le (by omega), all_none]
  simp
theorem drop_ne {l : List UInt8} {u : Nat} (h : u < l.length) : l.drop u ≠ [] := by
  intro e
  have := congrArg List.length e
  rw [List.length_drop, List.length_nil] at this
  omega
theorem allAt_stop {l : List UInt8} {ms : List (List UInt8)} {u : Nat} (h : AllAt l ms u) (hu : u < l.length) (hk : (cutF (l.drop u)).1 ≠ 0) : allOf l = (ms, u, (cutF (l.drop u)).1) := by
  rw [h.2, all_stop (drop_ne hu) hk]
  simp
theorem allAt_step {l : List UInt8} {ms : List (List UInt8)} {u : Nat} (h : AllAt l ms u) (hu : u < l.length) (hk : (cutF (l.drop u)).1 = 0) :
    u < l.length - (cutF (l.drop u)).2.2.length ∧ (cutF (l.drop u)).2.2 = l.drop (l.length - (cutF (l.drop u)).2.2.length) ∧ AllAt l (ms ++ [(cutF (l.drop u)).2.1]) (l.length - (cutF (l.drop u)).2.2.length) := by
  obtain ⟨h1, h2, h3⟩ := cut_lengths hk
  rw [List.length_drop] at h2
  have e : l.length - (cutF (l.drop u)).2.2.length = u + ((cutF (l.drop u)).2.1.length + 8) := by omega
  rw [List.drop_drop] at h3
  refine ⟨by omega, by rw [e]; exact h3, by omega, ?_⟩
  rw [h.2, all_step (drop_ne hu) hk, e, ← h3]
  show (ms ++ (cutF (l.drop u)).2.1 :: (allOf (cutF (l.drop u)).2.2).1, u + ((cutF (l.drop u)).2.1.length + 8 + (allOf (cutF (l.drop u)).2.2).2.1), _) = _
  rw [List.append_assoc, List.singleton_append, Nat.add_assoc, Nat.add_assoc, Nat.add_assoc]
/-- There are no more of them than bytes. -/
theorem allF_few : ∀ (f : Nat) (l : List UInt8), (allF f l).1.length ≤ l.length
  | 0, _ => Nat.zero_le _
  | f + 1, l => by
    rw [allF]
    split
    · exact Nat.zero_le _
    · split
      · rename_i hk
        have := (cut_lengths hk).2.1
        have := allF_few f (cutF l).2.2
        rw [List.length_cons]
        omega
      · exact Nat.zero_le _
theorem allAt_few {l : List UInt8} {ms : List (List UInt8)} {u : Nat} (h : AllAt l ms u) : ms.length ≤ l.length := by
  have h1 := allF_few l.length l
  have h2 : (allOf l).1.length = (ms ++ (allOf (l.drop u)).1).length := by rw [h.2]
  rw [List.length_append] at h2
  unfold allOf at h2
  omega

def frames (ds : List (List UInt8)) : List UInt8 := (ds.map framed).flatten
theorem frames_nil : frames [] = [] := rfl
theorem frames_cons (d : List UInt8) (ds : List (List UInt8)) : frames (d :: ds) = framed d ++ frames ds := rfl
theorem frames_append (a b : List (List UInt8)) : frames (a ++ b) = frames a ++ frames b := by simp [frames]
theorem frames_snoc (a : List (List UInt8)) (d : List UInt8) : frames (a ++ [d]) = frames a ++ framed d := by rw [frames_append]; simp [frames]
theorem framed_ne (d r : List UInt8) : framed d ++ r ≠ [] := by
  intro h
  have := congrArg List.length h
  rw [List.length_append, framed_length] at this
  simp at this
/-- All of whole frames with something behind them: these, and then what is behind. -/
theorem all_frames : ∀ (ds : List (List UInt8)) (r : List UInt8), (∀ d ∈ ds, d.length ≤ 8192) →
    allOf (frames ds ++ r) = (ds ++ (allOf r).1, (frames ds).length + (allOf r).2.1, (allOf r).2.2)
  | [], r, _ => by simp [frames]
  | d :: ds, r, h => by
    have hd : d.length ≤ 8192 := h d (by simp)
    have hc := cut_framed d (frames ds ++ r) hd
    have ih := all_frames ds r (fun x hx => h x (by simp [hx]))
    rw [frames_cons, List.append_assoc, all_step (framed_ne _ _) (by rw [hc]), hc]
    show (d :: (allOf (frames ds ++ r)).1, d.length + 8 + (allOf (frames ds ++ r)).2.1, (allOf (frames ds ++ r)).2.2) = _
    rw [ih, List.length_append, framed_length]
    congr 2
    show d.length + 8 + ((frames ds).length + (allOf r).2.1) = 4 + d.length + 4 + (frames ds).length + (allOf r).2.1
    omega
theorem all_whole (ds : List (List UInt8)) (h : ∀ d ∈ ds, d.length ≤ 8192) : allOf (frames ds) = (ds, (frames ds).length, 0) := by
  have := all_frames ds [] h
  rw [List.append_nil] at this
  rw [this, all_none]
  simp
/-- .. cut off within the next one. -/
theorem all_off (ds : List (List UInt8)) (d : List UInt8) (h : ∀ d ∈ ds, d.length ≤ 8192) (hd : d.length ≤ 8192) (k : Nat) (h0 : 0 < k) (hk : k < (framed d).length) :
    allOf (frames ds ++ (framed d).take k) = (ds, (frames ds).length, 3) := by
  have hc := cut_framed_off d hd k hk
  have hs : allOf ((framed d).take k) = ([], 0, 3) := by
    rw [all_stop (by intro e; have := congrArg List.length e; rw [List.length_take, List.length_nil] at this; omega) (by rw [hc]; decide), hc]
  rw [all_frames ds _ h, hs]
  simp

/-! ### a byte that is turned -/
theorem xor_ne (c t : UInt8) (h : t ≠ 0) : c ^^^ t ≠ c := by
  intro e
  have h2 : c ^^^ (c ^^^ t) = c ^^^ c := by rw [e]
  rw [← UInt8.xor_assoc] at h2
  simp at h2
  exact h h2
theorem regs_set (l : List UInt8) (j : Nat) (hj : j < l.length) (t : UInt8) (r : BitVec 32) :
    regs r (l.set j (l[j] ^^^ t)) = regs r l ^^^ steps (8 * (l.length - j)) (wide t) := by
  have e1 : l = l.take j ++ l[j] :: l.drop (j + 1) := by rw [← List.drop_eq_getElem_cons hj, List.take_append_drop]
  have e2 : l.set j (l[j] ^^^ t) = l.take j ++ (l[j] ^^^ t) :: l.drop (j + 1) := List.set_eq_take_append_cons_drop .. |>.trans (by rw [if_pos hj])
  rw [e2]
  conv => rhs; arg 1; rw [e1]
  rw [regs_append, regs_cons, regs_append, regs_cons]
  generalize regs r (l.take j) = x
  have h1 : upd x (l[j] ^^^ t) = upd x l[j] ^^^ steps 8 (wide t) := by
    have h2 := upd_both x 0#32 l[j] t
    rw [BitVec.xor_zero] at h2
    rw [h2]
    congr 1
    unfold upd
    rw [BitVec.zero_xor]
  rw [h1, regs_xor, ← steps_add]
  congr 2
  rw [List.length_drop]
  omega
theorem wide_ne {t : UInt8} (h : t ≠ 0) : wide t ≠ 0#32 := by
  intro e
  have := congrArg BitVec.toNat e
  rw [wide_toNat] at this
  apply h
  exact UInt8.toNat_inj.1 this
theorem more_set (l : List UInt8) (j : Nat) (hj : j < l.length) (t : UInt8) (ht : t ≠ 0) : more 0#32 (l.set j (l[j] ^^^ t)) ≠ more 0#32 l :=
  turned_seen l _ _ _ (wide_ne ht) (regs_set l j hj t _)
/-- A byte of a frame that is turned, but of its length, is seen. -/
theorem cut_turned (d : List UInt8) (h : d.length ≤ 8192) (j : Nat) (h4 : 4 ≤ j) (hj : j < (framed d).length) (t : UInt8) (ht : t ≠ 0) :
    cutF ((framed d).set j ((framed d)[j] ^^^ t)) = (2, [], []) := by
  have hl := framed_length d
  have hg0 : ∀ x, (framed d)[j]? = some x → (framed d)[j] = x := fun x hx => by rw [List.getElem?_eq_getElem hj] at hx; exact Option.some.inj hx
  obtain ⟨y, hy⟩ : ∃ y, (framed d)[j] = y := ⟨_, rfl⟩
  rw [hy]
  generalize hz : (framed d).set j (y ^^^ t) = z
  have hzl : z.length = 4 + d.length + 4 := by rw [← hz, List.length_set, hl]
  have hn : numN z = d.length := by
    have e : z.take 4 = (framed d).take 4 := by rw [← hz, List.take_set_of_le h4]
    rw [← numN_take z 4 (Nat.le_refl _), e, numN_take _ 4 (Nat.le_refl _)]
    unfold framed
    rw [List.append_assoc]
    exact numN_head _ h _
  refine cut_bad (by omega) (by omega) (by omega) ?_
  rw [hn]
  intro e
  generalize hb : word (BitVec.ofNat 32 d.length) ++ d = b at *
  have hbl : b.length = 4 + d.length := by rw [← hb, List.length_append, word_length]
  have hf : framed d = b ++ word (more 0#32 b) := by rw [framed, hb]
  by_cases hin : j < 4 + d.length
  · have hjb : j < b.length := by rw [hbl]; exact hin
    have e1 : z.take (4 + d.length) = b.set j (b[j]'hjb ^^^ t) := by
      have hg : y = b[j]'hjb := by rw [← hy]; exact hg0 _ (by rw [hf, List.getElem?_append_left (by omega), List.getElem?_eq_getElem])
      rw [← hz, hg, List.take_set, hf, List.take_append_of_le_length (by omega), List.take_of_length_le (by omega)]
    have e2 : z.drop (4 + d.length) = word (more 0#32 b) := by
      rw [← hz, List.drop_set_of_lt (by omega), hf, ← hbl, List.drop_left]
    rw [e1, e2] at e
    have h3 := numN_word (more 0#32 b) []
    rw [List.append_nil] at h3
    rw [h3] at e
    exact more_set b j hjb t ht (BitVec.eq_of_toNat_eq e)
  · have e1 : z.take (4 + d.length) = b := by
      rw [← hz, List.take_set_of_le (by omega), hf, List.take_append_of_le_length (by omega), List.take_of_length_le (by omega)]
    rw [e1] at e
    have hdl : (z.drop (4 + d.length)).length = 4 := by rw [List.length_drop]; omega
    have e2 : word (more 0#32 b) = z.drop (4 + d.length) := by
      have h3 := word_numN _ hdl
      rw [← e, BitVec.ofNat_toNat, BitVec.setWidth_eq] at h3
      exact h3
    have e3 : z = framed d := by
      rw [hf, e2]
      conv => lhs; rw [← List.take_append_drop (4 + d.length) z, e1]
    have e4 : z[j]? = (framed d)[j]? := by rw [e3]
    rw [← hz, List.getElem?_set_self hj, List.getElem?_eq_getElem hj, hy] at e4
    exact xor_ne _ _ ht (Option.some.inj e4)
end Go.Proofs.YtnpbokbfkdncmaaGreat.Fm

/-
  Things: which type an interface value is of.
-/
namespace Go.Proofs.YtnpbokbfkdncmaaGreat
open Go.RowKit

abbrev zSpans : Value := .agg #[.int .u64 0, .bool false, .slice none 0 0]
abbrev zMembers : Value := .agg #[.slice none 0 0]
abbrev zAsk : Value := .agg #[.int .u64 0, .int .u64 0, .int .u64 0, .int .i64 0]
abbrev zReply : Value := .agg #[.int .u64 0, .int .u64 0, .int .u64 0, .bool false, .int .u64 0, .int .u64 0, .int .i64 0, .bool false]
abbrev zTold : Value := .agg #[.int .u64 0, .int .i64 0]
abbrev zStored : Value := .agg #[.int .u64 0, .int .u64 0, .int .u64 0, .slice none 0 0]
abbrev zAcked : Value := .agg #[.int .u64 0, .slice none 0 0]
theorem isSpans (v : Value) (w : World) : (Instr.typeAssert (.iface 102 v) 20 102 true).run Tryz.prog w = .ok (.tuple #[v, .bool true]) w := by kernel_rfl
theorem noSpans_nil (w : World) : (Instr.typeAssert .nilIface 20 102 true).run Tryz.prog w = .ok (.tuple #[zSpans, .bool false]) w := by kernel_rfl
theorem noSpans_Members (v : Value) (w : World) : (Instr.typeAssert (.iface 71 v) 20 102 true).run Tryz.prog w = .ok (.tuple #[zSpans, .bool false]) w := by kernel_rfl
theorem noSpans_Ask (v : Value) (w : World) : (Instr.typeAssert (.iface 105 v) 20 102 true).run Tryz.prog w = .ok (.tuple #[zSpans, .bool false]) w := by kernel_rfl
theorem noSpans_Reply (v : Value) (w : World) : (Instr.typeAssert (.iface 107 v) 20 102 true).run Tryz.prog w = .ok (.tuple #[zSpans, .bool false]) w := by kernel_rfl
theorem noSpans_Told (v : Value) (w : World) : (Instr.typeAssert (.iface 109 v) 20 102 true).run Tryz.prog w = .ok (.tuple #[zSpans, .bool false]) w := by kernel_rfl
theorem noSpans_Stored (v : Value) (w : World) : (Instr.typeAssert (.iface 111 v) 20 102 true).run Tryz.prog w = .ok (.tuple #[zSpans, .bool false]) w := by kernel_rfl
theorem noSpans_Acked (v : Value) (w : World) : (Instr.typeAssert (.iface 114 v) 20 102 true).run Tryz.prog w = .ok (.tuple #[zSpans, .bool false]) w := by kernel_rfl
theorem noSpans_Int (v : Value) (w : World) : (Instr.typeAssert (.iface 3 v) 20 102 true).run Tryz.prog w = .ok (.tuple #[zSpans, .bool false]) w := by kernel_rfl
theorem isMembers (v : Value) (w : World) : (Instr.typeAssert (.iface 71 v) 20 71 true).run Tryz.prog w = .ok (.tuple #[v, .bool true]) w := by kernel_rfl
theorem noMembers_nil (w : World) : (Instr.typeAssert .nilIface 20 71 true).run Tryz.prog w = .ok (.tuple #[zMembers, .bool false]) w := by kernel_rfl
theorem noMembers_Spans (v : Value) (w : World) : (Instr.typeAssert (.iface 102 v) 20 71 true).run Tryz.prog w = .ok (.tuple #[zMembers, .bool false]) w := by kernel_rfl
theorem noMembers_Ask (v : Value) (w : World) : (Instr.typeAssert (.iface 105 v) 20 71 true).run Tryz.prog w = .ok (.tuple #[zMembers, .bool false]) w := by kernel_rfl
theorem noMembers_Reply (v : Value) (w : World) : (Instr.typeAssert (.iface 107 v) 20 71 true).run Tryz.prog w = .ok (.tuple #[zMembers, .bool false]) w := by kernel_rfl
theorem noMembers_Told (v : Value) (w : World) : (Instr.typeAssert (.iface 109 v) 20 71 true).run Tryz.prog w = .ok (.tuple #[zMembers, .bool false]) w := by kernel_rfl
theorem noMembers_Stored (v : Value) (w : World) : (Instr.typeAssert (.iface 111 v) 20 71 true).run Tryz.prog w = .ok (.tuple #[zMembers, .bool false]) w := by kernel_rfl
theorem noMembers_Acked (v : Value) (w : World) : (Instr.typeAssert (.iface 114 v) 20 71 true).run Tryz.prog w = .ok (.tuple #[zMembers, .bool false]) w := by kernel_rfl
theorem noMembers_Int (v : Value) (w : World) : (Instr.typeAssert (.iface 3 v) 20 71 true).run Tryz.prog w = .ok (.tuple #[zMembers, .bool false]) w := by kernel_rfl
theorem isAsk (v : Value) (w : World) : (Instr.typeAssert (.iface 105 v) 20 105 true).run Tryz.prog w = .ok (.tuple #[v, .bool true]) w := by kernel_rfl
theorem noAsk_nil (w : World) : (Instr.typeAssert .nilIface 20 105 true).run Tryz.prog w = .ok (.tuple #[zAsk, .bool false]) w := by kernel_rfl
theorem noAsk_Spans (v : Value) (w : World) : (Instr.typeAssert (.iface 102 v) 20 105 true).run Tryz.prog w = .ok (.tuple #[zAsk, .bool false]) w := by kernel_rfl
theorem noAsk_Members (v : Value) (w : World) : (Instr.typeAssert (.iface 71 v) 20 105 true).run Tryz.prog w = .ok (.tuple #[zAsk, .bool false]) w := by kernel_rfl
theorem noAsk_Reply (v : Value) (w : World) : (Instr.typeAssert (.iface 107 v) 20 105 true).run Tryz.prog w = .ok (.tuple #[zAsk, .bool false]) w := by kernel_rfl
theorem noAsk_Told (v : Value) (w : World) : (Instr.typeAssert (.iface 109 v) 20 105 true).run Tryz.prog w = .ok (.tuple #[zAsk, .bool false]) w := by kernel_rfl
theorem noAsk_Stored (v : Value) (w : World) : (Instr.typeAssert (.iface 111 v) 20 105 true).run Tryz.prog w = .ok (.tuple #[zAsk, .bool false]) w := by kernel_rfl
theorem noAsk_Acked (v : Value) (w : World) : (Instr.typeAssert (.iface 114 v) 20 105 true).run Tryz.prog w = .ok (.tuple #[zAsk, .bool false]) w := by kernel_rfl
theorem noAsk_Int (v : Value) (w : World) : (Instr.typeAssert (.iface 3 v) 20 105 true).run Tryz.prog w = .ok (.tuple #[zAsk, .bool false]) w := by kernel_rfl
theorem isReply (v : Value) (w : World) : (Instr.typeAssert (.iface 107 v) 20 107 true).run Tryz.prog w = .ok (.tuple #[v, .bool true]) w := by kernel_rfl
theorem noReply_nil (w : World) : (Instr.typeAssert .nilIface 20 107 true).run Tryz.prog w = .ok (.tuple #[zReply, .bool false]) w := by kernel_rfl
theorem noReply_Spans (v : Value) (w : World) : (Instr.typeAssert (.iface 102 v) 20 107 true).run Tryz.prog w = .ok (.tuple #[zReply, .bool false]) w := by kernel_rfl
theorem noReply_Members (v : Value) (w : World) : (Instr.typeAssert (.iface 71 v) 20 107 true).run Tryz.prog w = .ok (.tuple #[zReply, .bool false]) w := by kernel_rfl
theorem noReply_Ask (v : Value) (w : World) : (Instr.typeAssert (.iface 105 v) 20 107 true).run Tryz.prog w = .ok (.tuple #[zReply, .bool false]) w := by kernel_rfl
theorem noReply_Told (v : Value) (w : World) : (Instr.typeAssert (.iface 109 v) 20 107 true).run Tryz.prog w = .ok (.tuple #[zReply, .bool false]) w := by kernel_rfl
theorem noReply_Stored (v : Value) (w : World) : (Instr.typeAssert (.iface 111 v) 20 107 true).run Tryz.prog w = .ok (.tuple #[zReply, .bool false]) w := by kernel_rfl
theorem noReply_Acked (v : Value) (w : World) : (Instr.typeAssert (.iface 114 v) 20 107 true).run Tryz.prog w = .ok (.tuple #[zReply, .bool false]) w := by kernel_rfl
theorem noReply_Int (v : Value) (w : World) : (Instr.typeAssert (.iface 3 v) 20 107 true).run Tryz.prog w = .ok (.tuple #[zReply, .bool false]) w := by kernel_rfl
theorem isTold (v : Value) (w : World) : (Instr.typeAssert (.iface 109 v) 20 109 true).run Tryz.prog w = .ok (.tuple #[v, .bool true]) w := by kernel_rfl
theorem noTold_nil (w : World) : (Instr.typeAssert .nilIface 20 109 true).run Tryz.prog w = .ok (.tuple #[zTold, .bool false]) w := by kernel_rfl
theorem noTold_Spans (v : Value) (w : World) : (Instr.typeAssert (.iface 102 v) 20 109 true).run Tryz.prog w = .ok (.tuple #[zTold, .bool false]) w := by kernel_rfl
theorem noTold_Members (v : Value) (w : World) : (Instr.typeAssert (.iface 71 v) 20 109 true).run Tryz.prog w = .ok (.tuple #[zTold, .bool false]) w := by kernel_rfl
theorem noTold_Ask (v : Value) (w : World) : (Instr.typeAssert (.iface 105 v) 20 109 true).run Tryz.prog w = .ok (.tuple #[zTold, .bool false]) w := by kernel_rfl
theorem noTold_Reply (v : Value) (w : World) : (Instr.typeAssert (.iface 107 v) 20 109 true).run Tryz.prog w = .ok (.tuple #[zTold, .bool false]) w := by kernel_rfl
theorem noTold_Stored (v : Value) (w : World) : (Instr.typeAssert (.iface 111 v) 20 109 true).run Tryz.prog w = .ok (.tuple #[zTold, .bool false]) w := by kernel_rfl
theorem noTold_Acked (v : Value) (w : World) : (Instr.typeAssert (.iface 114 v) 20 109 true).run Tryz.prog w = .ok (.tuple #[zTold, .bool false]) w := by kernel_rfl
theorem noTold_Int (v : Value) (w : World) : (Instr.typeAssert (.iface 3 v) 20 109 true).run Tryz.prog w = .ok (.tuple #[zTold, .bool false]) w := by kernel_rfl
theorem isStored (v : Value) (w : World) : (Instr.typeAssert (.iface 111 v) 20 111 true).run Tryz.prog w = .ok (.tuple #[v, .bool true]) w := by kernel_rfl
theorem noStored_nil (w : World) : (Instr.typeAssert .nilIface 20 111 true).run Tryz.prog w = .ok (.tuple #[zStored, .bool false]) w := by kernel_rfl
theorem noStored_Spans (v : Value) (w : World) : (Instr.typeAssert (.iface 102 v) 20 111 true).run Tryz.prog w = .ok (.tuple #[zStored, .bool false]) w := by kernel_rfl
theorem noStored_Members (v : Value) (w : World) : (Instr.typeAssert (.iface 71 v) 20 111 true).run Tryz.prog w = .ok (.tuple #[zStored, .bool false]) w := by kernel_rfl
theorem noStored_Ask (v : Value) (w : World) : (Instr.typeAssert (.iface 105 v) 20 111 true).run Tryz.prog w = .ok (.tuple #[zStored, .bool false]) w := by kernel_rfl
theorem noStored_Reply (v : Value) (w : World) : (Instr.typeAssert (.iface 107 v) 20 111 true).run Tryz.prog w = .ok (.tuple #[zStored, .bool false]) w := by kernel_rfl
theorem noStored_Told (v : Value) (w : World) : (Instr.typeAssert (.iface 109 v) 20 111 true).run Tryz.prog w = .ok (.tuple #[zStored, .bool false]) w := by kernel_rfl
theorem noStored_Acked (v : Value) (w : World) : (Instr.typeAssert (.iface 114 v) 20 111 true).run Tryz.prog w = .ok (.tuple #[zStored, .bool false]) w := by kernel_rfl
theorem noStored_Int (v : Value) (w : World) : (Instr.typeAssert (.iface 3 v) 20 111 true).run Tryz.prog w = .ok (.tuple #[zStored, .bool false]) w := by kernel_rfl
theorem isAcked (v : Value) (w : World) : (Instr.typeAssert (.iface 114 v) 20 114 true).run Tryz.prog w = .ok (.tuple #[v, .bool true]) w := by kernel_rfl
theorem noAcked_nil (w : World) : (Instr.typeAssert .nilIface 20 114 true).run Tryz.prog w = .ok (.tuple #[zAcked, .bool false]) w := by kernel_rfl
theorem noAcked_Spans (v : Value) (w : World) : (Instr.typeAssert (.iface 102 v) 20 114 true).run Tryz.prog w = .ok (.tuple #[zAcked, .bool false]) w := by kernel_rfl
theorem noAcked_Members (v : Value) (w : World) : (Instr.typeAssert (.iface 71 v) 20 114 true).run Tryz.prog w = .ok (.tuple #[zAcked, .bool false]) w := by kernel_rfl
theorem noAcked_Ask (v : Value) (w : World) : (Instr.typeAssert (.iface 105 v) 20 114 true).run Tryz.prog w = .ok (.tuple #[zAcked, .bool false]) w := by kernel_rfl
theorem noAcked_Reply (v : Value) (w : World) : (Instr.typeAssert (.iface 107 v) 20 114 true).run Tryz.prog w = .ok (.tuple #[zAcked, .bool false]) w := by kernel_rfl
theorem noAcked_Told (v : Value) (w : World) : (Instr.typeAssert (.iface 109 v) 20 114 true).run Tryz.prog w = .ok (.tuple #[zAcked, .bool false]) w := by kernel_rfl
theorem noAcked_Stored (v : Value) (w : World) : (Instr.typeAssert (.iface 111 v) 20 114 true).run Tryz.prog w = .ok (.tuple #[zAcked, .bool false]) w := by kernel_rfl
theorem noAcked_Int (v : Value) (w : World) : (Instr.typeAssert (.iface 3 v) 20 114 true).run Tryz.prog w = .ok (.tuple #[zAcked, .bool false]) w := by kernel_rfl
end Go.Proofs.YtnpbokbfkdncmaaGreat
