/-
  A slice of bytes that reads as a list, whoever made it; a row of bytes of the call's own; appending to it.
-/
import Derived.Test.YtlkpofhfkhdheaaGreatDoorRows
import Derived.Test.YtlkpofhfkhdheaaGreatDoorApp
namespace Go.Proofs.YtlkpofhfkhdheaaGreatDoor
open Go.RowKit

/-- The slice with this place, length and room reads as the bytes l. -/
structure Sl (w : World) (A : Option Addr) (n c : Nat) (l : List UInt8) : Prop where
  holds : Holds w A (bytes l)
  len : l.length = n
  cap : n ≤ c
  max : c ≤ 9223372036854775807
  nil : A = none → c = 0

theorem Sl.none (w : World) : Sl w none 0 0 [] := ⟨Holds.nil _ _, rfl, Nat.le_refl _, by omega, fun _ => rfl⟩
theorem Sl.below {w w' : World} {A : Option Addr} {n c : Nat} {l : List UInt8} (h : Sl w A n c l) (hb : Below w.heap.size w w') : Sl w' A n c l :=
  ⟨h.holds.below hb, h.len, h.cap, h.max, h.nil⟩
theorem Sl.keep {w w' : World} {A : Option Addr} {n c : Nat} {l : List UInt8} (h : Sl w A n c l) (hk : ∀ p : Addr, p.block < w.heap.size → w'.cell? p = w.cell? p) : Sl w' A n c l :=
  ⟨h.holds.keep hk, h.len, h.cap, h.max, h.nil⟩
theorem Sl.drew {w : World} {A : Option Addr} {n c : Nat} {l : List UInt8} (h : Sl w A n c l) (k : Nat) : Sl (w.drewN k) A n c l :=
  h.keep fun _ _ => rfl
theorem Sl.le {w : World} {A : Option Addr} {n c : Nat} {l : List UInt8} (h : Sl w A n c l) : n ≤ 9223372036854775807 := Nat.le_trans h.cap h.max

/-- The place of s[m:], as the model has it. -/
def cutAt (A : Option Addr) (c m : Nat) : Option Addr := if c = m then A else A.map fun x => x.add m
theorem Sl.from_ {w : World} {A : Option Addr} {n c : Nat} {l : List UInt8} (h : Sl w A n c l) (m : Nat) (hm : m ≤ n) : Sl w (cutAt A c m) (n - m) (c - m) (l.drop m) := by
  refine ⟨?_, by rw [List.length_drop, h.len], by have := h.cap; omega, by have := h.max; omega, ?_⟩
  · have := h.holds.drop' m c (by rw [bytes_length, h.len]; exact h.cap)
    rwa [bytes_drop] at this
  · intro e
    unfold cutAt at e
    split at e
    · omega
    · rcases A with _ | a
      · have := h.nil rfl; omega
      · cases e
theorem Sl.upto {w : World} {A : Option Addr} {n c : Nat} {l : List UInt8} (h : Sl w A n c l) (m : Nat) (hm : m ≤ n) : Sl w A m c (l.take m) := by
  refine ⟨?_, by rw [List.length_take, h.len]; omega, by have := h.cap; omega, h.max, h.nil⟩
  rw [← bytes_take]
  exact h.holds.take m
/-- The room cut off as well (three numbers). -/
theorem Sl.tight {w : World} {A : Option Addr} {n c : Nat} {l : List UInt8} (h : Sl w A n c l) (c' : Nat) (h1 : n ≤ c') (h2 : c' ≤ c) : Sl w A n c' l :=
  ⟨h.holds, h.len, h1, by have := h.max; omega, fun e => by have := h.nil e; omega⟩

theorem Sl.at_ {w : World} {A A' : Option Addr} {n n' c c' : Nat} {l l' : List UInt8} (h : Sl w A n c l) (e1 : A = A') (e2 : n = n') (e3 : c = c') (e4 : l = l') : Sl w A' n' c' l' := by subst e1 e2 e3 e4; exact h
theorem cutAt_same {A : Option Addr} {c m : Nat} (h : c = m) : cutAt A c m = A := if_pos h
theorem cutAt_add {A : Option Addr} {c m : Nat} (h : ¬ c = m) : cutAt A c m = A.map fun x => x.add m := if_neg h
/-- .. as the walk writes the place where the number is not 0. -/
theorem cutAt_off {A : Option Addr} {c m k : Nat} (h : ¬ c = m) (h0 : ¬ m = 0) (hk : m = k) : cutAt A c m = A.map fun x => { block := x.block, off := x.off + k } := by
  subst hk
  rw [cutAt_add h]
  congr 1
  funext x
  unfold Addr.add
  rw [if_neg h0]

/-- A row of bytes of the call's own, from block B on. -/
def Own (B : Nat) (w : World) (A : Option Addr) (n c : Nat) (l : List UInt8) : Prop := w.ownsRow B 5 1 (.slice A n c) n (bytes l)
theorem Own.sl {B : Nat} {w : World} {A : Option Addr} {n c : Nat} {l : List UInt8} (h : Own B w A n c l) : Sl w A n c l := by
  have h' := h
  obtain ⟨hx, ⟨e, rfl⟩ | ⟨g, cap, cur, e, hg, hh, hnc, hcm, hs, hc⟩⟩ := h'
  · injection e with a b c
    subst a
    subst c
    exact ⟨own_holds h, by rw [← bytes_length, hx], Nat.le_refl _, by omega, fun _ => rfl⟩
  · injection e with a b c
    subst a c
    unfold maxLen at hcm
    exact ⟨own_holds h, by rw [← bytes_length, hx]; omega, hnc, by omega, fun e => by cases e⟩
theorem Own.none (B : Nat) (w : World) : Own B w none 0 0 [] := World.ownsRow_nil w B _ _
/-- What is below a base is as it was, and what is from it on stays its own from any lower base. -/
theorem Own.mono {B B' : Nat} {w : World} {A : Option Addr} {n c : Nat} {l : List UInt8} (h : Own B w A n c l) (hB : B' ≤ B) : Own B' w A n c l := by
  obtain ⟨hx, h | ⟨g, cap, cur, e, hg, r⟩⟩ := h
  · exact ⟨hx, .inl h⟩
  · exact ⟨hx, .inr ⟨g, cap, cur, e, by omega, r⟩⟩
theorem Own.alloc {B : Nat} {w : World} {A : Option Addr} {n c : Nat} {l : List UInt8} (h : Own B w A n c l) (o : Obj) : Own B (w.alloc o) A n c l := World.ownsRow.alloc h o
theorem Own.drew {B : Nat} {w : World} {A : Option Addr} {n c : Nat} {l : List UInt8} (h : Own B w A n c l) : Own B w.drew A n c l := h
theorem Own.at_ {B : Nat} {w : World} {A : Option Addr} {n n' c : Nat} {l l' : List UInt8} (h : Own B w A n c l) (e1 : n = n') (e2 : l = l') : Own B w A n' c l' := by subst e1 e2; exact h
/-- .. and kept where a later part changes nothing that was there. -/
theorem Own.later {B : Nat} {w w' : World} {A : Option Addr} {n c : Nat} {l : List UInt8} (h : Own B w A n c l) (hb : Below w.heap.size w w') : Own B w' A n c l := by
  obtain ⟨hx, h | ⟨g, cap, cur, e, hg, hh, r⟩⟩ := h
  · exact ⟨hx, .inl h⟩
  · refine ⟨hx, .inr ⟨g, cap, cur, e, hg, ?_, r⟩⟩
    have hlt : g < w.heap.size := (Array.getElem?_eq_some_iff.1 hh).1
    rw [← hh]
    exact hb.block g hlt

theorem info_u8 : (Tryz.prog.info? 5).map (fun i => (i.zero, i.size, i.bytes)) = some (some (.int .u8 0), 1, 1) := by kernel_rfl

/-- A contract that leaves the world alone, told from the other side. -/
theorem quiet_flip {P : Program} {f : FuncId} {args : Array Value} {w : World} {v : Value} (h : Calls P f args w fun e w' => e = .returned v ∧ w = w') :
    Calls P f args w fun e w' => e = .returned v ∧ w' = w := h.mono fun _ _ ⟨h1, h2⟩ => ⟨h1, h2.symm⟩
/-- append(s, x..) on bytes, s a row of the call's own: with all that is known of the new world. -/
theorem wpList_bytesG {w : World} {ops : Array Oper} {rest : List Oper} {o : Oper} {a : Act} {Q : Exit → Act → World → Prop} (hgd : Region.wanted o (yielded ops a.tmps) = true) (s x : Operand)
    (ho : o.op = .call { callee := .builtin .append, args := #[s, x], argTypes := #[70, 70] })
    (B : Nat) (A0 : Option Addr) (n0 c0 : Nat) (l0 : List UInt8) (hs : a.eval s = .slice A0 n0 c0) (hown : Own B w A0 n0 c0 l0)
    (A : Option Addr) (m c : Nat) (l : List UInt8) (hx : a.eval x = .slice A m c) (hl : Sl w A m c l)
    (N : Nat) (ys : List UInt8) (hN : n0 + m = N) (hys : l0 ++ l = ys) (hroom : N ≤ 140737488355328) (hB : B ≤ w.heap.size)
    (h : ∀ A' c' w', Own B w' A' N c' ys → Below B w w' → w.grownBy w' (Value.slice A0 n0 c0).ownBlock →
      ((Value.slice A' N c').ownBlock = (Value.slice A0 n0 c0).ownBlock ∨ (Value.slice A' N c').ownBlock = some w.heap.size) → wpList Tryz.prog ops Q rest (a.put o.dst (.slice A' N c')) w') :
    wpList Tryz.prog ops Q (o :: rest) a w := by
  subst hys
  obtain ⟨i0, hi0, hz0, hz1, hz2⟩ := info_parts info_u8
  refine wpList_app w hgd s x 70 ho B 5 i0 _ 1 1 Tryz.underlying70 hi0 hz0 hz1 hz2 rfl (by omega) (.slice A0 n0 c0) n0 (bytes l0) hs hown A m c (bytes l) hx
    (by rw [bytes_length, hl.len]; omega) hl.holds hl.nil (bytes_one l) N (bytes (l0 ++ l)) hN (bytes_append l0 l).symm (by unfold maxLen; omega) (by omega) hB ?_
  intro A' c' w' ho' hg hat
  exact h A' c' w' ho' ((Below.refl B w).grown hg hB (own_from hown)) hg hat
/-- append(s, x..) on bytes, s a row of the call's own. -/
theorem wpList_bytes {w : World} {ops : Array Oper} {rest : List Oper} {o : Oper} {a : Act} {Q : Exit → Act → World → Prop} (hgd : Region.wanted o (yielded ops a.tmps) = true) (s x : Operand)
    (ho : o.op = .call { callee := .builtin .append, args := #[s, x], argTypes := #[70, 70] })
    (B : Nat) (A0 : Option Addr) (n0 c0 : Nat) (l0 : List UInt8) (hs : a.eval s = .slice A0 n0 c0) (hown : Own B w A0 n0 c0 l0)
    (A : Option Addr) (m c : Nat) (l : List UInt8) (hx : a.eval x = .slice A m c) (hl : Sl w A m c l)
    (N : Nat) (ys : List UInt8) (hN : n0 + m = N) (hys : l0 ++ l = ys) (hroom : N ≤ 140737488355328) (hB : B ≤ w.heap.size)
    (h : ∀ A' c' w', Own B w' A' N c' ys → Below B w w' → wpList Tryz.prog ops Q rest (a.put o.dst (.slice A' N c')) w') :
    wpList Tryz.prog ops Q (o :: rest) a w := by
  exact wpList_bytesG hgd s x ho B A0 n0 c0 l0 hs hown A m c l hx hl N ys hN hys hroom hB (fun A' c' w' h1 h2 _ _ => h A' c' w' h1 h2)

/-- .. as one step of a region that draws its order. -/
theorem step_bytes {w : World} {ops : Array Oper} {o : Oper} {a : Act} {K : Act → World → Prop} {Q : Exit → Act → World → Prop} {E : Prop} (hgd : Region.wanted o (yielded ops a.tmps) = true) (s x : Operand)
    (ho : o.op = .call { callee := .builtin .append, args := #[s, x], argTypes := #[70, 70] })
    (B : Nat) (A0 : Option Addr) (n0 c0 : Nat) (l0 : List UInt8) (hs : a.eval s = .slice A0 n0 c0) (hown : Own B w A0 n0 c0 l0)
    (A : Option Addr) (m c : Nat) (l : List UInt8) (hx : a.eval x = .slice A m c) (hl : Sl w A m c l)
    (N : Nat) (ys : List UInt8) (hN : n0 + m = N) (hys : l0 ++ l = ys) (hroom : N ≤ 140737488355328) (hB : B ≤ w.heap.size)
    (h : ∀ A' c' w', Own B w' A' N c' ys → Below B w w' → K (a.put o.dst (.slice A' N c')) w') :
    if Region.wanted o (yielded ops a.tmps) = true then Oper.wp Tryz.prog o a w K Q else E := by
  subst hys
  rw [if_pos hgd]
  obtain ⟨i0, hi0, hz0, hz1, hz2⟩ := info_parts info_u8
  obtain ⟨A', c', w', hrun, h2, h3, _⟩ := run_app (P := Tryz.prog) w B 70 o.type 5 i0 _ 1 1 Tryz.underlying70 hi0 hz0 hz1 hz2 rfl (by omega) (.slice A0 n0 c0) n0 (bytes l0) hown A m c (bytes l)
    (by rw [bytes_length, hl.len]; omega) hl.holds hl.nil (bytes_one l) N (bytes (l0 ++ l)) hN (bytes_append l0 l).symm (by unfold maxLen; omega) (by omega) hB
  unfold Oper.wp execOp
  simp only [ho, resolve, invoke, builtin, Sem.run_bind, Sem.run_pure, Result.andThen_ok, List.map_toArray, List.map_cons, List.map_nil, hs, hx, hrun]
  exact h A' c' w' h2 ((Below.refl B w).grown h3 hB (own_from hown))
/-- make([]byte, 0, N) -/
theorem wpList_makeBytes {w : World} {ops : Array Oper} {rest : List Oper} {o : Oper} {a : Act} {Q : Exit → Act → World → Prop} (hg : o.guard = .none) (l c : Operand)
    (ho : o.op = Op.makeSlice 70 l c) (C : Int) (N : Nat) (hl : a.eval l = .int .i64 0) (hc : a.eval c = .int .i64 C) (hC : C = (N : Int)) (hN : N ≤ 140737488355328)
    (h : ∀ A' c' w', Own w.heap.size w' A' 0 c' [] → Below w.heap.size w w' → wpList Tryz.prog ops Q rest (a.put o.dst (.slice A' 0 c')) w') :
    wpList Tryz.prog ops Q (o :: rest) a w := by
  obtain ⟨i0, hi0, hz0, hz1, hz2⟩ := info_parts info_u8
  refine wpList_make_own w hg l c 70 ho w.heap.size 5 i0 (.int .u8 0) 1 Tryz.underlying70 hi0 hz0 hz1 .i64 .i64 C N hl hc hC (by rw [hz2]; omega) (by unfold maxLen; omega) (Nat.le_refl _) ?_
  intro w1 h1 hg1
  exact h _ _ _ h1 ((Below.refl _ _).grown hg1 (Nat.le_refl _) (fun k hk => by cases hk))

/-- A list written out, in a block of its own. -/
theorem own_lit (w : World) (l : List UInt8) (cs : Array Value) (h : cs.toList = bytes l) (n : Nat) (hn : l.length = n) (hm : n ≤ 9223372036854775807) (B : Nat) (hB : B ≤ w.heap.size) :
    Own B (w.alloc (.cells cs 5)) (some ⟨w.heap.size, 0, Option.none⟩) n n l := by
  refine ⟨by rw [bytes_length]; omega, .inr ⟨w.heap.size, n, cs, rfl, hB, heap_alloc_new w _, Nat.le_refl _, by unfold maxLen; omega, ?_, ?_⟩⟩
  · rw [← Array.length_toList, h, bytes_length]; omega
  · rw [h, List.take_of_length_le (by rw [bytes_length]; omega)]
/-- .. whatever the block is marked with (a constant's bytes). -/
theorem sl_lit (w : World) (l : List UInt8) (cs : Array Value) (T : TypeId) (mk : Nat × Nat) (h : cs.toList = bytes l) (n : Nat) (hn : l.length = n) (hm : n ≤ 9223372036854775807) :
    Sl (w.alloc (.cells cs T mk)) (some ⟨w.heap.size, 0, Option.none⟩) n n l := by
  refine ⟨fun _ => ⟨w.heap.size, 0, rfl, fun k u hu => ?_⟩, hn, Nat.le_refl _, hm, fun e => by cases e⟩
  rw [World.cell?_alloc_mark, Nat.zero_add, ← hu, ← h, Array.getElem?_toList]
/-- What the shell tells of a slice of bytes that came in. -/
theorem sl_of_row {w : World} {a : Option Addr} {len cap : Nat} {zs : List Int}
    (h : (a = .none ∧ len = 0 ∧ cap = 0 ∧ zs = []) ∨
      ∃ x, a = some x ∧ len ≤ cap ∧ cap ≤ maxLen ∧ zs.length = cap ∧ (∀ i, i < zs.length → w.cell? (x.add i) = some (.int .u8 (zs.getD i 0))) ∧ ∀ n ∈ zs, (Lit.int .u8 n).wf = true) :
    ∃ l : List UInt8, Sl w a len cap l := by
  obtain ⟨l, h1, h2, h3, h4, h5⟩ := holds_of_row h
  unfold maxLen at h3
  exact ⟨l, h4, h1, h2, by omega, h5⟩
theorem Own.place {B : Nat} {w : World} {A : Option Addr} {n c : Nat} {l : List UInt8} (h : Own B w A n c l) (hn : 0 < n) : ∃ g, A = some ⟨g, 0, .none⟩ ∧ B ≤ g ∧ g < w.heap.size := by
  obtain ⟨g, h1, h2, h3, _⟩ := own_place h hn
  exact ⟨g, h1, h2, h3⟩
/-- A store into such a row. -/
theorem Own.store {B : Nat} {w : World} {g n c : Nat} {l : List UInt8} (h : Own B w (some ⟨g, 0, .none⟩) n c l) (hg : B ≤ g) (j : Nat) (hj : j < l.length) (x : UInt8) :
    w.cell? ⟨g, j, .none⟩ = some (.int .u8 (l[j].toNat : Int)) ∧ w.frozen? ⟨g, j, .none⟩ = false ∧
      Own B (w.setCell ⟨g, j, .none⟩ (.int .u8 (x.toNat : Int))) (some ⟨g, 0, .none⟩) n c (l.set j x) ∧ Below B w (w.setCell ⟨g, j, .none⟩ (.int .u8 (x.toNat : Int))) := by
  have hl : l.length = n := h.sl.len
  have h1 := World.ownsRow.cellAt h j (by omega)
  rw [bytes_get hj] at h1
  have h2 := World.ownsRow.stored h j (.int .u8 (x.toNat : Int))
  rw [bytes_set] at h2
  exact ⟨h1, World.ownsRow.frozenAt h j, h2.1, (Below.refl _ _).setCell (p := ⟨g, j, .none⟩) hg _⟩
end Go.Proofs.YtlkpofhfkhdheaaGreatDoor
