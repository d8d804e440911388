/-
  Rows of spans of the call's own: appending to them, and what is kept beside.
-/
import Derived.Test.YtlkpofhfkhdheaaGreatDoorSpanRow
import Derived.Test.YtlkpofhfkhdheaaGreatDoorSl
namespace Go.Proofs.YtlkpofhfkhdheaaGreatDoor
open Go.RowKit Ru

theorem info_span : (Tryz.prog.info? 46).map (fun i => (i.zero, i.size, i.bytes)) =
    some (some (.agg #[.int .u64 0, .int .u64 0, .int .u64 0, .int .u64 0, .int .u64 0, .string ⟨#[]⟩, .string ⟨#[]⟩, .bool false]), 8, 80) := by kernel_rfl
theorem cellsAll_one (ss : List SpanD) : ∀ u ∈ cellsAll ss, u.oneCell' = true := by
  intro u hu
  obtain ⟨s, _, h⟩ := List.mem_flatMap.1 hu
  simp [cellsOf] at h
  rcases h with rfl | rfl | rfl | rfl | rfl | rfl | rfl | rfl
  all_goals rfl
theorem OwnSp.none (B : Nat) (w : World) : OwnSp B w .none 0 0 [] := World.ownsRow_nil w B _ _
theorem OwnSp.from_ {B : Nat} {w : World} {A : Option Addr} {n c : Nat} {ss : List SpanD} (h : OwnSp B w A n c ss) : ∀ k, (Value.slice A n c).ownBlock = some k → B ≤ k ∧ k < w.heap.size := World.ownsRow.lt h
theorem OwnSp.later {B : Nat} {w w' : World} {A : Option Addr} {n c : Nat} {ss : List SpanD} (h : OwnSp B w A n c ss) (hb : Below w.heap.size w w') : OwnSp B w' A n c ss := by
  obtain ⟨hx, h | ⟨g, cap, cur, e', hg, hh, r⟩⟩ := h
  · exact ⟨hx, .inl h⟩
  · refine ⟨hx, .inr ⟨g, cap, cur, e', hg, ?_, r⟩⟩
    have hlt : g < w.heap.size := (Array.getElem?_eq_some_iff.1 hh).1
    rw [← hh]
    exact hb.block g hlt
theorem OwnSp.at_ {B : Nat} {w : World} {A : Option Addr} {n n' c : Nat} {l l' : List SpanD} (h : OwnSp B w A n c l) (e1 : n = n') (e2 : l = l') : OwnSp B w A n' c l' := by subst e1 e2; exact h
/-- A row of bytes that lies behind block B is kept where a row that lies before it grows. -/
theorem Own.apart {B : Nat} {w w' : World} {A : Option Addr} {n c : Nat} {l : List UInt8} {row : Option Nat} (h : Own B w A n c l) (hg : w.grownBy w' row) (hr : ∀ k, row = some k → k < B) : Own B w' A n c l := by
  refine World.ownsRow.kept h hg ?_
  rcases hA : (Value.slice A n c).ownBlock with _ | k
  · exact .inl rfl
  · refine .inr fun e => ?_
    have h1 := (World.ownsRow.lt h k hA).1
    have h2 := hr k e.symm
    omega
/-- append(s, x..) on spans, s a row of the call's own. -/
theorem wpList_spans {w : World} {ops : Array Oper} {rest : List Oper} {o : Oper} {a : Act} {Q : Exit → Act → World → Prop} (hgd : Region.wanted o (yielded ops a.tmps) = true) (s x : Operand)
    (ho : o.op = .call { callee := .builtin .append, args := #[s, x], argTypes := #[34, 34] })
    (B : Nat) (A0 : Option Addr) (n0 c0 : Nat) (l0 : List SpanD) (hs : a.eval s = .slice A0 n0 c0) (hown : OwnSp B w A0 n0 c0 l0)
    (A : Option Addr) (m c : Nat) (l : List SpanD) (hx : a.eval x = .slice A m c) (hl : SpanRow w A m c l)
    (N : Nat) (ys : List SpanD) (hN : n0 + m = N) (hys : l0 ++ l = ys) (hroom : N ≤ 1000000000000) (hB : B ≤ w.heap.size)
    (h : ∀ A' c' w', OwnSp B w' A' N c' ys → Below B w w' → w.grownBy w' (Value.slice A0 n0 c0).ownBlock →
      ((Value.slice A' N c').ownBlock = (Value.slice A0 n0 c0).ownBlock ∨ (Value.slice A' N c').ownBlock = some w.heap.size) → wpList Tryz.prog ops Q rest (a.put o.dst (.slice A' N c')) w') :
    wpList Tryz.prog ops Q (o :: rest) a w := by
  subst hys
  obtain ⟨i0, hi0, hz0, hz1, hz2⟩ := info_parts info_span
  refine wpList_app w hgd s x 34 ho B 46 i0 _ 8 80 Tryz.underlying34 hi0 hz0 hz1 hz2 rfl (by omega) (.slice A0 n0 c0) n0 (cellsAll l0) hs hown A m c (cellsAll l) hx
    (by rw [cellsAll_length, hl.len]) hl.cells hl.nil (cellsAll_one l) N (cellsAll (l0 ++ l)) hN (cellsAll_append l0 l).symm (by unfold maxLen; omega) (by omega) hB ?_
  intro A' c' w' ho' hg hat
  exact h A' c' w' ho' ((Below.refl B w).grown hg hB (own_from hown)) hg hat
/-- A single span, laid in a block of its own. -/
theorem row_one (w : World) (s : SpanD) (T : TypeId) : SpanRow (w.alloc (.cells (spanCells s) T)) (some ⟨w.heap.size, 0, .none⟩) 1 1 [s] := by
  refine ⟨fun _ => ⟨w.heap.size, 0, rfl, fun k hk => ?_⟩, rfl, Nat.le_refl _, by omega, fun e => by cases e⟩
  obtain rfl : k = 0 := by simpa using hk
  have h : ∀ o, (w.alloc (.cells (spanCells s) T)).cell? ⟨w.heap.size, o, .none⟩ = (spanCells s)[o]? := fun o => by rw [World.cell?_alloc_mark]
  refine spanAt_of fun j u hu => ?_
  have hu' : (cellsOf s)[j]? = some u := hu
  rw [show 0 + 0 * 8 + j = j by omega, h, ← hu']
  simp [spanCells, cellsOf]

end Go.Proofs.YtlkpofhfkhdheaaGreatDoor
