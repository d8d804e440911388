/-
  A span, and a slice of spans, that came in: what the shell's reading tells of them.
-/
import Derived.Test.YtlkpofhfkhdheaaGreatDoorSpanRow
import Derived.Deep.Slices
import Derived.OpenShut
namespace Go.Proofs.YtlkpofhfkhdheaaGreatDoor
open Go.RowKit Ru Go.ChangeShapes Go.WideShapes

theorem cells_u64 : Tryz.prog.cellsOf 36 = 1 := by kernel_rfl
theorem cells_string : Tryz.prog.cellsOf 9 = 1 := by kernel_rfl
theorem cells_bool : Tryz.prog.cellsOf 4 = 1 := by kernel_rfl
theorem cells_span : Tryz.prog.cellsOf 46 = 8 := by kernel_rfl
theorem u64_of {n : Int} (h : (Lit.int .u64 n).wf = true) : ∃ m : Nat, n = (m : Int) ∧ m < 18446744073709551616 := by
  have h1 : 0 ≤ n ∧ n ≤ 18446744073709551615 := by simpa [Lit.wf, IntKind.min, IntKind.max, IntKind.bits, IntKind.signed] using h
  exact ⟨n.toNat, by omega, by omega⟩
theorem eight_cells {cs : List Value} (h : cs.length = 8) : ∃ a b c d e f g i, cs = [a, b, c, d, e, f, g, i] := by
  match cs, h with
  | [a, b, c, d, e, f, g, i], _ => exact ⟨a, b, c, d, e, f, g, i, rfl⟩

section
variable {H : Type} {enc : TypeId × Value → H} {w : World} {base : Nat} {spare : Nat → Bool} {held : Bool} {fuel : Nat}
theorem span_cells {cs : List Value} {x : DataW H × List MemPlace} (h : DataW.trod enc Tryz.prog w base spare held fuel 46 cs = some x) : ∃ s : SpanD, s.Wf ∧ cs = cellsOf s := by
  obtain ⟨xs, n, _, _, hlen, hxl, hf⟩ := DataW.trod_struct Tryz.underlying46 h
  rw [cells_span] at hlen
  obtain ⟨a, b, c, d, e, f, g, i, rfl⟩ := eight_cells hlen
  have hxl' : xs.length = 8 := hxl
  have h0 : DataW.trod enc Tryz.prog w base spare held n 36 (([a, b, c, d, e, f, g, i].drop 0).take (Tryz.prog.cellsOf 36)) = xs[0]? := hf 0 _ rfl
  have h1 : DataW.trod enc Tryz.prog w base spare held n 36 (([a, b, c, d, e, f, g, i].drop 1).take (Tryz.prog.cellsOf 36)) = xs[1]? := hf 1 _ rfl
  have h2 : DataW.trod enc Tryz.prog w base spare held n 36 (([a, b, c, d, e, f, g, i].drop 2).take (Tryz.prog.cellsOf 36)) = xs[2]? := hf 2 _ rfl
  have h3 : DataW.trod enc Tryz.prog w base spare held n 36 (([a, b, c, d, e, f, g, i].drop 3).take (Tryz.prog.cellsOf 36)) = xs[3]? := hf 3 _ rfl
  have h4 : DataW.trod enc Tryz.prog w base spare held n 36 (([a, b, c, d, e, f, g, i].drop 4).take (Tryz.prog.cellsOf 36)) = xs[4]? := hf 4 _ rfl
  have h5 : DataW.trod enc Tryz.prog w base spare held n 9 (([a, b, c, d, e, f, g, i].drop 5).take (Tryz.prog.cellsOf 9)) = xs[5]? := hf 5 _ rfl
  have h6 : DataW.trod enc Tryz.prog w base spare held n 9 (([a, b, c, d, e, f, g, i].drop 6).take (Tryz.prog.cellsOf 9)) = xs[6]? := hf 6 _ rfl
  have h7 : DataW.trod enc Tryz.prog w base spare held n 4 (([a, b, c, d, e, f, g, i].drop 7).take (Tryz.prog.cellsOf 4)) = xs[7]? := hf 7 _ rfl
  rw [cells_u64] at h0 h1 h2 h3 h4
  rw [cells_string] at h5 h6
  rw [cells_bool] at h7
  rw [List.getElem?_eq_getElem (by omega)] at h0 h1 h2 h3 h4 h5 h6 h7
  obtain ⟨n0, e0, _, w0⟩ := DataW.trod_int Tryz.underlying36 h0
  obtain ⟨n1, e1, _, w1⟩ := DataW.trod_int Tryz.underlying36 h1
  obtain ⟨n2, e2, _, w2⟩ := DataW.trod_int Tryz.underlying36 h2
  obtain ⟨n3, e3, _, w3⟩ := DataW.trod_int Tryz.underlying36 h3
  obtain ⟨n4, e4, _, w4⟩ := DataW.trod_int Tryz.underlying36 h4
  obtain ⟨s5, e5, _, w5⟩ := DataW.trod_string Tryz.underlying9 h5
  obtain ⟨s6, e6, _, w6⟩ := DataW.trod_string Tryz.underlying9 h6
  obtain ⟨b7, e7, _⟩ := DataW.trod_bool Tryz.underlying4 h7
  obtain ⟨m0, rfl, g0⟩ := u64_of w0
  obtain ⟨m1, rfl, g1⟩ := u64_of w1
  obtain ⟨m2, rfl, g2⟩ := u64_of w2
  obtain ⟨m3, rfl, g3⟩ := u64_of w3
  obtain ⟨m4, rfl, g4⟩ := u64_of w4
  simp at e0 e1 e2 e3 e4 e5 e6 e7
  unfold maxLen at w5 w6
  exact ⟨⟨m0, m1, m2, m3, m4, s5, s6, b7⟩, ⟨g0, g1, g2, g3, g4, by omega, by omega⟩, by rw [e0, e1, e2, e3, e4, e5, e6, e7]; rfl⟩

/-- What a span that came in is known to be. -/
def SpanV (_w : World) (v : Value) : Prop := ∃ s : SpanD, s.Wf ∧ v = spanVal s
set_option maxRecDepth 100000 in
theorem open_spanV {v : Value} {d : DataW H} {p : List MemPlace} {x : Reach} {r : Nat}
    (hv : Value.okWide Tryz.prog w x r 46 v) (h : DataW.Trod enc Tryz.prog w base spare held 46 v d p) : SpanV w v := by
  obtain ⟨cs, rfl, _⟩ := okWide_struct Tryz.underlying46 hv
  obtain ⟨fuel, hf⟩ := h
  obtain ⟨s, hs, hc⟩ := span_cells hf
  refine ⟨s, hs, ?_⟩
  have : cs.toList = cellsOf s := by simpa [Value.cells] using hc
  have e : cs = (cellsOf s).toArray := by rw [← this]
  rw [e]
  rfl
/-- What a slice of spans that came in is known to be. -/
def SpansV (w : World) (v : Value) : Prop := ∃ A n c ss, v = .slice A n c ∧ SpanRow w A n c ss ∧ ∀ s ∈ ss, s.Wf
set_option maxRecDepth 100000 in
theorem open_spansV {v : Value} {d : DataW H} {p : List MemPlace} {x : Reach} {r : Nat}
    (hv : Value.okWide Tryz.prog w x r 34 v) (h : DataW.Trod enc Tryz.prog w base (fun _ => true) held 34 v d p) : SpansV w v := by
  obtain ⟨a0, len0, cap0, rfl⟩ := okWide_slice Tryz.underlying34 hv
  obtain ⟨fuel, hf⟩ := h
  rcases Go.Deep.open_slice Tryz.underlying34 hf with ⟨hcs, _⟩ | ⟨a, len, cap, m, n, D, Pl, hcs, _, h1, h2, hm, _, h3⟩
  · simp [Value.cells] at hcs
    obtain ⟨rfl, rfl, rfl⟩ := hcs
    exact ⟨_, _, _, [], rfl, ⟨fun h => absurd rfl h, rfl, Nat.le_refl _, by omega, fun _ => rfl⟩, by simp⟩
  · simp [Value.cells] at hcs
    obtain ⟨rfl, rfl, rfl⟩ := hcs
    simp only [if_true] at hm
    subst hm
    have hone : ∀ k, k < m → ∃ s : SpanD, s.Wf ∧ ∀ j u, (cellsOf s)[j]? = some u → w.cell? ((a.add (k * 8)).add j) = some u := fun k hk => by
      obtain ⟨cs', g1, g2⟩ := h3 k hk
      rw [cells_span] at g1
      obtain ⟨s, hs, rfl⟩ := span_cells g2
      obtain ⟨_, _, hat⟩ := World.cells?_some g1
      refine ⟨s, hs, fun j u hu => ?_⟩
      have hj : j < 8 := (List.getElem?_eq_some_iff.1 hu).1
      rw [hat j hj]
      exact hu
    haveI : Inhabited SpanD := ⟨SpanD.zero⟩
    obtain ⟨f, hf'⟩ := Go.Deep.choose_lt hone
    refine ⟨_, _, _, (List.range len0).map f, rfl, ⟨fun hne => ?_, by simp, h1, by unfold maxLen at h2; omega, fun e => by cases e⟩, ?_⟩
    · have hpos : 0 < len0 := by
        rcases Nat.eq_zero_or_pos len0 with e | e
        · subst e; exact absurd rfl hne
        · exact e
      obtain ⟨b, off, spot⟩ := a
      have h0 := (hf' 0 (by omega)).2 0 _ rfl
      have hs : spot = none := by simpa [Addr.add] using World.cell?_spot h0
      subst hs
      refine ⟨b, off, rfl, fun k hk => spanAt_of fun j u hu => ?_⟩
      have hk' : k < len0 := by simpa using hk
      rw [List.getElem_map, List.getElem_range] at hu
      have h4 := (hf' k (by omega)).2 j u hu
      rwa [add_plain, add_plain] at h4
    · intro s hs
      obtain ⟨k, hk, rfl⟩ := List.mem_map.1 hs
      exact (hf' k (by have := List.mem_range.1 hk; omega)).1
end
end Go.Proofs.YtlkpofhfkhdheaaGreatDoor
