/-
  Operations on a node that came in: what the shell's reading tells of them.
-/
import Derived.Test.YtcmoelphjdehaaaZGH
import Derived.Deep.Matrix
import Derived.WideShapes
namespace Go.Proofs.Ytcmoelphjdehaaa
set_option linter.unusedSimpArgs false
set_option linter.unusedVariables false
open Go.RowKit Ru Go.ChangeShapes Go.WideShapes
namespace Gs
set_option linter.unusedSimpArgs false
set_option linter.unusedVariables false
/-- An operation: its kind, from whom, when, what is told, the pick. -/
structure OpD where
  kind : Int
  frm : Nat
  now : Nat
  l : List MemberD
  pick : Nat
structure OpD.Wf (o : OpD) : Prop where
  frm : o.frm < 18446744073709551616
  now : o.now < 18446744073709551616
  pick : o.pick < 18446744073709551616
  l : ∀ m ∈ o.l, m.Wf
structure OpAt (w : World) (g off : Nat) (o : OpD) (A : Option Addr) (c : Nat) : Prop where
  c0 : w.cell? ⟨g, off, none⟩ = some (.int .i64 o.kind)
  c1 : w.cell? ⟨g, off + 1, none⟩ = some (.int .u64 (o.frm : Nat))
  c2 : w.cell? ⟨g, off + 2, none⟩ = some (.int .u64 (o.now : Nat))
  c3 : w.cell? ⟨g, off + 3, none⟩ = some (.slice A o.l.length c)
  c4 : w.cell? ⟨g, off + 4, none⟩ = some (.int .u64 (o.pick : Nat))
  row : MemRow w A o.l.length c o.l
theorem OpAt.below {w w' : World} {g off : Nat} {o : OpD} {A : Option Addr} {c : Nat} (h : OpAt w g off o A c) (hb : Below w.heap.size w w') : OpAt w' g off o A c := by
  have hl := lt_of_cell h.c0
  have k : ∀ i, w'.cell? ⟨g, i, none⟩ = w.cell? ⟨g, i, none⟩ := fun i => hb.cell (p := ⟨g, i, none⟩) hl
  exact ⟨(k _).trans h.c0, (k _).trans h.c1, (k _).trans h.c2, (k _).trans h.c3, (k _).trans h.c4, h.row.below hb⟩
structure OpRow (w : World) (A : Option Addr) (n c : Nat) (l : List OpD) : Prop where
  holds : l ≠ [] → ∃ g off, A = some ⟨g, off, none⟩ ∧ ∀ k (hk : k < l.length), ∃ B c, OpAt w g (off + k * 5) l[k] B c
  len : l.length = n
  cap : n ≤ c
  max : c ≤ 9223372036854775807
  nil : A = none → c = 0
theorem OpRow.below {w w' : World} {A : Option Addr} {n c : Nat} {l : List OpD} (h : OpRow w A n c l) (hb : Below w.heap.size w w') : OpRow w' A n c l := by
  refine ⟨fun hne => ?_, h.len, h.cap, h.max, h.nil⟩
  obtain ⟨g, off, e, hk⟩ := h.holds hne
  refine ⟨g, off, e, fun k hkl => ?_⟩
  obtain ⟨Ab, cb, ho⟩ := hk k hkl
  exact ⟨Ab, cb, ho.below hb⟩
theorem OpRow.at_ {w : World} {A : Option Addr} {n c : Nat} {l : List OpD} (h : OpRow w A n c l) {k : Nat} (hk : k < l.length) : ∃ g off B c', A = some ⟨g, off, none⟩ ∧ OpAt w g (off + k * 5) l[k] B c' := by
  obtain ⟨g, off, e, h1⟩ := h.holds (by rintro rfl; simp at hk)
  obtain ⟨Ab, cb, ho⟩ := h1 k hk
  exact ⟨g, off, Ab, cb, e, ho⟩
/-- What operations that came in are known to be. -/
def OpsV (w : World) (v : Value) : Prop := ∃ A n c l, v = .slice A n c ∧ OpRow w A n c l ∧ ∀ o ∈ l, o.Wf
theorem cells_op : Try.prog.cellsOf 80 = 5 := by kernel_rfl
theorem cells_i : Try.prog.cellsOf 3 = 1 := by kernel_rfl
theorem cells_u : Try.prog.cellsOf 60 = 1 := by kernel_rfl
theorem cells_ms : Try.prog.cellsOf 77 = 1 := by kernel_rfl
theorem five_cells {cs : List Value} (h : cs.length = 5) : ∃ a b c d e, cs = [a, b, c, d, e] := by
  match cs, h with
  | [a, b, c, d, e], _ => exact ⟨a, b, c, d, e, rfl⟩
theorem num_of {n : Int} (h : (Lit.int .u64 n).wf = true) : ∃ c : Nat, n = (c : Int) ∧ c < 18446744073709551616 := by
  have h1 : 0 ≤ n ∧ n ≤ 18446744073709551615 := by simpa [Lit.wf, IntKind.min, IntKind.max, IntKind.bits, IntKind.signed] using h
  exact ⟨n.toNat, by omega, by omega⟩
section
variable {H : Type} {enc : TypeId × Value → H} {w : World} {base : Nat} {held : Bool} {fuel : Nat}
set_option maxRecDepth 100000 in
theorem op_cells {cs : List Value} {x : DataW H × List MemPlace} (h : DataW.trod enc Try.prog w base (fun _ => true) held fuel 80 cs = some x) :
    ∃ (o : OpD) (A : Option Addr) (c : Nat), o.Wf ∧ cs = [.int .i64 o.kind, .int .u64 (o.frm : Nat), .int .u64 (o.now : Nat), .slice A o.l.length c, .int .u64 (o.pick : Nat)] ∧ MemRow w A o.l.length c o.l := by
  obtain ⟨xs, n, _, _, hlen, hxl, hf⟩ := DataW.trod_struct Try.underlying80 h
  rw [cells_op] at hlen
  obtain ⟨q0, q1, q2, q3, q4, rfl⟩ := five_cells hlen
  have hxl' : xs.length = 5 := hxl
  have h0 : DataW.trod enc Try.prog w base (fun _ => true) held n 3 (([q0, q1, q2, q3, q4].drop 0).take (Try.prog.cellsOf 3)) = xs[0]? := hf 0 _ rfl
  have h1 : DataW.trod enc Try.prog w base (fun _ => true) held n 60 (([q0, q1, q2, q3, q4].drop 1).take (Try.prog.cellsOf 60)) = xs[1]? := hf 1 _ rfl
  have h2 : DataW.trod enc Try.prog w base (fun _ => true) held n 60 (([q0, q1, q2, q3, q4].drop 2).take (Try.prog.cellsOf 60)) = xs[2]? := hf 2 _ rfl
  have h3 : DataW.trod enc Try.prog w base (fun _ => true) held n 77 (([q0, q1, q2, q3, q4].drop 3).take (Try.prog.cellsOf 77)) = xs[3]? := hf 3 _ rfl
  have h4 : DataW.trod enc Try.prog w base (fun _ => true) held n 60 (([q0, q1, q2, q3, q4].drop 4).take (Try.prog.cellsOf 60)) = xs[4]? := hf 4 _ rfl
  clear hf
  rw [cells_i] at h0
  rw [cells_u] at h1 h2 h4
  rw [cells_ms] at h3
  rw [List.getElem?_eq_getElem (by omega)] at h0 h1 h2 h3 h4
  obtain ⟨n0, e0, _, w0⟩ := DataW.trod_int Try.underlying3 h0
  obtain ⟨n1, e1, _, w1⟩ := DataW.trod_int Try.underlying60 h1
  obtain ⟨n2, e2, _, w2⟩ := DataW.trod_int Try.underlying60 h2
  obtain ⟨A3, m3, c3, l3, e3, s3, w3⟩ := members_field h3
  obtain ⟨n4, e4, _, w4⟩ := DataW.trod_int Try.underlying60 h4
  obtain ⟨k1, rfl, i1⟩ := num_of w1
  obtain ⟨k2, rfl, i2⟩ := num_of w2
  obtain ⟨k4, rfl, i4⟩ := num_of w4
  simp at e0 e1 e2 e3 e4
  obtain rfl := s3.len
  exact ⟨⟨n0, k1, k2, l3, k4⟩, A3, c3, ⟨i1, i2, i4, w3⟩, by rw [e0, e1, e2, e3, e4], s3⟩
set_option maxRecDepth 100000 in
theorem open_opsV {v : Value} {d : DataW H} {p : List MemPlace} {x : Reach} {r : Nat}
    (hv : Value.okWide Try.prog w x r 72 v) (h : DataW.Trod enc Try.prog w base (fun _ => true) held 72 v d p) : OpsV w v := by
  obtain ⟨a0, len0, cap0, rfl⟩ := okWide_slice Try.underlying72 hv
  obtain ⟨fuel, hf⟩ := h
  rcases Go.Deep.open_slice Try.underlying72 hf with ⟨hcs, _⟩ | ⟨a, len, cap, m, n, D, Pl, hcs, _, h1, h2, hm, _, h3⟩
  · simp [Value.cells] at hcs
    obtain ⟨rfl, rfl, rfl⟩ := hcs
    exact ⟨_, _, _, [], rfl, ⟨fun h => absurd rfl h, rfl, Nat.le_refl _, by omega, fun _ => rfl⟩, by simp⟩
  · simp [Value.cells] at hcs
    obtain ⟨rfl, rfl, rfl⟩ := hcs
    simp only [if_true] at hm
    subst hm
    have hone : ∀ k, k < m → ∃ o : OpD, o.Wf ∧ ∃ (A : Option Addr) (c : Nat), (∀ j u, ([.int .i64 o.kind, .int .u64 (o.frm : Nat), .int .u64 (o.now : Nat), .slice A o.l.length c, .int .u64 (o.pick : Nat)] : List Value)[j]? = some u → w.cell? ((a.add (k * 5)).add j) = some u) ∧ MemRow w A o.l.length c o.l := fun k hk => by
      obtain ⟨cs', g1, g2⟩ := h3 k hk
      rw [cells_op] at g1
      obtain ⟨o, Ab, cb, hw, e, s1⟩ := op_cells g2
      obtain ⟨_, _, hat⟩ := World.cells?_some g1
      refine ⟨o, hw, Ab, cb, fun j u hu => ?_, s1⟩
      have hj : j < 5 := (List.getElem?_eq_some_iff.1 hu).1
      rw [hat j hj, e]
      exact hu
    haveI : Inhabited OpD := ⟨⟨0, 0, 0, [], 0⟩⟩
    obtain ⟨f, hf'⟩ := Go.Deep.choose_lt hone
    refine ⟨_, _, _, (List.range len0).map f, rfl, ⟨fun hne => ?_, by simp, h1, by unfold maxLen at h2; omega, fun e => by cases e⟩, ?_⟩
    · have hpos : 0 < len0 := by
        rcases Nat.eq_zero_or_pos len0 with e | e
        · subst e; exact absurd rfl hne
        · exact e
      obtain ⟨b, off, spot⟩ := a
      obtain ⟨_, _, _, h0, _⟩ := hf' 0 (by omega)
      have h0 := h0 0 _ rfl
      have hs : spot = none := by simpa [Addr.add] using World.cell?_spot h0
      subst hs
      refine ⟨b, off, rfl, fun k hk => ?_⟩
      have hk' : k < len0 := by simpa using hk
      rw [List.getElem_map, List.getElem_range]
      obtain ⟨_, Ab, cb, hc, s1⟩ := hf' k (by omega)
      have hc' : ∀ j u, ([.int .i64 (f k).kind, .int .u64 ((f k).frm : Nat), .int .u64 ((f k).now : Nat), .slice Ab (f k).l.length cb, .int .u64 ((f k).pick : Nat)] : List Value)[j]? = some u → w.cell? ⟨b, off + k * 5 + j, none⟩ = some u := fun j u hu => by
        have := hc j u hu
        rwa [add_plain, add_plain] at this
      exact ⟨Ab, cb, hc' 0 _ rfl, hc' 1 _ rfl, hc' 2 _ rfl, hc' 3 _ rfl, hc' 4 _ rfl, s1⟩
    · intro s hs
      obtain ⟨k, hk, rfl⟩ := List.mem_map.1 hs
      exact (hf' k (by have := List.mem_range.1 hk; omega)).1
end
end Gs
namespace Vw
set_option linter.unusedSimpArgs false
set_option linter.unusedVariables false
section
variable {H : Type} {enc : TypeId × Value → H} {w : World} {base : Nat} {held : Bool}
/-- What a list of members that came in is known to be. -/
def MemsV (w : World) (v : Value) : Prop := ∃ A n c ms, v = .slice A n c ∧ MemRow w A n c ms ∧ ∀ m ∈ ms, m.Wf
set_option maxRecDepth 100000 in
theorem open_memsV {v : Value} {d : DataW H} {p : List MemPlace} {x : Reach} {r : Nat}
    (hv : Value.okWide Try.prog w x r 77 v) (h : DataW.Trod enc Try.prog w base (fun _ => true) held 77 v d p) : MemsV w v := by
  obtain ⟨a0, len0, cap0, rfl⟩ := okWide_slice Try.underlying77 hv
  obtain ⟨fuel, hf⟩ := h
  obtain ⟨A, n, c, ms, hcs, hr, hw⟩ := members_field hf
  simp [Value.cells] at hcs
  obtain ⟨rfl, rfl, rfl⟩ := hcs
  exact ⟨_, _, _, ms, rfl, hr, hw⟩
end
end Vw
end Go.Proofs.Ytcmoelphjdehaaa
