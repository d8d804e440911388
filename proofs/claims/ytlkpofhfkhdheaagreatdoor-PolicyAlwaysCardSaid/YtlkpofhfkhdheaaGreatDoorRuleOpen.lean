/-
  A rule of the reference, and a slice of them, that came in: what the shell's reading tells of them.
-/
import Derived.Test.YtlkpofhfkhdheaaGreatDoorRuleRow
import Derived.Test.YtlkpofhfkhdheaaGreatDoorSpanOpen
namespace Go.Proofs.YtlkpofhfkhdheaaGreatDoor
open Go.RowKit Ru Go.ChangeShapes Go.WideShapes

theorem cells_rule : Tryz.prog.cellsOf 38 = 4 := by kernel_rfl
theorem four_cells {cs : List Value} (h : cs.length = 4) : ∃ a b c d, cs = [a, b, c, d] := by
  match cs, h with
  | [a, b, c, d], _ => exact ⟨a, b, c, d, rfl⟩

section
variable {H : Type} {enc : TypeId × Value → H} {w : World} {base : Nat} {spare : Nat → Bool} {held : Bool} {fuel : Nat}
theorem rule_cells {cs : List Value} {x : DataW H × List MemPlace} (h : DataW.trod enc Tryz.prog w base spare held fuel 38 cs = some x) : ∃ r : RuleD, r.Wf ∧ cs = rcells r := by
  obtain ⟨xs, n, _, _, hlen, hxl, hf⟩ := DataW.trod_struct Tryz.underlying38 h
  rw [cells_rule] at hlen
  obtain ⟨a, b, c, d, rfl⟩ := four_cells hlen
  have hxl' : xs.length = 4 := hxl
  have h0 : DataW.trod enc Tryz.prog w base spare held n 4 (([a, b, c, d].drop 0).take (Tryz.prog.cellsOf 4)) = xs[0]? := hf 0 _ rfl
  have h1 : DataW.trod enc Tryz.prog w base spare held n 9 (([a, b, c, d].drop 1).take (Tryz.prog.cellsOf 9)) = xs[1]? := hf 1 _ rfl
  have h2 : DataW.trod enc Tryz.prog w base spare held n 36 (([a, b, c, d].drop 2).take (Tryz.prog.cellsOf 36)) = xs[2]? := hf 2 _ rfl
  have h3 : DataW.trod enc Tryz.prog w base spare held n 9 (([a, b, c, d].drop 3).take (Tryz.prog.cellsOf 9)) = xs[3]? := hf 3 _ rfl
  rw [cells_bool] at h0
  rw [cells_string] at h1 h3
  rw [cells_u64] at h2
  rw [List.getElem?_eq_getElem (by omega)] at h0 h1 h2 h3
  obtain ⟨b0, e0, _⟩ := DataW.trod_bool Tryz.underlying4 h0
  obtain ⟨s1, e1, _, w1⟩ := DataW.trod_string Tryz.underlying9 h1
  obtain ⟨n2, e2, _, w2⟩ := DataW.trod_int Tryz.underlying36 h2
  obtain ⟨s3, e3, _, w3⟩ := DataW.trod_string Tryz.underlying9 h3
  obtain ⟨m2, rfl, g2⟩ := u64_of w2
  simp at e0 e1 e2 e3
  unfold maxLen at w1 w3
  exact ⟨⟨b0, s1, m2, s3⟩, ⟨g2, by omega, by omega⟩, by rw [e0, e1, e2, e3]; rfl⟩

/-- What a rule that came in is known to be. -/
def RuleV (_w : World) (v : Value) : Prop := ∃ r : RuleD, r.Wf ∧ v = ruleVal r
set_option maxRecDepth 100000 in
theorem open_ruleV {v : Value} {d : DataW H} {p : List MemPlace} {x : Reach} {r : Nat}
    (hv : Value.okWide Tryz.prog w x r 38 v) (h : DataW.Trod enc Tryz.prog w base spare held 38 v d p) : RuleV w v := by
  obtain ⟨cs, rfl, _⟩ := okWide_struct Tryz.underlying38 hv
  obtain ⟨fuel, hf⟩ := h
  obtain ⟨s, hs, hc⟩ := rule_cells hf
  refine ⟨s, hs, ?_⟩
  have : cs.toList = rcells s := by simpa [Value.cells] using hc
  have e : cs = (rcells s).toArray := by rw [← this]
  rw [e]
  rfl
/-- What a slice of rules that came in is known to be. -/
def RulesV (w : World) (v : Value) : Prop := ∃ A n c rs, v = .slice A n c ∧ RuleRow w A n c rs ∧ ∀ r ∈ rs, r.Wf
set_option maxRecDepth 100000 in
theorem open_rulesV {v : Value} {d : DataW H} {p : List MemPlace} {x : Reach} {r : Nat}
    (hv : Value.okWide Tryz.prog w x r 22 v) (h : DataW.Trod enc Tryz.prog w base (fun _ => true) held 22 v d p) : RulesV w v := by
  obtain ⟨a0, len0, cap0, rfl⟩ := okWide_slice Tryz.underlying22 hv
  obtain ⟨fuel, hf⟩ := h
  rcases Go.Deep.open_slice Tryz.underlying22 hf with ⟨hcs, _⟩ | ⟨a, len, cap, m, n, D, Pl, hcs, _, h1, h2, hm, _, h3⟩
  · simp [Value.cells] at hcs
    obtain ⟨rfl, rfl, rfl⟩ := hcs
    exact ⟨_, _, _, [], rfl, ⟨fun h => absurd rfl h, rfl, Nat.le_refl _, by omega, fun _ => rfl⟩, by simp⟩
  · simp [Value.cells] at hcs
    obtain ⟨rfl, rfl, rfl⟩ := hcs
    simp only [if_true] at hm
    subst hm
    have hone : ∀ k, k < m → ∃ s : RuleD, s.Wf ∧ ∀ j u, (rcells s)[j]? = some u → w.cell? ((a.add (k * 4)).add j) = some u := fun k hk => by
      obtain ⟨cs', g1, g2⟩ := h3 k hk
      rw [cells_rule] at g1
      obtain ⟨s, hs, rfl⟩ := rule_cells g2
      obtain ⟨_, _, hat⟩ := World.cells?_some g1
      refine ⟨s, hs, fun j u hu => ?_⟩
      have hj : j < 4 := (List.getElem?_eq_some_iff.1 hu).1
      rw [hat j hj]
      exact hu
    haveI : Inhabited RuleD := ⟨⟨false, ⟨#[]⟩, 0, ⟨#[]⟩⟩⟩
    obtain ⟨f, hf'⟩ := Go.Deep.choose_lt hone
    refine ⟨_, _, _, (List.range len0).map f, rfl, ⟨fun hne => ?_, by simp, h1, by unfold maxLen at h2; omega, fun e => by cases e⟩, ?_⟩
    · have hpos : 0 < len0 := by
        rcases Nat.eq_zero_or_pos len0 with e | e
        · subst e; exact absurd rfl hne
        · exact e
      obtain ⟨b, off, spot⟩ := a
      have h0 := (hf' 0 (by omega)).2 0 _ rfl
      have hs : spot = none := by simpa [Addr.add] using World.cell?_spot h0
      subst hs
      refine ⟨b, off, rfl, fun k hk => ruleAt_of fun j u hu => ?_⟩
      have hk' : k < len0 := by simpa using hk
      rw [List.getElem_map, List.getElem_range] at hu
      have h4 := (hf' k (by omega)).2 j u hu
      rwa [add_plain, add_plain] at h4
    · intro s hs
      obtain ⟨k, hk, rfl⟩ := List.mem_map.1 hs
      exact (hf' k (by have := List.mem_range.1 hk; omega)).1
end
end Go.Proofs.YtlkpofhfkhdheaaGreatDoor
