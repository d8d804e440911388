/-
  The next ballot, of the program and of the document.
-/
import Derived.Test.YtgmeggilojcoeaaZGBC
import Derived.Lib.MinMax
import Derived.Deep.Slices
import Derived.Deep.DrawnRows
import Derived.OpenShut
import Derived.Laws.StructEq
import Derived.Lib.QuietBelow
namespace Go.Proofs.Ytgmeggilojcoeaa
set_option linter.unusedSimpArgs false
set_option linter.unusedVariables false
open Go.RowKit Rg
namespace Bl
set_option linter.unusedSimpArgs false
set_option linter.unusedVariables false
set_option maxRecDepth 20000 in
set_option maxHeartbeats 4000000 in
theorem next_any (s : BalD) (v d : Nat) (w : World) (hs : s.pos < 18446744073709551616) (hv : v < 18446744073709551616) : Calls Try.prog 39 #[ptVal s, .int .u64 (v : Nat), .int .u64 (d : Nat)] w (RetB w.heap.size w (.tuple #[ptVal (nextD s v d), .int .i64 (nextK s v d)])) := by
  have HB := hid_ (fun (x y : Value) => ((Below.refl w.heap.size w).alloc (Nat.le_refl _) (.cells #[.int .u64 (s.pos : Nat), .int .u64 (s.id : Nat)] 66)).alloc (by simp) (.cells #[x, y] 66))
  by_cases h0 : d = 0
  · subst h0
    have Hk := hid_ (show nextK s v 0 = 1 ∧ nextD s v 0 = ⟨0, 0⟩ from ⟨rfl, rfl⟩)
    rw [Hk.out.1, Hk.out.2]
    clear Hk
    go_enter Try.func39, Try.ntmps39
    go_wp2_with fail
    exact bodyPost_ret (v := .tuple #[ptVal ⟨0, 0⟩, .int .i64 1]) (by simp [results, Try.results39, go_sem]) rfl (retB_mk rfl (HB.out _ _))
  · have e1 : (d == 0) = false := by simpa using h0
    have e2 : ((d : Int) == 0) = false := by simp; omega
    by_cases hx : s.pos = 18446744073709551615 ∨ v = 18446744073709551615
    · have Hk := hid_ (show nextK s v d = 12 ∧ nextD s v d = ⟨0, 0⟩ by unfold nextK nextD; rw [if_neg h0, if_pos hx, if_neg h0, if_pos hx]; exact ⟨rfl, rfl⟩)
      rw [Hk.out.1, Hk.out.2]
      clear Hk
      by_cases hp : s.pos = 18446744073709551615
      · have f1 : (((s.pos : Nat) : Int) == 18446744073709551615) = true := by rw [beq_iff_eq]; omega
        have f2 : (s.pos == 18446744073709551615) = true := by rw [beq_iff_eq]; exact hp
        clear hp hx h0
        go_enter Try.func39, Try.ntmps39
        go_wp2_with fail
        exact bodyPost_ret (v := .tuple #[ptVal ⟨0, 0⟩, .int .i64 12]) (by simp [results, Try.results39, go_sem]) rfl (retB_mk rfl (HB.out _ _))
      · have f1 : (((s.pos : Nat) : Int) == 18446744073709551615) = false := by rw [beq_eq_false_iff_ne]; omega
        have f2 : (s.pos == 18446744073709551615) = false := by rw [beq_eq_false_iff_ne]; exact hp
        have f3 : (((v : Nat) : Int) == 18446744073709551615) = true := by rw [beq_iff_eq]; omega
        have f4 : (v == 18446744073709551615) = true := by rw [beq_iff_eq]; omega
        clear hp hx h0
        go_enter Try.func39, Try.ntmps39
        go_wp2_with fail
        exact bodyPost_ret (v := .tuple #[ptVal ⟨0, 0⟩, .int .i64 12]) (by simp [results, Try.results39, go_sem]) rfl (retB_mk rfl (HB.out _ _))
    · have Hk := hid_ (show nextK s v d = 0 ∧ nextD s v d = ⟨max (s.pos + 1) v, d⟩ by unfold nextK nextD; rw [if_neg h0, if_neg hx, if_neg h0, if_neg hx]; exact ⟨rfl, rfl⟩)
      rw [Hk.out.1, Hk.out.2]
      have f1 : (((s.pos : Nat) : Int) == 18446744073709551615) = false := by rw [beq_eq_false_iff_ne]; omega
      have f2 : (s.pos == 18446744073709551615) = false := by rw [beq_eq_false_iff_ne]; omega
      have f3 : (((v : Nat) : Int) == 18446744073709551615) = false := by rw [beq_eq_false_iff_ne]; omega
      have f4 : (v == 18446744073709551615) = false := by rw [beq_eq_false_iff_ne]; omega
      have f5 : IntKind.u64.wrap ((s.pos : Int) + 1) = (s.pos : Int) + 1 := by simp [IntKind.wrap, IntKind.bits, IntKind.signed]; omega
      obtain ⟨m, hm⟩ : ∃ m : Nat, m = max (s.pos + 1) v := ⟨_, rfl⟩
      have hm2 : max ((s.pos : Int) + 1) (v : Int) = (m : Int) := by omega
      rw [← hm]
      clear hx h0 hm Hk
      go_enter Try.func39, Try.ntmps39
      go_wp2_with fail
      exact bodyPost_ret (v := .tuple #[ptVal ⟨m, d⟩, .int .i64 0]) (by simp [results, Try.results39, go_sem]) rfl (retB_mk rfl (HB.out _ _))
set_option maxRecDepth 20000 in
set_option maxHeartbeats 4000000 in
theorem rnext_any (s : BalD) (v d : Nat) (w : World) (hs : s.pos < 18446744073709551616) (hv : v < 18446744073709551616) : Calls Try.prog 40 #[ptVal s, .int .u64 (v : Nat), .int .u64 (d : Nat)] w (RetB w.heap.size w (.tuple #[ptVal (nextD s v d), .int .i64 (nextK s v d)])) := by
  have HB := hid_ (fun (x y : Value) => ((Below.refl w.heap.size w).alloc (Nat.le_refl _) (.cells #[.int .u64 (s.pos : Nat), .int .u64 (s.id : Nat)] 66)).alloc (by simp) (.cells #[x, y] 66))
  by_cases h0 : d = 0
  · subst h0
    have Hk := hid_ (show nextK s v 0 = 1 ∧ nextD s v 0 = ⟨0, 0⟩ from ⟨rfl, rfl⟩)
    rw [Hk.out.1, Hk.out.2]
    clear Hk
    go_enter Try.func40, Try.ntmps40
    go_wp2_with fail
    exact bodyPost_ret (v := .tuple #[ptVal ⟨0, 0⟩, .int .i64 1]) (by simp [results, Try.results40, go_sem]) rfl (retB_mk rfl (HB.out _ _))
  · have e1 : (d == 0) = false := by simpa using h0
    have e2 : ((d : Int) == 0) = false := by simp; omega
    by_cases hx : s.pos = 18446744073709551615 ∨ v = 18446744073709551615
    · have Hk := hid_ (show nextK s v d = 12 ∧ nextD s v d = ⟨0, 0⟩ by unfold nextK nextD; rw [if_neg h0, if_pos hx, if_neg h0, if_pos hx]; exact ⟨rfl, rfl⟩)
      rw [Hk.out.1, Hk.out.2]
      clear Hk
      by_cases hp : s.pos = 18446744073709551615
      · have f1 : (((s.pos : Nat) : Int) == 18446744073709551615) = true := by rw [beq_iff_eq]; omega
        have f2 : (s.pos == 18446744073709551615) = true := by rw [beq_iff_eq]; exact hp
        clear hp hx h0
        go_enter Try.func40, Try.ntmps40
        go_wp2_with fail
        exact bodyPost_ret (v := .tuple #[ptVal ⟨0, 0⟩, .int .i64 12]) (by simp [results, Try.results40, go_sem]) rfl (retB_mk rfl (HB.out _ _))
      · have f1 : (((s.pos : Nat) : Int) == 18446744073709551615) = false := by rw [beq_eq_false_iff_ne]; omega
        have f2 : (s.pos == 18446744073709551615) = false := by rw [beq_eq_false_iff_ne]; exact hp
        have f3 : (((v : Nat) : Int) == 18446744073709551615) = true := by rw [beq_iff_eq]; omega
        have f4 : (v == 18446744073709551615) = true := by rw [beq_iff_eq]; omega
        clear hp hx h0
        go_enter Try.func40, Try.ntmps40
        go_wp2_with fail
        exact bodyPost_ret (v := .tuple #[ptVal ⟨0, 0⟩, .int .i64 12]) (by simp [results, Try.results40, go_sem]) rfl (retB_mk rfl (HB.out _ _))
    · have Hk := hid_ (show nextK s v d = 0 ∧ nextD s v d = ⟨max (s.pos + 1) v, d⟩ by unfold nextK nextD; rw [if_neg h0, if_neg hx, if_neg h0, if_neg hx]; exact ⟨rfl, rfl⟩)
      rw [Hk.out.1, Hk.out.2]
      have f1 : (((s.pos : Nat) : Int) == 18446744073709551615) = false := by rw [beq_eq_false_iff_ne]; omega
      have f2 : (s.pos == 18446744073709551615) = false := by rw [beq_eq_false_iff_ne]; omega
      have f3 : (((v : Nat) : Int) == 18446744073709551615) = false := by rw [beq_eq_false_iff_ne]; omega
      have f4 : (v == 18446744073709551615) = false := by rw [beq_eq_false_iff_ne]; omega
      have f5 : IntKind.u64.wrap ((s.pos : Int) + 1) = (s.pos : Int) + 1 := by simp [IntKind.wrap, IntKind.bits, IntKind.signed]; omega
      obtain ⟨m, hm⟩ : ∃ m : Nat, m = max (s.pos + 1) v := ⟨_, rfl⟩
      have hm2 : max ((s.pos : Int) + 1) (v : Int) = (m : Int) := by omega
      rw [← hm]
      clear hx h0 hm Hk
      go_enter Try.func40, Try.ntmps40
      go_wp2_with fail
      exact bodyPost_ret (v := .tuple #[ptVal ⟨m, d⟩, .int .i64 0]) (by simp [results, Try.results40, go_sem]) rfl (retB_mk rfl (HB.out _ _))
end Bl
end Go.Proofs.Ytgmeggilojcoeaa

/-
  Numbers, ballots and rows of them that a law is given.
-/
namespace Go.Proofs.Ytgmeggilojcoeaa
set_option linter.unusedSimpArgs false
set_option linter.unusedVariables false
open Go.RowKit Rg
namespace Bl
set_option linter.unusedSimpArgs false
set_option linter.unusedVariables false
theorem u64_of {n : Int} (h : (Lit.int .u64 n).wf = true) : ∃ c : Nat, n = (c : Int) ∧ c < 18446744073709551616 := by
  have h1 : 0 ≤ n ∧ n ≤ 18446744073709551615 := by simpa [Lit.wf, IntKind.min, IntKind.max, IntKind.bits, IntKind.signed] using h
  exact ⟨n.toNat, by omega, by omega⟩
theorem u64s_of : ∀ zs : List Int, (∀ n ∈ zs, (Lit.int .u64 n).wf = true) → ∃ l : List Nat, l.map (fun c : Nat => (c : Int)) = zs ∧ ∀ i ∈ l, i < 18446744073709551616
  | [], _ => ⟨[], rfl, by simp⟩
  | z :: zs, h => by
    obtain ⟨c, hc, hlt⟩ := u64_of (h z (by simp))
    obtain ⟨l, hl, hb⟩ := u64s_of zs (fun n hn => h n (by simp [hn]))
    refine ⟨c :: l, by simp [hc, hl], fun i hi => ?_⟩
    rcases List.mem_cons.1 hi with rfl | hi
    · exact hlt
    · exact hb i hi
/-- A row of numbers that came in. -/
structure NumRow (w : World) (A : Option Addr) (n c : Nat) (l : List Nat) : Prop where
  at_ : ∀ k (hk : k < l.length), ∃ b off, A = some ⟨b, off, none⟩ ∧ w.cell? ⟨b, off + k, none⟩ = some (.int .u64 (l[k] : Nat))
  len : l.length = n
  cap : n ≤ c
  max : c ≤ 9223372036854775807
theorem NumRow.below {w w' : World} {A : Option Addr} {n c : Nat} {l : List Nat} (h : NumRow w A n c l) (hb : Below w.heap.size w w') : NumRow w' A n c l :=
  ⟨fun k hk => by
    obtain ⟨b, off, e, hc⟩ := h.at_ k hk
    exact ⟨b, off, e, by rw [hb.cell (lt_of_cell hc)]; exact hc⟩, h.len, h.cap, h.max⟩
theorem nums_of {w : World} {a : Option Addr} {len cap : Nat} {zs : List Int}
    (h : (a = none ∧ len = 0 ∧ cap = 0 ∧ zs = []) ∨
      ∃ x, a = some x ∧ len ≤ cap ∧ cap ≤ maxLen ∧ zs.length = cap ∧ (∀ i, i < zs.length → w.cell? (x.add i) = some (.int .u64 (zs.getD i 0))) ∧ ∀ n ∈ zs, (Lit.int .u64 n).wf = true) :
    ∃ ids : List Nat, NumRow w a len cap ids ∧ ∀ i ∈ ids, i < 18446744073709551616 := by
  rcases h with ⟨rfl, rfl, rfl, rfl⟩ | ⟨x, rfl, hl, hm, hz, hcell, hwz⟩
  · exact ⟨[], ⟨fun k hk => by simp at hk, rfl, Nat.le_refl _, by omega⟩, by simp⟩
  · obtain ⟨l, rfl, hb⟩ := u64s_of zs hwz
    have hlen : l.length = cap := by simpa using hz
    unfold maxLen at hm
    refine ⟨l.take len, ⟨fun k hk => ?_, by rw [List.length_take]; omega, hl, by omega⟩, fun i hi => hb i (List.mem_of_mem_take hi)⟩
    have hkl : k < l.length := by rw [List.length_take] at hk; omega
    have h1 := hcell k (by simpa using hkl)
    obtain ⟨b, off, spot⟩ := x
    have h0 := hcell 0 (by simp; omega)
    have hs : spot = none := by simpa [Addr.add] using World.cell?_spot h0
    subst hs
    rw [add_plain] at h1
    refine ⟨b, off, rfl, ?_⟩
    rw [h1]
    simp [hkl]
section
open Go.ChangeShapes Go.WideShapes
theorem cells_u64 : Try.prog.cellsOf 60 = 1 := by kernel_rfl
theorem cells_bal : Try.prog.cellsOf 66 = 2 := by kernel_rfl
theorem two_cells {cs : List Value} (h : cs.length = 2) : ∃ a b, cs = [a, b] := by
  match cs, h with
  | [a, b], _ => exact ⟨a, b, rfl⟩
variable {H : Type} {enc : TypeId × Value → H} {w : World} {base : Nat} {spare : Nat → Bool} {held : Bool} {fuel : Nat}
/-- A ballot whose numbers fit. -/
def Wf (p : BalD) : Prop := p.pos < 18446744073709551616 ∧ p.id < 18446744073709551616
theorem bal_cells {cs : List Value} {x : DataW H × List MemPlace} (h : DataW.trod enc Try.prog w base spare held fuel 66 cs = some x) : ∃ s : BalD, Wf s ∧ cs = cfP s := by
  obtain ⟨xs, n, _, _, hlen, hxl, hf⟩ := DataW.trod_struct Try.underlying66 h
  rw [cells_bal] at hlen
  obtain ⟨a, b, rfl⟩ := two_cells hlen
  have hxl' : xs.length = 2 := hxl
  have h0 : DataW.trod enc Try.prog w base spare held n 60 (([a, b].drop 0).take (Try.prog.cellsOf 60)) = xs[0]? := hf 0 _ rfl
  have h1 : DataW.trod enc Try.prog w base spare held n 60 (([a, b].drop 1).take (Try.prog.cellsOf 60)) = xs[1]? := hf 1 _ rfl
  rw [cells_u64] at h0 h1
  rw [List.getElem?_eq_getElem (by omega)] at h0 h1
  obtain ⟨n0, e0, _, w0⟩ := DataW.trod_int Try.underlying60 h0
  obtain ⟨n1, e1, _, w1⟩ := DataW.trod_int Try.underlying60 h1
  obtain ⟨m0, rfl, g0⟩ := u64_of w0
  obtain ⟨m1, rfl, g1⟩ := u64_of w1
  simp at e0 e1
  exact ⟨⟨m0, m1⟩, ⟨g0, g1⟩, by rw [e0, e1]; rfl⟩
/-- What a ballot that came in is known to be. -/
def BalV (_w : World) (v : Value) : Prop := ∃ m : BalD, Wf m ∧ v = ptVal m
set_option maxRecDepth 100000 in
theorem open_balV {v : Value} {d : DataW H} {p : List MemPlace} {x : Reach} {r : Nat}
    (hv : Value.okWide Try.prog w x r 66 v) (h : DataW.Trod enc Try.prog w base spare held 66 v d p) : BalV w v := by
  obtain ⟨cs, rfl, _⟩ := okWide_struct Try.underlying66 hv
  obtain ⟨fuel, hf⟩ := h
  obtain ⟨s, hs, hc⟩ := bal_cells hf
  refine ⟨s, hs, ?_⟩
  have : cs.toList = cfP s := by simpa [Value.cells] using hc
  have e : cs = (cfP s).toArray := by rw [← this]
  rw [e]
  rfl
/-- What a list of ballots that came in is known to be. -/
def BalsV (w : World) (v : Value) : Prop := ∃ A n c ss, v = .slice A n c ∧ ptE.Row w A n c ss ∧ ∀ s ∈ ss, Wf s
set_option maxRecDepth 100000 in
theorem open_balsV {v : Value} {d : DataW H} {p : List MemPlace} {x : Reach} {r : Nat}
    (hv : Value.okWide Try.prog w x r 67 v) (h : DataW.Trod enc Try.prog w base (fun _ => true) held 67 v d p) : BalsV w v := by
  obtain ⟨a0, len0, cap0, rfl⟩ := okWide_slice Try.underlying67 hv
  obtain ⟨fuel, hf⟩ := h
  rcases Go.Deep.open_slice Try.underlying67 hf with ⟨hcs, _⟩ | ⟨a, len, cap, m, n, D, Pl, hcs, _, h1, h2, hm, _, h3⟩
  · simp [Value.cells] at hcs
    obtain ⟨rfl, rfl, rfl⟩ := hcs
    exact ⟨_, _, _, [], rfl, Enc.Row.none w, by simp⟩
  · simp [Value.cells] at hcs
    obtain ⟨rfl, rfl, rfl⟩ := hcs
    simp only [if_true] at hm
    subst hm
    have hone : ∀ k, k < m → ∃ s : BalD, Wf s ∧ ∀ j u, (cfP s)[j]? = some u → w.cell? ((a.add (k * 2)).add j) = some u := fun k hk => by
      obtain ⟨cs', g1, g2⟩ := h3 k hk
      rw [cells_bal] at g1
      obtain ⟨s, hs, rfl⟩ := bal_cells g2
      obtain ⟨_, _, hat⟩ := World.cells?_some g1
      refine ⟨s, hs, fun j u hu => ?_⟩
      have hj : j < 2 := (List.getElem?_eq_some_iff.1 hu).1
      rw [hat j hj]
      exact hu
    obtain ⟨f, hf'⟩ := Go.Deep.choose_lt hone
    refine ⟨_, _, _, (List.range len0).map f, rfl, ⟨fun hne => ?_, by simp, h1, by unfold maxLen at h2; omega, fun e => by cases e⟩, ?_⟩
    · have hpos : 0 < len0 := by
        rcases Nat.eq_zero_or_pos len0 with e | e
        · subst e; exact absurd rfl hne
        · exact e
      obtain ⟨b, off, spot⟩ := a
      have h0 := (hf' 0 (by omega)).2 0 _ rfl
      have hs : spot = none := by simpa [Addr.add] using World.cell?_spot h0
      subst hs
      refine ⟨b, off, rfl, fun k u hu => ?_⟩
      have hk : k < len0 * 2 := by
        have := (List.getElem?_eq_some_iff.1 hu).1
        rw [ptE.all_length, List.length_map, List.length_range] at this
        exact this
      have hk2 : k / 2 < ((List.range len0).map f).length := by simp; omega
      have hm := ptE.all_get _ hk2 (k % 2) (by show _ < 2; omega)
      rw [show k / 2 * ptE.K + k % 2 = k by show k / 2 * 2 + k % 2 = k; omega, hu] at hm
      rw [List.getElem_map, List.getElem_range] at hm
      have h4 := (hf' (k / 2) (by omega)).2 (k % 2) u hm.symm
      rwa [add_plain, add_plain, show off + k / 2 * 2 + k % 2 = off + k by omega] at h4
    · intro s hs
      obtain ⟨k, hk, rfl⟩ := List.mem_map.1 hs
      exact (hf' k (by have := List.mem_range.1 hk; omega)).1
end
end Bl
end Go.Proofs.Ytgmeggilojcoeaa

/-
  Ballots held against one another whole; the chapter's example.
-/
namespace Go.Proofs.Ytgmeggilojcoeaa
set_option linter.unusedSimpArgs false
set_option linter.unusedVariables false
open Go.RowKit Rg
namespace Bl
set_option linter.unusedSimpArgs false
set_option linter.unusedVariables false
set_option maxRecDepth 100000 in
theorem bal_equalIn (a b : BalD) (w : World) : (Op.equalIn 10000 66 (ptVal a) (ptVal b)).run Try.prog w = .ok (sameB a b) w := by
  rw [run_equalIn_agg w 9999 66 _ _ (by kernel_rfl) (by kernel_rfl)]
  simp [Program.fieldsOf, Try.underlying66, Op.eqFields, part, go_sem]
  simp only [Int.ofNat_inj]
  unfold sameB
  repeat' split
  all_goals simp_all
theorem bal_eql (a b : BalD) (w : World) : (binOp .eql 66 (ptVal a) (ptVal b)).run Try.prog w = .ok (.bool (sameB a b)) w := by
  rw [run_eql_struct, bal_equalIn]
  rfl
theorem bal_neq (a b : BalD) (w : World) : (binOp .neq 66 (ptVal a) (ptVal b)).run Try.prog w = .ok (.bool (!sameB a b)) w := by
  rw [run_neq_struct, bal_equalIn]
  rfl
theorem same_self (a : BalD) : sameB a a = true := (sameB_iff a a).2 rfl
set_option maxRecDepth 20000 in
set_option maxHeartbeats 4000000 in
theorem balive_any (w : World) : Calls Try.prog 34 #[] w (RetB w.heap.size w (.bool true)) := by
  have HN := hid_ (show Calls Try.prog 39 #[.agg #[.int .u64 5, .int .u64 9], .int .u64 3, .int .u64 2] w (RetB w.heap.size w (.tuple #[.agg #[.int .u64 6, .int .u64 2], .int .i64 0])) from next_any ⟨5, 9⟩ 3 2 w (by decide) (by decide))
  have HL := hid_ (fun (W : World) => show Calls Try.prog 35 #[.agg #[.int .u64 5, .int .u64 9], .agg #[.int .u64 6, .int .u64 2]] W (RetB W.heap.size W (.bool true)) from less_any ⟨5, 9⟩ ⟨6, 2⟩ W)
  have kn : ∀ w, (binOp .eql 66 (.agg #[.int .u64 6, .int .u64 2]) (.agg #[.int .u64 6, .int .u64 2])).run Try.prog w = .ok (.bool true) w := fun w => bal_eql ⟨6, 2⟩ ⟨6, 2⟩ w
  go_enter Try.func34, Try.ntmps34
  go_wp2_with fail
  (with_reducible refine Calls.mono HN.out ?_)
  rintro e w1 ⟨rfl, hb1⟩
  have HB1 := hid_ (hb1.alloc hb1.size (.cells #[.int .u64 6, .int .u64 2] 66))
  clear hb1
  go_wp2_with fail
  (with_reducible refine Calls.mono (HL.out _) ?_)
  rintro e w2 ⟨rfl, hb2⟩
  have HB2 := hid_ (HB1.out.trans (hb2.mono HB1.out.size))
  clear hb2
  go_wp2_with fail
  go_ret
  exact retB_mk rfl HB2.out
/-- Is m among the first k, or is there none at all? -/
def isF (l : List BalD) (m : BalD) (k : Nat) : Bool := decide (l.length = 0) || (l.take k).any (fun x => sameB x m)
theorem isF_succ {l : List BalD} {m : BalD} {k : Nat} (hk : k < l.length) : isF l m (k + 1) = (isF l m k || sameB l[k] m) := by
  unfold isF
  rw [List.take_succ_eq_append_getElem hk, List.any_append, Bool.or_assoc]
  simp
theorem isF_max (l : List BalD) : isF l (maxF l) l.length = true := by
  unfold isF
  rw [List.take_length, Bool.or_eq_true, decide_eq_true_eq, List.any_eq_true]
  by_cases h : l = []
  · left; rw [h]; rfl
  · right; exact ⟨_, max_in l h, same_self _⟩
end Bl
end Go.Proofs.Ytgmeggilojcoeaa
