/-
  Lists of what is due, as they come in and lie in memory; append to them.
-/
import Derived.Test.YtpcmlopbkehffaaZGAG
import Derived.Deep.RegionHeld3
import Derived.Deep.Slices
import Derived.Deep.DrawnRows
import Derived.OpenShut
namespace Go.Proofs.Ytpcmlopbkehffaa
set_option linter.unusedSimpArgs false
set_option linter.unusedVariables false
open Go.RowKit
attribute [local go_sem ↓] Go.wp_at_zero Go.wp_at_succ
namespace Enc
set_option linter.unusedSimpArgs false
set_option linter.unusedVariables false
variable {α : Type} {E : Enc α} {e : TypeId}
/-- append(s, x..) as one step of a region that draws its order. -/
theorem step_rows {w : World} {ops : Array Oper} {o : Oper} {a : Act} {K : Act → World → Prop} {Q : Exit → Act → World → Prop} {F : Prop} (hgd : Region.wanted o (yielded ops a.tmps) = true) (s x : Operand) (t : TypeId)
    (ho : o.op = .call { callee := .builtin .append, args := #[s, x], argTypes := #[t, t] })
    (z : Value) (by_ : Nat) (ht : Try.prog.underlying t = some (.slice e)) (hinfo : (Try.prog.info? e).map (fun i => (i.zero, i.size, i.bytes)) = some (some z, E.K, by_)) (hz : z.cells.size = E.K)
    (B : Nat) (A0 : Option Addr) (n0 c0 : Nat) (l0 : List α) (hs : a.eval s = .slice A0 n0 c0) (hown : E.Own e B w A0 n0 c0 l0)
    (A : Option Addr) (m c : Nat) (l : List α) (hx : a.eval x = .slice A m c) (hl : E.Row w A m c l)
    (N : Nat) (ys : List α) (hN : n0 + m = N) (hys : l0 ++ l = ys) (hroom : N * by_ ≤ 140737488355328) (hlen : N ≤ 1000000000000) (hB : B ≤ w.heap.size)
    (h : ∀ A' c' w', E.Own e B w' A' N c' ys → Below B w w' → w.grownBy w' (Value.slice A0 n0 c0).ownBlock → K (a.put o.dst (.slice A' N c')) w') :
    if Region.wanted o (yielded ops a.tmps) = true then Oper.wp Try.prog o a w K Q else F := by
  subst hys
  rw [if_pos hgd]
  obtain ⟨i0, hi0, hz0, hz1, hz2⟩ := info_parts hinfo
  obtain ⟨A', c', w', hrun, h2, h3, _⟩ := run_app (P := Try.prog) w B t o.type e i0 _ E.K by_ ht hi0 hz0 hz1 hz2 hz E.pos (.slice A0 n0 c0) n0 (E.all l0) hown A m c (E.all l)
    (by rw [all_length, hl.len]) hl.holds hl.nil (E.all_one l) N (E.all (l0 ++ l)) hN (E.all_append l0 l).symm (by unfold maxLen; omega) hroom hB
  unfold Oper.wp execOp
  simp only [ho, resolve, invoke, builtin, Sem.run_bind, Sem.run_pure, Result.andThen_ok, List.map_toArray, List.map_cons, List.map_nil, hs, hx, hrun]
  exact h A' c' w' h2 ((Below.refl B w).grown h3 hB (own_from hown)) h3
/-- An empty row, laid in a block of its own. -/
theorem own_empty (w : World) (T : TypeId) (hT : T = e) (B : Nat) (hB : B ≤ w.heap.size) : E.Own e B (w.alloc (.cells #[] T)) (some ⟨w.heap.size, 0, .none⟩) 0 0 [] := by
  subst hT
  exact own_litK w [] #[] rfl 0 rfl (by rw [Nat.zero_mul]; omega) B hB
theorem own_empty_at (w : World) (g : Nat) (T : TypeId) (hT : T = e) (B : Nat) (hB : B ≤ w.heap.size) (h : g = w.heap.size) : E.Own e B (w.alloc (.cells #[] T)) (some ⟨g, 0, .none⟩) 0 0 [] := by
  subst h
  exact own_empty w T hT B hB
theorem Own.alloc {B : Nat} {w : World} {A : Option Addr} {n c : Nat} {l : List α} (h : E.Own e B w A n c l) (o : Obj) : E.Own e B (w.alloc o) A n c l := h.later ((Below.refl _ _).alloc (Nat.le_refl _) o)
theorem Row.place {w : World} {A A' : Option Addr} {n c c' : Nat} {ss : List α} (h : E.Row w A n c ss) (e1 : A = A') (e2 : c = c') : E.Row w A' n c' ss := by subst e1 e2; exact h
/-- A literal of one thing is kept where another row grows. -/
theorem lit_kept {W W' : World} {gl : Nat} {s : α} {row : Option Nat} (h : E.Row W (some ⟨gl, 0, .none⟩) 1 1 [s]) (hg : W.grownBy W' row) (hne : some gl ≠ row) : E.Row W' (some ⟨gl, 0, .none⟩) 1 1 [s] := by
  refine ⟨fun hx => ?_, rfl, Nat.le_refl _, by omega, fun e => by cases e⟩
  obtain ⟨b, off, e, hc⟩ := h.holds hx
  cases e
  refine ⟨gl, 0, rfl, fun k u hu => ?_⟩
  have h1 := hc k u hu
  rw [World.cell?_of_block (hg.block gl (lt_of_cell h1) hne)]
  exact h1
end Enc
namespace Ti
set_option linter.unusedSimpArgs false
set_option linter.unusedVariables false
open Go.ChangeShapes Go.WideShapes
def cfD (p : DueD) : List Value := [.int .u64 (p.key : Nat), .int .u64 (p.at_ : Nat)]
/-- What is due: two cells. -/
def dueE : Enc DueD := ⟨cfD, 2, fun _ => rfl, by decide, fun p u hu => by
  simp [cfD] at hu
  rcases hu with rfl | rfl <;> rfl⟩
theorem info_due : (Try.prog.info? 81).map (fun i => (i.zero, i.size, i.bytes)) = some (some (.agg #[.int .u64 0, .int .u64 0]), dueE.K, 16) := by kernel_rfl
abbrev OwnD := dueE.Own 81
def DWf (p : DueD) : Prop := p.key < 18446744073709551616 ∧ p.at_ < 18446744073709551616
theorem cells_u64 : Try.prog.cellsOf 27 = 1 := by kernel_rfl
instance : Inhabited DueD := ⟨⟨0, 0⟩⟩
theorem u64_of {n : Int} (h : (Lit.int .u64 n).wf = true) : ∃ c : Nat, n = (c : Int) ∧ c < 18446744073709551616 := by
  have h1 : 0 ≤ n ∧ n ≤ 18446744073709551615 := by simpa [Lit.wf, IntKind.min, IntKind.max, IntKind.bits, IntKind.signed] using h
  exact ⟨n.toNat, by omega, by omega⟩
section
theorem cells_due : Try.prog.cellsOf 81 = 2 := by kernel_rfl
theorem two_cells {cs : List Value} (h : cs.length = 2) : ∃ a b, cs = [a, b] := by
  match cs, h with
  | [a, b], _ => exact ⟨a, b, rfl⟩
variable {H : Type} {enc : TypeId × Value → H} {w : World} {base : Nat} {spare : Nat → Bool} {held : Bool} {fuel : Nat}
theorem due_cells {cs : List Value} {x : DataW H × List MemPlace} (h : DataW.trod enc Try.prog w base spare held fuel 81 cs = some x) : ∃ s : DueD, DWf s ∧ cs = cfD s := by
  obtain ⟨xs, n, _, _, hlen, hxl, hf⟩ := DataW.trod_struct Try.underlying81 h
  rw [cells_due] at hlen
  obtain ⟨a, b, rfl⟩ := two_cells hlen
  have hxl' : xs.length = 2 := hxl
  have h0 : DataW.trod enc Try.prog w base spare held n 27 (([a, b].drop 0).take (Try.prog.cellsOf 27)) = xs[0]? := hf 0 _ rfl
  have h1 : DataW.trod enc Try.prog w base spare held n 27 (([a, b].drop 1).take (Try.prog.cellsOf 27)) = xs[1]? := hf 1 _ rfl
  rw [cells_u64] at h0 h1
  rw [List.getElem?_eq_getElem (by omega)] at h0 h1
  obtain ⟨n0, e0, _, w0⟩ := DataW.trod_int Try.underlying27 h0
  obtain ⟨n1, e1, _, w1⟩ := DataW.trod_int Try.underlying27 h1
  obtain ⟨m0, rfl, g0⟩ := u64_of w0
  obtain ⟨m1, rfl, g1⟩ := u64_of w1
  simp at e0 e1
  exact ⟨⟨m0, m1⟩, ⟨g0, g1⟩, by rw [e0, e1]; rfl⟩
/-- What a list of points that came in is known to be. -/
def DuesV (w : World) (v : Value) : Prop := ∃ A n c ss, v = .slice A n c ∧ dueE.Row w A n c ss ∧ ∀ s ∈ ss, DWf s
set_option maxRecDepth 100000 in
theorem open_duesV {v : Value} {d : DataW H} {p : List MemPlace} {x : Reach} {r : Nat}
    (hv : Value.okWide Try.prog w x r 63 v) (h : DataW.Trod enc Try.prog w base (fun _ => true) held 63 v d p) : DuesV w v := by
  obtain ⟨a0, len0, cap0, rfl⟩ := okWide_slice Try.underlying63 hv
  obtain ⟨fuel, hf⟩ := h
  rcases Go.Deep.open_slice Try.underlying63 hf with ⟨hcs, _⟩ | ⟨a, len, cap, m, n, D, Pl, hcs, _, h1, h2, hm, _, h3⟩
  · simp [Value.cells] at hcs
    obtain ⟨rfl, rfl, rfl⟩ := hcs
    exact ⟨_, _, _, [], rfl, Enc.Row.none w, by simp⟩
  · simp [Value.cells] at hcs
    obtain ⟨rfl, rfl, rfl⟩ := hcs
    simp only [if_true] at hm
    subst hm
    have hone : ∀ k, k < m → ∃ s : DueD, DWf s ∧ ∀ j u, (cfD s)[j]? = some u → w.cell? ((a.add (k * 2)).add j) = some u := fun k hk => by
      obtain ⟨cs', g1, g2⟩ := h3 k hk
      rw [cells_due] at g1
      obtain ⟨s, hs, rfl⟩ := due_cells g2
      obtain ⟨_, _, hat⟩ := World.cells?_some g1
      refine ⟨s, hs, fun j u hu => ?_⟩
      have hj : j < 2 := (List.getElem?_eq_some_iff.1 hu).1
      rw [hat j hj]
      exact hu
    obtain ⟨f, hf'⟩ := Go.Deep.choose_lt hone
    refine ⟨_, _, _, (List.range len0).map f, rfl, ⟨fun hne => ?_, by simp, h1, by unfold maxLen at h2; omega, fun e => by cases e⟩, ?_⟩
    · have hpos : 0 < len0 := by
        rcases Nat.eq_zero_or_pos len0 with e | e
        · subst e; exact absurd rfl hne
        · exact e
      obtain ⟨b, off, spot⟩ := a
      have h0 := (hf' 0 (by omega)).2 0 _ rfl
      have hs : spot = none := by simpa [Addr.add] using World.cell?_spot h0
      subst hs
      refine ⟨b, off, rfl, fun k u hu => ?_⟩
      have hk : k < len0 * 2 := by
        have := (List.getElem?_eq_some_iff.1 hu).1
        rw [dueE.all_length, List.length_map, List.length_range] at this
        exact this
      have hk2 : k / 2 < ((List.range len0).map f).length := by simp; omega
      have hm := dueE.all_get _ hk2 (k % 2) (by show _ < 2; omega)
      rw [show k / 2 * dueE.K + k % 2 = k by show k / 2 * 2 + k % 2 = k; omega, hu] at hm
      rw [List.getElem_map, List.getElem_range] at hm
      have h4 := (hf' (k / 2) (by omega)).2 (k % 2) u hm.symm
      rwa [add_plain, add_plain, show off + k / 2 * 2 + k % 2 = off + k by omega] at h4
    · intro s hs
      obtain ⟨k, hk, rfl⟩ := List.mem_map.1 hs
      exact (hf' k (by have := List.mem_range.1 hk; omega)).1
end
end Ti
end Go.Proofs.Ytpcmlopbkehffaa

/-
  The laws' words on timers: two heaps beside each other, lists of numbers that are one.
-/
namespace Go.Proofs.Ytpcmlopbkehffaa
set_option linter.unusedSimpArgs false
set_option linter.unusedVariables false
open Go.RowKit Go.Shelf
namespace Ti
set_option linter.unusedSimpArgs false
set_option linter.unusedVariables false
theorem takeWhile_key {m : List DueD} {p : DueD → Bool} {k : Nat} (h : ∀ d ∈ m, d.key ≠ k) : ∀ d ∈ m.takeWhile p, isKey k d = false := fun d hd => by
  unfold isKey
  exact beq_eq_false_iff_ne.2 (h d ((List.takeWhile_sublist _).subset hd))
theorem del_ins {m : List DueD} {x : DueD} (h : ∀ d ∈ m, d.key ≠ x.key) : delR (insR m x) x.key = m := by
  unfold delR insR
  rw [List.eraseP_append_right _ (fun d hd => by rw [takeWhile_key h d hd]; decide), List.eraseP_cons_of_pos ((isKey_iff _ _).2 rfl), List.takeWhile_append_dropWhile]
/-- The last time counts. -/
theorem set_set {m : List DueD} (h : Ok m) (k a : Nat) : setR (setR m k a) k a = setR m k a := by
  unfold setR
  rw [del_ins (x := ⟨k, a⟩) (del_gone h.keys k)]
theorem del_set {m : List DueD} (h : Ok m) (k a : Nat) : setR (delR m k) k a = setR m k a := by
  unfold setR
  rw [del_none (del_gone h.keys k)]
theorem at_set {m : List DueD} (h : Ok m) {k a : Nat} (hk : k < 18446744073709551616) (ha : a < 18446744073709551616) : atR (setR m k a) k = some a :=
  at_of (d := ⟨k, a⟩) (h.set hk ha).keys ((set_perm m k a).mem_iff.2 List.mem_cons_self)
theorem nums_at {w : World} {A : Option Addr} {n c : Nat} {xs : List Nat} (h : numE.Row w A n c xs) {k : Nat} (hk : k < xs.length) : ∃ b off, A = some ⟨b, off, none⟩ ∧ w.cell? ⟨b, off + k, none⟩ = some (.int .u64 (xs[k] : Nat)) := by
  obtain ⟨b, off, e, _, hc⟩ := h.at_ hk
  have := hc 0 _ rfl
  exact ⟨b, off, e, by rwa [show off + k * numE.K + 0 = off + k by show off + k * 1 + 0 = off + k; omega] at this⟩
theorem numRow_drewN {w : World} {A : Option Addr} {n c : Nat} {xs : List Nat} (h : numE.Row w A n c xs) (k : Nat) : numE.Row (w.drewN k) A n c xs := h.keep fun _ _ => rfl
set_option maxHeartbeats 1000000 in
set_option maxRecDepth 100000 in
theorem uints_same {w : World} {A B : Option Addr} {n c d : Nat} {xs : List Nat} (h : numE.Row w A n c xs) (k : numE.Row w B n d xs) : Calls Try.prog 30 #[.slice A n c, .slice B n d] w (RetD w (.bool true)) := by
  have hlen := h.len
  have hmax := h.le
  have HA := hid_ h
  have HB := hid_ k
  have HL := hid_ hlen
  clear h k hlen
  go_enter Try.func30, Try.ntmps30
  go_wp2_with fail
  go_loopw [5] (fun v5 wr => ∃ (i q : Nat), v5 = .int .i64 (i : Nat) ∧ i ≤ n ∧ wr = w.drewN q) (fun v5 _ => n - (intOf v5).toNat)
  case atStart => exact ⟨0, 0, rfl, Nat.zero_le _, rfl⟩
  case round =>
    obtain ⟨i, q, rfl, hi, rfl⟩ := hrel
    by_cases hlt : i < n
    · obtain ⟨b, off, rfl, c0⟩ := nums_at (numRow_drewN HA.out q) (k := i) (by rw [HL.out]; exact hlt)
      obtain ⟨b', off', rfl, d0⟩ := nums_at (numRow_drewN HB.out q) (k := i) (by rw [HL.out]; exact hlt)
      generalize xs[i]'(by rw [HL.out]; exact hlt) = x at *
      have m1 : (i : Int) < (n : Int) := by omega
      have m2 : (0 : Int) ≤ (i : Int) := by omega
      have q1 : wrap64 ((i : Int) + 1) = (i : Int) + 1 := by unfold wrap64; omega
      have q2 : (x == x) = true := beq_iff_eq.2 rfl
      have HI := hid_ hlt
      have HQ := hid_ (fun n => drewN_drewN w q n)
      clear hlt
      generalize w.drewN q = wq at *
      go_wp2_with fail
      go_region
      all_goals
        go_wp2_with fail
        go_roundw
        case rel => exact ⟨i + 1, q + 1, by go_num, by have := HI.out; omega, HQ.out 1⟩
        case measure => have := HI.out; simp [intOf]; omega
    · obtain rfl : i = n := by omega
      have m1 : ¬ (i : Int) < (i : Int) := by omega
      go_wp2_with fail
      go_ret
      exact retD_mk rfl q
/-- Two heaps beside each other, of the same. -/
structure Two (w0 w : World) (h g : Nat) (m : List DueD) (cnt : Nat) : Prop where
  mem : ∃ Q Q', Hp w h Q m cnt ∧ Hp w g Q' m cnt ∧ (∀ q, Q q → ¬ Q' q) ∧ (∀ q, Q q → w0.heap.size ≤ q) ∧ (∀ q, Q' q → w0.heap.size ≤ q)
  below : Below w0.heap.size w0 w
/-- .. of which the first is a call's: the second stands. -/
structure TwoF (w0 w : World) (h g : Nat) (m m' : List DueD) (cnt cnt' : Nat) : Prop where
  mem : ∃ Q Q', Hp w h Q m cnt ∧ Hp w g Q' m' cnt' ∧ (∀ q, Q q → ¬ Q' q) ∧ (∀ q, Q q → w0.heap.size ≤ q) ∧ (∀ q, Q' q → w0.heap.size ≤ q)
  below : Below w0.heap.size w0 w
section
variable {w0 w w' : World} {h g x t cnt cnt' : Nat} {m m' : List DueD}
theorem TwoF.flip (k : TwoF w0 w h g m m' cnt cnt') : TwoF w0 w g h m' m cnt' cnt := by
  obtain ⟨Q, Q', h1, h2, h3, h4, h5⟩ := k.mem
  exact ⟨⟨Q', Q, h2, h1, fun q hq hq' => h3 q hq' hq, h5, h4⟩, k.below⟩
theorem TwoF.drewN (k : TwoF w0 w h g m m' cnt cnt') (n : Nat) : TwoF w0 (w.drewN n) h g m m' cnt cnt' := by
  obtain ⟨Q, Q', h1, h2, h3, h4, h5⟩ := k.mem
  exact ⟨⟨Q, Q', h1.drewN n, h2.drewN n, h3, h4, h5⟩, below_drewN k.below n⟩
theorem TwoF.of {Q Q' Q1 : Nat → Prop} {m1 : List DueD} {c1 : Nat} (h1 : Hp w h Q m cnt) (h2 : Hp w g Q' m' cnt') (h3 : ∀ q, Q q → ¬ Q' q) (h4 : ∀ q, Q q → w0.heap.size ≤ q) (h5 : ∀ q, Q' q → w0.heap.size ≤ q) (hb : Below w0.heap.size w0 w) (k : Hp w' h Q1 m1 c1) (t : Tn Q w w') (hq : ∀ q, Q1 q → Q q ∨ w.heap.size ≤ q) : TwoF w0 w' h g m1 m' c1 cnt' := by
  have hz := hb.size
  refine ⟨⟨Q1, Q', k, h2.tn t (fun q hq hq' => h3 q hq' hq), fun q hq1 hq' => ?_, fun q hq1 => ?_, h5⟩, Tn.below hb t h4 hz⟩
  · rcases hq q hq1 with h6 | h6
    · exact h3 q h6 hq'
    · have := h2.qlt q hq'; omega
  · rcases hq q hq1 with h6 | h6
    · exact h4 q h6
    · omega
theorem TwoF.set (k : TwoF w0 w h g m m' cnt cnt') (hx : x < 18446744073709551616) (ht : t < 18446744073709551616) (hc : cnt < 100000000) : Calls Try.prog 25 #[.pointer (some ⟨h, 0, none⟩), .int .u64 (x : Nat), .int .u64 (t : Nat)] w (fun e w' => e = .returned (.tuple #[]) ∧ TwoF w0 w' h g (setR m x t) m' (cnt + 1) cnt') := by
  obtain ⟨Q, Q', h1, h2, h3, h4, h5⟩ := k.mem
  refine (hset_any h1 hx ht hc).mono ?_
  rintro e w' ⟨v, rfl, rfl, Q1, k1, k2, k3⟩
  exact ⟨rfl, TwoF.of h1 h2 h3 h4 h5 k.below k1 k2 k3⟩
theorem TwoF.del (k : TwoF w0 w h g m m' cnt cnt') (hx : x < 18446744073709551616) (hc : cnt < 100000000) : Calls Try.prog 28 #[.pointer (some ⟨h, 0, none⟩), .int .u64 (x : Nat)] w (fun e w' => e = .returned (.bool (hasR m x)) ∧ TwoF w0 w' h g (delR m x) m' cnt cnt') := by
  obtain ⟨Q, Q', h1, h2, h3, h4, h5⟩ := k.mem
  refine (hdel_any h1 hx (by omega)).mono ?_
  rintro e w' ⟨rfl, k1, k2⟩
  exact ⟨rfl, TwoF.of h1 h2 h3 h4 h5 k.below k1 k2 (fun q hq => .inl hq)⟩
theorem TwoF.at_ (k : TwoF w0 w h g m m' cnt cnt') (hx : x < 18446744073709551616) : Calls Try.prog 32 #[.pointer (some ⟨h, 0, none⟩), .int .u64 (x : Nat)] w (RetV w (atV (atR m x))) := by
  obtain ⟨Q, Q', h1, h2, h3, h4, h5⟩ := k.mem
  exact hat_any h1 hx
theorem TwoF.len (k : TwoF w0 w h g m m' cnt cnt') : Calls Try.prog 35 #[.pointer (some ⟨h, 0, none⟩)] w (RetV w (.int .i64 (m.length : Nat))) := by
  obtain ⟨Q, Q', h1, h2, h3, h4, h5⟩ := k.mem
  exact hlen_any h1
/-- Pop of the one, then of the other. -/
theorem TwoF.pops (k : TwoF w0 w h g m m' cnt cnt') (hc : cnt < 100000000) (hc' : cnt' < 100000000) : Calls Try.prog 31 #[.pointer (some ⟨h, 0, none⟩), .int .u64 (t : Nat)] w (fun e w' => ∃ A c, e = .returned (.slice A (popR m t).1.length c) ∧
    ∀ t2 : Nat, Calls Try.prog 31 #[.pointer (some ⟨g, 0, none⟩), .int .u64 (t2 : Nat)] w' (fun e2 w2 => ∃ A2 c2, e2 = .returned (.slice A2 (popR m' t2).1.length c2) ∧ TwoF w0 w2 h g (popR m t).2 (popR m' t2).2 cnt cnt' ∧
      numE.Row w2 A (popR m t).1.length c (popR m t).1 ∧ numE.Row w2 A2 (popR m' t2).1.length c2 (popR m' t2).1)) := by
  obtain ⟨Q, Q', h1, h2, h3, h4, h5⟩ := k.mem
  refine (hpop_any h1 t hc).mono ?_
  rintro e w' ⟨A, c, rfl, k1, k2, k3⟩
  refine ⟨A, c, rfl, fun t2 => ?_⟩
  have hT := TwoF.of h1 h2 h3 h4 h5 k.below k2 k3 (fun q hq => .inl hq)
  have h2' := h2.tn k3 (fun q hq hq' => h3 q hq' hq)
  have hz := k.below.size
  refine (hpop_any h2' t2 hc').mono ?_
  rintro e2 w2 ⟨A2, c2, rfl, j1, j2, j3⟩
  refine ⟨A2, c2, rfl, (TwoF.of h2' k2 (fun q hq hq' => h3 q hq' hq) h5 h4 hT.below j2 j3 (fun q hq => .inl hq)).flip, ?_, j1.row⟩
  refine (ownE_far (w' := w2) k1 (fun a ha => j3.block a (k1.from_ a ha).2 (fun hq => ?_))).row
  have := h2.qlt a hq
  have := (k1.from_ a ha).1
  omega
theorem TwoF.ok (k : TwoF w0 w h g m m' cnt cnt') : Ok m := by
  obtain ⟨Q, Q', h1, h2, h3, h4, h5⟩ := k.mem
  exact h1.ok
end
theorem two_new (w : World) : TwoF w ((w.alloc (.cells #[.slice none 0 0, .map none] 62)).alloc (.cells #[.slice none 0 0, .map none] 62)) w.heap.size (w.heap.size + 1) [] [] 0 0 := by
  have h1 := hp_zero w
  have h2 := hp_zero (w.alloc (.cells #[.slice none 0 0, .map none] 62))
  rw [show (w.alloc (.cells #[.slice none 0 0, .map none] 62)).heap.size = w.heap.size + 1 by simp] at h2
  exact ⟨⟨_, _, h1.below ((Below.refl _ _).alloc (Nat.le_refl _) _), h2, fun q hq hq' => by omega, fun q hq => by omega, fun q hq => by omega⟩, ((Below.refl _ _).alloc (Nat.le_refl _) _).alloc (by simp) _⟩
theorem dues_at {w : World} {A : Option Addr} {n c : Nat} {l : List DueD} (h : dueE.Row w A n c l) {k : Nat} (hk : k < l.length) : ∃ b off, A = some ⟨b, off, none⟩ ∧ b < w.heap.size ∧ w.cell? ⟨b, off + k * 2, none⟩ = some (.int .u64 (l[k].key : Nat)) ∧ w.cell? ⟨b, off + k * 2 + 1, none⟩ = some (.int .u64 (l[k].at_ : Nat)) := by
  obtain ⟨b, off, e, hb, hc⟩ := h.at_ hk
  exact ⟨b, off, e, hb, hc 0 _ rfl, hc 1 _ rfl⟩
end Ti
end Go.Proofs.Ytpcmlopbkehffaa
