/-
  The document's points: which is below which, which lists rise, points as the program's, whose a number is; a list of points that came in.
-/
import Derived.Test.YtgmeggilojcoeaaZGRD
import Derived.Deep.RegionHeld3
import Derived.Deep.Slices
import Derived.Deep.DrawnRows
import Derived.OpenShut
namespace Go.Proofs.Ytgmeggilojcoeaa
set_option linter.unusedSimpArgs false
set_option linter.unusedVariables false
open Go.RowKit
attribute [local go_sem ↓] Go.wp_at_zero Go.wp_at_succ
namespace Enc
set_option linter.unusedSimpArgs false
set_option linter.unusedVariables false
variable {α : Type} {E : Enc α} {e : TypeId}
/-- append(s, x..) as one step of a region that draws its order. -/
theorem step_rows {w : World} {ops : Array Oper} {o : Oper} {a : Act} {K : Act → World → Prop} {Q : Exit → Act → World → Prop} {F : Prop} (hgd : Region.wanted o (yielded ops a.tmps) = true) (s x : Operand) (t : TypeId)
    (ho : o.op = .call { callee := .builtin .append, args := #[s, x], argTypes := #[t, t] })
    (z : Value) (by_ : Nat) (ht : Try.prog.underlying t = some (.slice e)) (hinfo : (Try.prog.info? e).map (fun i => (i.zero, i.size, i.bytes)) = some (some z, E.K, by_)) (hz : z.cells.size = E.K)
    (B : Nat) (A0 : Option Addr) (n0 c0 : Nat) (l0 : List α) (hs : a.eval s = .slice A0 n0 c0) (hown : E.Own e B w A0 n0 c0 l0)
    (A : Option Addr) (m c : Nat) (l : List α) (hx : a.eval x = .slice A m c) (hl : E.Row w A m c l)
    (N : Nat) (ys : List α) (hN : n0 + m = N) (hys : l0 ++ l = ys) (hroom : N * by_ ≤ 140737488355328) (hlen : N ≤ 1000000000000) (hB : B ≤ w.heap.size)
    (h : ∀ A' c' w', E.Own e B w' A' N c' ys → Below B w w' → w.grownBy w' (Value.slice A0 n0 c0).ownBlock → K (a.put o.dst (.slice A' N c')) w') :
    if Region.wanted o (yielded ops a.tmps) = true then Oper.wp Try.prog o a w K Q else F := by
  subst hys
  rw [if_pos hgd]
  obtain ⟨i0, hi0, hz0, hz1, hz2⟩ := info_parts hinfo
  obtain ⟨A', c', w', hrun, h2, h3, _⟩ := run_app (P := Try.prog) w B t o.type e i0 _ E.K by_ ht hi0 hz0 hz1 hz2 hz E.pos (.slice A0 n0 c0) n0 (E.all l0) hown A m c (E.all l)
    (by rw [all_length, hl.len]) hl.holds hl.nil (E.all_one l) N (E.all (l0 ++ l)) hN (E.all_append l0 l).symm (by unfold maxLen; omega) hroom hB
  unfold Oper.wp execOp
  simp only [ho, resolve, invoke, builtin, Sem.run_bind, Sem.run_pure, Result.andThen_ok, List.map_toArray, List.map_cons, List.map_nil, hs, hx, hrun]
  exact h A' c' w' h2 ((Below.refl B w).grown h3 hB (own_from hown)) h3
/-- An empty row, laid in a block of its own. -/
theorem own_empty (w : World) (T : TypeId) (hT : T = e) (B : Nat) (hB : B ≤ w.heap.size) : E.Own e B (w.alloc (.cells #[] T)) (some ⟨w.heap.size, 0, .none⟩) 0 0 [] := by
  subst hT
  exact own_litK w [] #[] rfl 0 rfl (by rw [Nat.zero_mul]; omega) B hB
theorem own_empty_at (w : World) (g : Nat) (T : TypeId) (hT : T = e) (B : Nat) (hB : B ≤ w.heap.size) (h : g = w.heap.size) : E.Own e B (w.alloc (.cells #[] T)) (some ⟨g, 0, .none⟩) 0 0 [] := by
  subst h
  exact own_empty w T hT B hB
theorem Own.alloc {B : Nat} {w : World} {A : Option Addr} {n c : Nat} {l : List α} (h : E.Own e B w A n c l) (o : Obj) : E.Own e B (w.alloc o) A n c l := h.later ((Below.refl _ _).alloc (Nat.le_refl _) o)
theorem Row.place {w : World} {A A' : Option Addr} {n c c' : Nat} {ss : List α} (h : E.Row w A n c ss) (e1 : A = A') (e2 : c = c') : E.Row w A' n c' ss := by subst e1 e2; exact h
/-- A literal of one thing is kept where another row grows. -/
theorem lit_kept {W W' : World} {gl : Nat} {s : α} {row : Option Nat} (h : E.Row W (some ⟨gl, 0, .none⟩) 1 1 [s]) (hg : W.grownBy W' row) (hne : some gl ≠ row) : E.Row W' (some ⟨gl, 0, .none⟩) 1 1 [s] := by
  refine ⟨fun hx => ?_, rfl, Nat.le_refl _, by omega, fun e => by cases e⟩
  obtain ⟨b, off, e, hc⟩ := h.holds hx
  cases e
  refine ⟨gl, 0, rfl, fun k u hu => ?_⟩
  have h1 := hc k u hu
  rw [World.cell?_of_block (hg.block gl (lt_of_cell h1) hne)]
  exact h1
end Enc
namespace Rg
set_option linter.unusedSimpArgs false
set_option linter.unusedVariables false
theorem pt_new_at (w : World) (g pos id : Nat) (T : TypeId) (h : g = w.heap.size) : ptE.Row (w.alloc (.cells #[.int .u64 (pos : Nat), .int .u64 (id : Nat)] T)) (some ⟨g, 0, none⟩) 1 1 [⟨pos, id⟩] := by
  subst h
  exact pt_new w pos id T
def ltB (a b : PtD) : Bool := decide (a.pos < b.pos ∨ (a.pos = b.pos ∧ a.id < b.id))
theorem ltB_le {a b : PtD} (h : ltB a b = true) : a.Le b := by
  have := of_decide_eq_true h
  unfold PtD.Le
  omega
theorem ltB_no {a b : PtD} (h : ltB a b = false) : b.Le a := by
  have := of_decide_eq_false h
  unfold PtD.Le
  omega
set_option maxHeartbeats 4000000 in
theorem refbelow_any (a b : PtD) (W : World) : Calls Try.prog 58 #[ptVal a, ptVal b] W (RetB W.heap.size W (.bool (ltB a b))) := by
  obtain ⟨x, y⟩ := a
  obtain ⟨u, v⟩ := b
  have hlt : ltB ⟨x, y⟩ ⟨u, v⟩ = decide (x < u ∨ (x = u ∧ y < v)) := rfl
  have hw := (((Below.refl W.heap.size W).alloc (Nat.le_refl _) (.cells #[.int .u64 (x : Nat), .int .u64 (y : Nat)] 101)).alloc (by simp) (.cells #[.int .u64 (u : Nat), .int .u64 (v : Nat)] 101))
  have HW := hid_ hw
  clear hw
  rcases Nat.lt_trichotomy x u with h1 | h1 | h1
  · have H := hid_ (show ltB ⟨x, y⟩ ⟨u, v⟩ = true by rw [hlt]; exact decide_eq_true (.inl h1))
    have e1 : decide (x < u) = true := decide_eq_true h1
    clear hlt h1
    go_enter Try.func58, Try.ntmps58
    go_wp2
    go_ret
    exact retB_mk (by rw [H.out]; rfl) HW.out
  · subst h1
    have e1 : decide (x < x) = false := decide_eq_false (by omega)
    have e2 : (x == x) = true := by simp
    by_cases h2 : y < v
    · have H := hid_ (show ltB ⟨x, y⟩ ⟨x, v⟩ = true by rw [hlt]; exact decide_eq_true (.inr ⟨rfl, h2⟩))
      have e3 : decide (y < v) = true := decide_eq_true h2
      clear hlt h2
      go_enter Try.func58, Try.ntmps58
      go_wp2
      go_ret
      exact retB_mk (by rw [H.out]; rfl) HW.out
    · have H := hid_ (show ltB ⟨x, y⟩ ⟨x, v⟩ = false by rw [hlt]; exact decide_eq_false (by omega))
      have e3 : decide (y < v) = false := decide_eq_false h2
      clear hlt h2
      go_enter Try.func58, Try.ntmps58
      go_wp2
      go_ret
      exact retB_mk (by rw [H.out]; rfl) HW.out
  · have H := hid_ (show ltB ⟨x, y⟩ ⟨u, v⟩ = false by rw [hlt]; exact decide_eq_false (by omega))
    have e1 : decide (x < u) = false := decide_eq_false (by omega)
    have e2 : (x == u) = false := by simp; omega
    have e3 : ((x : Int) == (u : Int)) = false := by simp; omega
    clear hlt h1
    go_enter Try.func58, Try.ntmps58
    go_wp2
    go_ret
    exact retB_mk (by rw [H.out]; rfl) HW.out
/-- Two points stand, in whatever world has come of w1 by new blocks. -/
abbrev PtTwo (w1 : World) (g1 o1 g2 o2 : Nat) (s t : PtD) (W : World) : Prop :=
  Below w1.heap.size w1 W ∧ W.cell? ⟨g1, o1, none⟩ = some (.int .u64 (s.pos : Nat)) ∧ W.cell? ⟨g1, o1 + 1, none⟩ = some (.int .u64 (s.id : Nat)) ∧ W.cell? ⟨g2, o2, none⟩ = some (.int .u64 (t.pos : Nat)) ∧ W.cell? ⟨g2, o2 + 1, none⟩ = some (.int .u64 (t.id : Nat))
theorem ptTwo_keep {w1 W W' : World} {g1 o1 g2 o2 : Nat} {s t : PtD} (h : PtTwo w1 g1 o1 g2 o2 s t W) (hb : Below W.heap.size W W') : PtTwo w1 g1 o1 g2 o2 s t W' := by
  obtain ⟨h0, a, b, c, d⟩ := h
  exact ⟨h0.trans (hb.mono h0.size), by rw [hb.cell (lt_of_cell a)]; exact a, by rw [hb.cell (lt_of_cell b)]; exact b, by rw [hb.cell (lt_of_cell c)]; exact c, by rw [hb.cell (lt_of_cell d)]; exact d⟩
/-- A point stands, in whatever world is w1 below its size. -/
abbrev PtOne (w1 : World) (g o : Nat) (s : PtD) (W : World) : Prop :=
  Below w1.heap.size w1 W ∧ W.cell? ⟨g, o, none⟩ = some (.int .u64 (s.pos : Nat)) ∧ W.cell? ⟨g, o + 1, none⟩ = some (.int .u64 (s.id : Nat))
theorem ptOne_keep {w1 W W' : World} {g o : Nat} {s : PtD} (h : PtOne w1 g o s W) (hb : Below W.heap.size W W') : PtOne w1 g o s W' := by
  obtain ⟨h0, a, b⟩ := h
  exact ⟨h0.trans (hb.mono h0.size), by rw [hb.cell (lt_of_cell a)]; exact a, by rw [hb.cell (lt_of_cell b)]; exact b⟩
theorem ptOne_keepB {w1 W W' : World} {g o : Nat} {s : PtD} (hg : g < w1.heap.size) (h : PtOne w1 g o s W) (hb : Below w1.heap.size W W') : PtOne w1 g o s W' := by
  obtain ⟨h0, a, b⟩ := h
  exact ⟨h0.trans hb, by rw [hb.cell (p := ⟨g, o, none⟩) hg]; exact a, by rw [hb.cell (p := ⟨g, o + 1, none⟩) hg]; exact b⟩
theorem sorted_snoc {l : List PtD} {k : Nat} (h1 : 1 ≤ k) (hk : k < l.length) (hs : Sorted (l.take k)) (hle : (l[k - 1]'(by omega)).Le l[k]) : Sorted (l.take (k + 1)) := by
  rw [List.take_succ_eq_append_getElem hk]
  refine List.pairwise_append.2 ⟨hs, List.pairwise_singleton _ _, ?_⟩
  intro a ha b hb
  rw [List.mem_singleton.1 hb]
  obtain ⟨i, hi, rfl⟩ := List.getElem_of_mem ha
  have hi' : i < k := by rw [List.length_take] at hi; omega
  rw [List.getElem_take]
  rcases Nat.lt_or_ge i (k - 1) with h | h
  · have := List.pairwise_iff_getElem.1 hs i (k - 1) hi (by rw [List.length_take]; omega) h
    rw [List.getElem_take, List.getElem_take] at this
    exact this.trans hle
  · have : i = k - 1 := by omega
    subst this
    exact hle
def RisesPost (w : World) (l : List PtD) (e : Ending) (w' : World) : Prop := ∃ z : Bool, e = .returned (.bool z) ∧ (z = true → Sorted l) ∧ Below w.heap.size w w'
theorem risesPost_mk {w w' : World} {l : List PtD} {z : Bool} (h : z = true → Sorted l) (hb : Below w.heap.size w w') : RisesPost w l (.returned (.bool z)) w' := ⟨z, rfl, h, hb⟩
set_option maxHeartbeats 4000000 in
theorem rises_any (A : Option Addr) (n c : Nat) (l : List PtD) (w : World) (h : ptE.Row w A n c l) : Calls Try.prog 29 #[.slice A n c] w (RisesPost w l) := by
  have hle := h.le
  have HL := hid_ h.len
  have HR := hid_ h
  clear h
  go_enter Try.func29, Try.ntmps29
  go_wp2_with fail
  go_loopw [3] (fun i wr => ∃ k : Nat, 1 ≤ k ∧ k ≤ n + 1 ∧ i = .int .i64 k ∧ Hid (Sorted (l.take k)) ∧ Hid (Below w.heap.size w wr)) (fun i _ => n + 1 - (intOf i).toNat)
  case atStart => exact ⟨1, by omega, by omega, rfl, hid_ (by rcases l with _ | ⟨p, t⟩ <;> simp [Sorted]), hid_ (Below.refl _ _)⟩
  case round =>
    obtain ⟨k, hk1, hk2, rfl, HS, HB⟩ := hrel
    by_cases hlt : k < n
    · have hkl : k < l.length := by rw [HL.out]; exact hlt
      have hkl' : k - 1 < l.length := by omega
      obtain ⟨g, o, rfl, hg, a1, a2⟩ := pt_at (HR.out.below HB.out) hkl
      obtain ⟨g', o', he, -, b1, b2⟩ := pt_at (HR.out.below HB.out) hkl'
      cases he
      have hsn := hid_ (sorted_snoc hk1 hkl HS.out)
      generalize l[k] = x at *
      generalize l[k - 1] = y at *
      have S0 : PtTwo wr g (o + (k - 1) * 2) g (o + k * 2) y x wr := ⟨Below.refl _ _, b1, b2, a1, a2⟩
      have HA := hid_ (And.intro a1 (And.intro a2 (And.intro b1 b2)))
      have m1 : (0 : Int) ≤ (k : Int) := by omega
      have m2 : (k : Int) < (n : Int) := by omega
      have m3 : (0 : Int) ≤ (k : Int) - 1 := by omega
      have m4 : (k : Int) - 1 < (n : Int) := by omega
      have m5 : (1 : Int) ≤ (k : Int) := by omega
      have m6 : ((k : Int) - 1).toNat = k - 1 := by omega
      have m7 : IntKind.i64.wrap ((k : Int) - 1) = (k : Int) - 1 := IntWalk.i64_in _ (by omega)
      have Hb := hid_ (fun W => refbelow_any y x W)
      have HK := hid_ hlt
      clear a1 a2 b1 b2
      cases hz : ltB y x
      · rw [hz] at Hb
        clear hz
        go_wp2_with fail
        go_region_held3 (PtTwo wr g (o + (k - 1) * 2) g (o + k * 2) y x) (first | assumption | (refine ptTwo_keep (by assumption) (by assumption)) | (refine ptTwo_keep (by assumption) (Below.drew (Below.refl _ _))))
          (first | (go_at_call 58; (with_reducible refine Calls.mono (Hb.out _) ?_); rintro e w' ⟨rfl, hb'⟩) | fail)
        go_wp2_with fail
        go_ret
        exact risesPost_mk (fun h => by cases h) (HB.out.trans (Below.mono (And.left (by assumption)) HB.out.size))
      · rw [hz] at Hb
        have hs2 := hsn.out (ltB_le hz)
        have HS2 := hid_ hs2
        clear hz hs2
        go_wp2_with fail
        go_region_held3 (PtTwo wr g (o + (k - 1) * 2) g (o + k * 2) y x) (first | assumption | (refine ptTwo_keep (by assumption) (by assumption)) | (refine ptTwo_keep (by assumption) (Below.drew (Below.refl _ _))))
          (first | (go_at_call 58; (with_reducible refine Calls.mono (Hb.out _) ?_); rintro e w' ⟨rfl, hb'⟩) | fail)
        go_wp2_with fail
        go_roundw
        case rel => exact ⟨k + 1, by omega, by omega, by go_num, HS2, hid_ (HB.out.trans (Below.mono (And.left (by assumption)) HB.out.size))⟩
        case measure => have := HK.out; simp [intOf]; omega
    · have Hs := hid_ (show Sorted l by have := HS.out; rwa [List.take_of_length_le (by rw [HL.out]; omega)] at this)
      go_wp2_with fail
      go_ret
      exact risesPost_mk (fun _ => Hs.out) HB.out
theorem own_found {l : List PtD} {h k : Nat} (hk : k < l.length) (h1 : ∀ i (hi : i < k), (l[i]'(by omega)).pos < h) (h2 : h ≤ l[k].pos) : ownF l h = l[k].id := by
  have : l.find? (fun p => decide (h ≤ p.pos)) = some l[k] := by
    rw [List.find?_eq_some_iff_getElem]
    refine ⟨decide_eq_true h2, k, hk, rfl, fun j hj => ?_⟩
    have := h1 j hj
    simp only [Bool.not_eq_true', decide_eq_false_iff_not]
    omega
  unfold ownF
  rw [this]
theorem own_none {l : List PtD} {h : Nat} (hn : 0 < l.length) (h1 : ∀ i (hi : i < l.length), l[i].pos < h) : ownF l h = (l[0]'hn).id := by
  have : l.find? (fun p => decide (h ≤ p.pos)) = none := by
    rw [List.find?_eq_none]
    intro p hp
    obtain ⟨i, hi, rfl⟩ := List.getElem_of_mem hp
    have := h1 i hi
    simp only [decide_eq_true_eq]
    omega
  unfold ownF
  rw [this]
  obtain ⟨p, t, rfl⟩ := List.exists_cons_of_ne_nil (List.length_pos_iff.1 hn)
  rfl
set_option maxHeartbeats 4000000 in
theorem of_any (A : Option Addr) (n c : Nat) (l : List PtD) (h : Nat) (w : World) (hr : ptE.Row w A n c l) : Calls Try.prog 64 #[.slice A n c, .int .u64 (h : Nat)] w (RetV w (.int .u64 (ownF l h : Nat))) := by
  have hle := hr.le
  have HL := hid_ hr.len
  have HR := hid_ hr
  clear hr
  go_enter Try.func64, Try.ntmps64
  go_wp2_with fail
  go_loop [5] (fun i => ∃ k : Nat, k ≤ n ∧ i = .int .i64 k ∧ Hid (∀ i (hi : i < k) (hl : i < l.length), l[i].pos < h)) (fun i => n - (intOf i).toNat)
  case atStart => exact ⟨0, by omega, rfl, hid_ (fun i hi => by omega)⟩
  case round =>
    obtain ⟨k, hk, rfl, HK⟩ := hrel
    by_cases hlt : k < n
    · have hkl : k < l.length := by rw [HL.out]; exact hlt
      obtain ⟨g, o, rfl, hg, a1, a2⟩ := pt_at HR.out hkl
      have hf := own_found (h := h) hkl (fun i hi => HK.out i hi (by omega))
      have hn : l[k].pos < h → ∀ i (hi : i < k + 1) (hl : i < l.length), l[i].pos < h := fun hp i hi hl => by
        rcases Nat.lt_or_ge i k with h3 | h3
        · exact HK.out i h3 hl
        · have : i = k := by omega
          subst this
          exact hp
      generalize l[k].pos = x at *
      generalize l[k].id = y at *
      have m1 : (0 : Int) ≤ (k : Int) := by omega
      have m2 : (k : Int) < (n : Int) := by omega
      by_cases hc : h ≤ x
      · have e1 : decide (h ≤ x) = true := decide_eq_true hc
        have Hf := hid_ (hf hc)
        clear hf hn hc
        go_wp2
        go_ret
        exact retV_mk (by rw [Hf.out]; rfl)
      · have e1 : decide (h ≤ x) = false := decide_eq_false hc
        have Hn := hid_ (hn (by omega))
        have HLT := hid_ hlt
        clear hf hn hc
        go_wp2
        go_round
        case rel => exact ⟨k + 1, by have := HLT.out; omega, by go_num, Hn⟩
        case measure => have := HLT.out; simp [intOf]; omega
    · obtain rfl : k = n := by omega
      rcases Nat.eq_zero_or_pos k with h0 | h0
      · subst h0
        have hv := hid_ (show ownF l h = 0 by rw [List.eq_nil_of_length_eq_zero HL.out]; rfl)
        go_wp2
        go_ret
        exact retV_mk (by rw [hv.out]; rfl)
      · have hl0 : 0 < l.length := by rw [HL.out]; exact h0
        obtain ⟨g, o, rfl, hg, -, a2⟩ := pt_at HR.out hl0
        have hv := hid_ (own_none (h := h) hl0 (fun i hi => HK.out i (by have := HL.out; omega) hi))
        rw [Nat.zero_mul, Nat.add_zero] at a2
        generalize l[0].id = y at *
        have e1 : ((k : Int) == 0) = false := by simp; omega
        have e2 : (k == 0) = false := by simp; omega
        have m2 : (0 : Int) < (k : Int) := by omega
        go_wp2
        go_ret
        exact retV_mk (by rw [hv.out]; rfl)
def OwnPost (w : World) (l : List PtD) (e : Ending) (w' : World) : Prop := ∃ A n c, e = .returned (.slice A n c) ∧ ptE.Row w' A n c l ∧ Below w.heap.size w w'
theorem ownPost_mk {w w' : World} {l : List PtD} {A : Option Addr} {n c : Nat} (h : ptE.Row w' A n c l) (hb : Below w.heap.size w w') : OwnPost w l (.returned (.slice A n c)) w' := ⟨A, n, c, rfl, h, hb⟩
set_option maxHeartbeats 8000000 in
theorem own_any (A : Option Addr) (n c : Nat) (l : List PtD) (w : World) (h : ptE.Row w A n c l) (hn : n ≤ 1000000) : Calls Try.prog 32 #[.slice A n c] w (OwnPost w l) := by
  have HL := hid_ h.len
  have HR := hid_ h
  clear h
  go_enter Try.func32, Try.ntmps32
  go_wp2_with fail
  go_loopw [3, 4] (fun v3 i wr => ∃ (k : Nat) (A' : Option Addr) (c' : Nat), k ≤ n ∧ i = .int .i64 k ∧ v3 = .slice A' k c' ∧ Hid (OwnPt w.heap.size wr A' k c' (l.take k)) ∧ Hid (Below w.heap.size w wr)) (fun _ i _ => n - (intOf i).toNat)
  case atStart => exact ⟨0, none, 0, by omega, rfl, rfl, hid_ (Enc.Own.none _ _), hid_ (Below.refl _ _)⟩
  case round =>
    obtain ⟨k, A', c', hk, rfl, rfl, HO, HB⟩ := hrel
    have hsz := HB.out.size
    by_cases hlt : k < n
    · have hkl : k < l.length := by rw [HL.out]; exact hlt
      obtain ⟨g, o, rfl, hg, a1, a2⟩ := pt_at HR.out hkl
      have HT := hid_ (show l.take k ++ [l[k]] = l.take (k + 1) from (List.take_succ_eq_append_getElem hkl).symm)
      generalize l[k] = x at *
      have S0 : PtOne w g (o + k * 2) x wr := ⟨HB.out, by rw [HB.out.cell (p := ⟨g, o + k * 2, none⟩) hg]; exact a1, by rw [HB.out.cell (p := ⟨g, o + k * 2 + 1, none⟩) hg]; exact a2⟩
      have m1 : (0 : Int) ≤ (k : Int) := by omega
      have m2 : (k : Int) < (n : Int) := by omega
      have HK := hid_ hlt
      clear a1 a2
      go_wp2_with fail
      go_region_held3 (PtOne w g (o + k * 2) x) (first | assumption | (refine ptOne_keep (by assumption) (by assumption)) | (refine ptOne_keep (by assumption) (Below.drew (Below.refl _ _))) | (refine ptOne_keep (by assumption) (Below.alloc (Below.refl _ _) (Nat.le_refl _) _)) | (refine ptOne_keepB hg (by assumption) (by assumption)))
        (first
          | (refine Enc.step_rows (E := ptE) (e := 107) (by rfl) (.tmp 11) (.tmp 23) 56 (by rfl) _ 16 Try.underlying56 info_pt rfl w.heap.size A' k c' (l.take k) (by rfl) ?_ (some ⟨wr.heap.size, 0, none⟩) 1 1 [x] (by rfl) ?_ (k + 1) (l.take (k + 1)) (by rfl) HT.out (by omega) (by omega) ?_ ?_; (exact (HO.out.later (by first | exact Below.alloc (Below.drew (Below.refl _ _)) (Nat.le_refl _) _ | exact Below.drew (Below.alloc (Below.refl _ _) (Nat.le_refl _) _)))); (exact (pt_new _ _ _ _).below (Below.drew (Below.refl _ _))); (exact Below.size (And.left (by assumption))); (intro A3 c3 w3 ho3 hb3 hg3))
          | fail)
      go_wp2_with fail
      go_roundw
      case rel => exact ⟨k + 1, A3, c3, by have := HK.out; omega, by go_num, rfl, hid_ ho3, hid_ (And.left (by assumption))⟩
      case measure => have := HK.out; simp [intOf]; omega
    · obtain rfl : k = n := by omega
      have Hrow := hid_ (show ptE.Row wr A' k c' l by have := HO.out.row; rwa [List.take_of_length_le (by rw [HL.out]; omega)] at this)
      go_wp2_with fail
      go_ret
      exact ownPost_mk Hrow.out HB.out
section
open Go.ChangeShapes Go.WideShapes
theorem cells_u64 : Try.prog.cellsOf 60 = 1 := by kernel_rfl
theorem cells_pt : Try.prog.cellsOf 101 = 2 := by kernel_rfl
theorem two_cells {cs : List Value} (h : cs.length = 2) : ∃ a b, cs = [a, b] := by
  match cs, h with
  | [a, b], _ => exact ⟨a, b, rfl⟩
variable {H : Type} {enc : TypeId × Value → H} {w : World} {base : Nat} {spare : Nat → Bool} {held : Bool} {fuel : Nat}
/-- A point whose numbers fit. -/
def PtD.Wf (p : PtD) : Prop := p.pos < 18446744073709551616 ∧ p.id < 18446744073709551616
theorem pt_cells {cs : List Value} {x : DataW H × List MemPlace} (h : DataW.trod enc Try.prog w base spare held fuel 101 cs = some x) : ∃ s : PtD, s.Wf ∧ cs = cfP s := by
  obtain ⟨xs, n, _, _, hlen, hxl, hf⟩ := DataW.trod_struct Try.underlying101 h
  rw [cells_pt] at hlen
  obtain ⟨a, b, rfl⟩ := two_cells hlen
  have hxl' : xs.length = 2 := hxl
  have h0 : DataW.trod enc Try.prog w base spare held n 60 (([a, b].drop 0).take (Try.prog.cellsOf 60)) = xs[0]? := hf 0 _ rfl
  have h1 : DataW.trod enc Try.prog w base spare held n 60 (([a, b].drop 1).take (Try.prog.cellsOf 60)) = xs[1]? := hf 1 _ rfl
  rw [cells_u64] at h0 h1
  rw [List.getElem?_eq_getElem (by omega)] at h0 h1
  obtain ⟨n0, e0, _, w0⟩ := DataW.trod_int Try.underlying60 h0
  obtain ⟨n1, e1, _, w1⟩ := DataW.trod_int Try.underlying60 h1
  obtain ⟨m0, rfl, g0⟩ := u64_of w0
  obtain ⟨m1, rfl, g1⟩ := u64_of w1
  simp at e0 e1
  exact ⟨⟨m0, m1⟩, ⟨g0, g1⟩, by rw [e0, e1]; rfl⟩
/-- What a list of points that came in is known to be. -/
def PtsV (w : World) (v : Value) : Prop := ∃ A n c ss, v = .slice A n c ∧ ptE.Row w A n c ss ∧ ∀ s ∈ ss, s.Wf
set_option maxRecDepth 100000 in
theorem open_ptsV {v : Value} {d : DataW H} {p : List MemPlace} {x : Reach} {r : Nat}
    (hv : Value.okWide Try.prog w x r 52 v) (h : DataW.Trod enc Try.prog w base (fun _ => true) held 52 v d p) : PtsV w v := by
  obtain ⟨a0, len0, cap0, rfl⟩ := okWide_slice Try.underlying52 hv
  obtain ⟨fuel, hf⟩ := h
  rcases Go.Deep.open_slice Try.underlying52 hf with ⟨hcs, _⟩ | ⟨a, len, cap, m, n, D, Pl, hcs, _, h1, h2, hm, _, h3⟩
  · simp [Value.cells] at hcs
    obtain ⟨rfl, rfl, rfl⟩ := hcs
    exact ⟨_, _, _, [], rfl, Enc.Row.none w, by simp⟩
  · simp [Value.cells] at hcs
    obtain ⟨rfl, rfl, rfl⟩ := hcs
    simp only [if_true] at hm
    subst hm
    have hone : ∀ k, k < m → ∃ s : PtD, s.Wf ∧ ∀ j u, (cfP s)[j]? = some u → w.cell? ((a.add (k * 2)).add j) = some u := fun k hk => by
      obtain ⟨cs', g1, g2⟩ := h3 k hk
      rw [cells_pt] at g1
      obtain ⟨s, hs, rfl⟩ := pt_cells g2
      obtain ⟨_, _, hat⟩ := World.cells?_some g1
      refine ⟨s, hs, fun j u hu => ?_⟩
      have hj : j < 2 := (List.getElem?_eq_some_iff.1 hu).1
      rw [hat j hj]
      exact hu
    obtain ⟨f, hf'⟩ := Go.Deep.choose_lt hone
    refine ⟨_, _, _, (List.range len0).map f, rfl, ⟨fun hne => ?_, by simp, h1, by unfold maxLen at h2; omega, fun e => by cases e⟩, ?_⟩
    · have hpos : 0 < len0 := by
        rcases Nat.eq_zero_or_pos len0 with e | e
        · subst e; exact absurd rfl hne
        · exact e
      obtain ⟨b, off, spot⟩ := a
      have h0 := (hf' 0 (by omega)).2 0 _ rfl
      have hs : spot = none := by simpa [Addr.add] using World.cell?_spot h0
      subst hs
      refine ⟨b, off, rfl, fun k u hu => ?_⟩
      have hk : k < len0 * 2 := by
        have := (List.getElem?_eq_some_iff.1 hu).1
        rw [ptE.all_length, List.length_map, List.length_range] at this
        exact this
      have hk2 : k / 2 < ((List.range len0).map f).length := by simp; omega
      have hm := ptE.all_get _ hk2 (k % 2) (by show _ < 2; omega)
      rw [show k / 2 * ptE.K + k % 2 = k by show k / 2 * 2 + k % 2 = k; omega, hu] at hm
      rw [List.getElem_map, List.getElem_range] at hm
      have h4 := (hf' (k / 2) (by omega)).2 (k % 2) u hm.symm
      rwa [add_plain, add_plain, show off + k / 2 * 2 + k % 2 = off + k by omega] at h4
    · intro s hs
      obtain ⟨k, hk, rfl⟩ := List.mem_map.1 hs
      exact (hf' k (by have := List.mem_range.1 hk; omega)).1
end
end Rg
end Go.Proofs.Ytgmeggilojcoeaa

/-
  The law's test that two rings read alike.
-/
namespace Go.Proofs.Ytgmeggilojcoeaa
set_option linter.unusedSimpArgs false
set_option linter.unusedVariables false
open Go.RowKit
namespace Rg
set_option linter.unusedSimpArgs false
set_option linter.unusedVariables false
end Rg
end Go.Proofs.Ytgmeggilojcoeaa
