/-
  What the reference's Sort answers; that two lists sorted and alike are one.
-/
import Derived.Test.YtnphbefnmbagfaaSpSort
namespace Go.Proofs.Ytnphbefnmbagfaa
open Go.RowKit Ru
attribute [local go_sem ↓] Go.wp_at_zero Go.wp_at_succ

theorem alike_cons {x : SpanD} {l r : List SpanD} (h : Alike (x :: l) (x :: r)) : Alike l r := by
  intro p q
  have h1 := h p q
  rw [List.filter_cons, List.filter_cons] at h1
  by_cases hk : key p q x = true
  · rw [if_pos hk, if_pos hk] at h1
    injection h1
  · rw [if_neg hk, if_neg hk] at h1
    exact h1
/-- Sorted lists that are alike are one. -/
theorem sorted_one : ∀ {l r : List SpanD}, Sorted l → Sorted r → Alike l r → l = r
  | [], [], _, _, _ => rfl
  | [], y :: r, _, _, h => by
    have := h.mem (x := y) (by simp)
    cases this
  | x :: l, [], _, _, h => by
    have := h.symm.mem (x := x) (by simp)
    cases this
  | x :: l, y :: r, hl, hr, h => by
    have hx : x ∈ y :: r := h.symm.mem (by simp)
    have hy : y ∈ x :: l := h.mem (by simp)
    have h1 : ¬ Lt x y := by
      rcases List.mem_cons.1 hx with e | e
      · subst e; unfold Lt; omega
      · exact (List.pairwise_cons.1 hr).1 x e
    have h2 : ¬ Lt y x := by
      rcases List.mem_cons.1 hy with e | e
      · subst e; unfold Lt; omega
      · exact (List.pairwise_cons.1 hl).1 y e
    have hk : y.start = x.start ∧ y.id = x.id := by unfold Lt at h1 h2; omega
    have e : x = y := by
      have h3 := h x.start x.id
      rw [List.filter_cons, List.filter_cons, if_pos (key_iff.2 ⟨rfl, rfl⟩), if_pos (key_iff.2 hk)] at h3
      injection h3
    subst e
    rw [sorted_one (List.pairwise_cons.1 hl).2 (List.pairwise_cons.1 hr).2 (alike_cons h)]

theorem OwnSp.upto {B : Nat} {w : World} {A : Option Addr} {n c : Nat} {ss : List SpanD} (h : OwnSp B w A n c ss) (m : Nat) (hm : m ≤ n) : SpanRow w A m c (ss.take m) := by
  have hr := h.row
  refine ⟨fun hne => ?_, by rw [List.length_take, hr.len]; omega, by have := hr.cap; omega, hr.max, hr.nil⟩
  obtain ⟨b, off, e, hc⟩ := hr.holds (by rintro rfl; simp at hne)
  exact ⟨b, off, e, fun k hk => by rw [List.getElem_take]; exact hc k (by rw [List.length_take] at hk; omega)⟩
/-- The place of s[m:], as the model has it. -/
def cutSp (A : Option Addr) (c m : Nat) : Option Addr := if c = m then A else A.map fun x => x.add (m * 8)
theorem OwnSp.from_at {B : Nat} {w : World} {A : Option Addr} {n c : Nat} {ss : List SpanD} (h : OwnSp B w A n c ss) (m : Nat) (hm : m ≤ n) : SpanRow w (cutSp A c m) (n - m) (c - m) (ss.drop m) := by
  have hr := h.row
  have hcap := hr.cap
  refine ⟨fun hne => ?_, by rw [List.length_drop, hr.len], by omega, by have := hr.max; omega, ?_⟩
  · obtain ⟨b, off, rfl, hc⟩ := hr.holds (by rintro rfl; simp at hne)
    have hlt : m < ss.length := by
      rcases Nat.lt_or_ge m ss.length with h1 | h1
      · exact h1
      · exact absurd (List.drop_eq_nil_of_le h1) hne
    have hcm : ¬ c = m := by have := hr.len; omega
    refine ⟨b, off + m * 8, by unfold cutSp; rw [if_neg hcm, Option.map_some, add_plain], fun k hk => ?_⟩
    rw [List.getElem_drop]
    have := hc (m + k) (by rw [List.length_drop] at hk; omega)
    rwa [Nat.add_mul, ← Nat.add_assoc] at this
  · intro e
    unfold cutSp at e
    split at e
    · omega
    · rcases A with _ | a
      · have := hr.nil rfl; omega
      · cases e
/-- append(s, x..) on spans as one step of a region that draws its order. -/
theorem step_spans {w : World} {ops : Array Oper} {o : Oper} {a : Act} {K : Act → World → Prop} {Q : Exit → Act → World → Prop} {E : Prop} (hgd : Region.wanted o (yielded ops a.tmps) = true) (s x : Operand)
    (ho : o.op = .call { callee := .builtin .append, args := #[s, x], argTypes := #[39, 39] })
    (B : Nat) (A0 : Option Addr) (n0 c0 : Nat) (l0 : List SpanD) (hs : a.eval s = .slice A0 n0 c0) (hown : OwnSp B w A0 n0 c0 l0)
    (A : Option Addr) (m c : Nat) (l : List SpanD) (hx : a.eval x = .slice A m c) (hl : SpanRow w A m c l)
    (N : Nat) (ys : List SpanD) (hN : n0 + m = N) (hys : l0 ++ l = ys) (hroom : N ≤ 1000000000000) (hB : B ≤ w.heap.size)
    (h : ∀ A' c' w', OwnSp B w' A' N c' ys → Below B w w' → w.grownBy w' (Value.slice A0 n0 c0).ownBlock → K (a.put o.dst (.slice A' N c')) w') :
    if Region.wanted o (yielded ops a.tmps) = true then Oper.wp Try.prog o a w K Q else E := by
  subst hys
  rw [if_pos hgd]
  obtain ⟨i0, hi0, hz0, hz1, hz2⟩ := info_parts info_span
  obtain ⟨A', c', w', hrun, h2, h3, _⟩ := run_app (P := Try.prog) w B 39 o.type 28 i0 _ 8 80 Try.underlying39 hi0 hz0 hz1 hz2 rfl (by omega) (.slice A0 n0 c0) n0 (cellsAll l0) hown A m c (cellsAll l)
    (by rw [cellsAll_length, hl.len]) hl.cells hl.nil (cellsAll_one l) N (cellsAll (l0 ++ l)) hN (cellsAll_append l0 l).symm (by unfold maxLen; omega) (by omega) hB
  unfold Oper.wp execOp
  simp only [ho, resolve, invoke, builtin, Sem.run_bind, Sem.run_pure, Result.andThen_ok, List.map_toArray, List.map_cons, List.map_nil, hs, hx, hrun]
  exact h A' c' w' h2 ((Below.refl B w).grown h3 hB (own_from hown)) h3

/-- Two spans stand, in whatever world has come of w1 by new blocks. -/
abbrev Pair2 (w1 : World) (g1 o1 g2 o2 : Nat) (s t : SpanD) (W : World) : Prop :=
  Below w1.heap.size w1 W ∧ W.cell? ⟨g1, o1, none⟩ = some (.int .u64 (s.trace : Nat)) ∧ W.cell? ⟨g1, o1 + 1, none⟩ = some (.int .u64 (s.id : Nat)) ∧ W.cell? ⟨g1, o1 + 2, none⟩ = some (.int .u64 (s.parent : Nat)) ∧
    W.cell? ⟨g1, o1 + 3, none⟩ = some (.int .u64 (s.start : Nat)) ∧ W.cell? ⟨g1, o1 + 4, none⟩ = some (.int .u64 (s.len : Nat)) ∧ W.cell? ⟨g1, o1 + 5, none⟩ = some (.string s.service) ∧ W.cell? ⟨g1, o1 + 6, none⟩ = some (.string s.name) ∧ W.cell? ⟨g1, o1 + 7, none⟩ = some (.bool s.fail) ∧
    W.cell? ⟨g2, o2, none⟩ = some (.int .u64 (t.trace : Nat)) ∧ W.cell? ⟨g2, o2 + 1, none⟩ = some (.int .u64 (t.id : Nat)) ∧ W.cell? ⟨g2, o2 + 2, none⟩ = some (.int .u64 (t.parent : Nat)) ∧
    W.cell? ⟨g2, o2 + 3, none⟩ = some (.int .u64 (t.start : Nat)) ∧ W.cell? ⟨g2, o2 + 4, none⟩ = some (.int .u64 (t.len : Nat)) ∧ W.cell? ⟨g2, o2 + 5, none⟩ = some (.string t.service) ∧ W.cell? ⟨g2, o2 + 6, none⟩ = some (.string t.name) ∧ W.cell? ⟨g2, o2 + 7, none⟩ = some (.bool t.fail)
theorem pair2_of {w1 W : World} {g1 o1 g2 o2 : Nat} {s t : SpanD} (h : Below w1.heap.size w1 W) (hs : SpanAt W g1 o1 s) (ht : SpanAt W g2 o2 t) : Pair2 w1 g1 o1 g2 o2 s t W :=
  ⟨h, hs.c0, hs.c1, hs.c2, hs.c3, hs.c4, hs.c5, hs.c6, hs.c7, ht.c0, ht.c1, ht.c2, ht.c3, ht.c4, ht.c5, ht.c6, ht.c7⟩
theorem pair2_keep {w1 W W' : World} {g1 o1 g2 o2 : Nat} {s t : SpanD} (h : Pair2 w1 g1 o1 g2 o2 s t W) (hb : Below W.heap.size W W') : Pair2 w1 g1 o1 g2 o2 s t W' := by
  obtain ⟨h0, a0, a1, a2, a3, a4, a5, a6, a7, b0, b1, b2, b3, b4, b5, b6, b7⟩ := h
  exact pair2_of (h0.trans (hb.mono h0.size)) (SpanAt.keep ⟨a0, a1, a2, a3, a4, a5, a6, a7⟩ fun p hp => hb.cell hp) (SpanAt.keep ⟨b0, b1, b2, b3, b4, b5, b6, b7⟩ fun p hp => hb.cell hp)

/-- A span stands, in whatever world has come of w1 by new blocks. -/
abbrev OneIn (w1 : World) (g o : Nat) (s : SpanD) (W : World) : Prop :=
  Below w1.heap.size w1 W ∧ W.cell? ⟨g, o, none⟩ = some (.int .u64 (s.trace : Nat)) ∧ W.cell? ⟨g, o + 1, none⟩ = some (.int .u64 (s.id : Nat)) ∧ W.cell? ⟨g, o + 2, none⟩ = some (.int .u64 (s.parent : Nat)) ∧
    W.cell? ⟨g, o + 3, none⟩ = some (.int .u64 (s.start : Nat)) ∧ W.cell? ⟨g, o + 4, none⟩ = some (.int .u64 (s.len : Nat)) ∧ W.cell? ⟨g, o + 5, none⟩ = some (.string s.service) ∧ W.cell? ⟨g, o + 6, none⟩ = some (.string s.name) ∧ W.cell? ⟨g, o + 7, none⟩ = some (.bool s.fail)
theorem oneIn_of {w1 W : World} {g o : Nat} {s : SpanD} (h : Below w1.heap.size w1 W) (hs : SpanAt W g o s) : OneIn w1 g o s W := ⟨h, hs.c0, hs.c1, hs.c2, hs.c3, hs.c4, hs.c5, hs.c6, hs.c7⟩
theorem oneIn_keep {w1 W W' : World} {g o : Nat} {s : SpanD} (h : OneIn w1 g o s W) (hb : Below W.heap.size W W') : OneIn w1 g o s W' := by
  obtain ⟨h0, a0, a1, a2, a3, a4, a5, a6, a7⟩ := h
  exact oneIn_of (h0.trans (hb.mono h0.size)) (SpanAt.keep ⟨a0, a1, a2, a3, a4, a5, a6, a7⟩ fun p hp => hb.cell hp)
theorem oneIn_keepB {w1 W W' : World} {g o : Nat} {s : SpanD} (hg : g < w1.heap.size) (h : OneIn w1 g o s W) (hb : Below w1.heap.size W W') : OneIn w1 g o s W' := by
  obtain ⟨h0, a0, a1, a2, a3, a4, a5, a6, a7⟩ := h
  have k : ∀ o', W'.cell? ⟨g, o', none⟩ = W.cell? ⟨g, o', none⟩ := fun o' => hb.cell (p := ⟨g, o', none⟩) hg
  exact ⟨h0.trans hb, by rw [k]; exact a0, by rw [k]; exact a1, by rw [k]; exact a2, by rw [k]; exact a3, by rw [k]; exact a4, by rw [k]; exact a5, by rw [k]; exact a6, by rw [k]; exact a7⟩
theorem row_one_at (w : World) (g : Nat) (s : SpanD) (T : TypeId) (h : g = w.heap.size) : SpanRow (w.alloc (.cells (spanCells s) T)) (some ⟨g, 0, none⟩) 1 1 [s] := by
  subst h
  exact row_one w s T
theorem SpanRow.place {w : World} {A A' : Option Addr} {n c c' : Nat} {ss : List SpanD} (h : SpanRow w A n c ss) (e : A = A') (e2 : c = c') : SpanRow w A' n c' ss := by subst e e2; exact h
theorem OwnSp.mono {B B' : Nat} {w : World} {A : Option Addr} {n c : Nat} {ss : List SpanD} (h : OwnSp B w A n c ss) (hB : B' ≤ B) : OwnSp B' w A n c ss := by
  obtain ⟨hx, h | ⟨g, cap, cur, e, hg, r⟩⟩ := h
  · exact ⟨hx, .inl h⟩
  · exact ⟨hx, .inr ⟨g, cap, cur, e, by omega, r⟩⟩
theorem ownSp_empty_at (w : World) (g : Nat) (T : TypeId) (hT : T = 28) (B : Nat) (hB : B ≤ w.heap.size) (h : g = w.heap.size) : OwnSp B (w.alloc (.cells #[] T)) (some ⟨g, 0, none⟩) 0 0 [] := by
  subst h
  exact ownSp_empty w T hT B hB
/-- A literal of one span is kept where another row grows. -/
theorem lit_kept {W W' : World} {gl : Nat} {s : SpanD} {row : Option Nat} (h : SpanRow W (some ⟨gl, 0, none⟩) 1 1 [s]) (hg : W.grownBy W' row) (hne : some gl ≠ row) : SpanRow W' (some ⟨gl, 0, none⟩) 1 1 [s] := by
  obtain ⟨b, off, e, hat⟩ := h.at_ (k := 0) (by simp)
  cases e
  have hlt := hat.lt
  have k : ∀ o', W'.cell? ⟨gl, o', none⟩ = W.cell? ⟨gl, o', none⟩ := fun o' => World.cell?_of_block (hg.block gl hlt hne)
  refine ⟨fun _ => ⟨gl, 0, rfl, fun j hj => ?_⟩, rfl, Nat.le_refl _, by omega, fun e => by cases e⟩
  obtain rfl : j = 0 := by simpa using hj
  obtain ⟨a0, a1, a2, a3, a4, a5, a6, a7⟩ := hat
  exact ⟨by rw [k]; exact a0, by rw [k]; exact a1, by rw [k]; exact a2, by rw [k]; exact a3, by rw [k]; exact a4, by rw [k]; exact a5, by rw [k]; exact a6, by rw [k]; exact a7⟩
set_option maxRecDepth 100000 in
set_option maxHeartbeats 8000000 in
theorem refsort_any (A : Option Addr) (n c : Nat) (ss : List SpanD) (w : World) (hs : SpanRow w A n c ss) (hn : n ≤ 1000000) :
    Calls Try.prog 27 #[.slice A n c] w (SortPost w n ss) := by
  have Hs := hid_ hs
  have Hlen := hid_ hs.len
  have hnc := hs.cap
  have hcm := hs.max
  clear hs
  go_enter Try.func27, Try.ntmps27
  go_wp2_with fail
  go_loopw [3, 4] (fun vo vi wr => ∃ (i : Nat) (A0 : Option Addr) (c0 : Nat) (os : List SpanD), vi = .int .i64 (i : Nat) ∧ vo = .slice A0 i c0 ∧ i ≤ n ∧ OwnSp w.heap.size wr A0 i c0 os ∧ Hid (Sorted os) ∧ Hid (Alike (ss.take i) os) ∧ Below w.heap.size w wr) (fun _ vi _ => n - (intOf vi).toNat)
  case atStart => exact ⟨0, none, 0, [], rfl, rfl, by omega, OwnSp.none _ _, hid_ List.Pairwise.nil, hid_ (Alike.refl _), Below.refl _ _⟩
  case round =>
    obtain ⟨i, A0, c0, os, rfl, rfl, hin, ho, Hso, Hal, hb⟩ := hrel
    have Ho := hid_ ho
    have Hb := hid_ hb
    have Hol := hid_ ho.len
    have hc0 := ho.row.cap
    have hc0m := ho.row.max
    clear ho hb
    by_cases hlt : i < n
    · have e1 : decide (i < n) = true := decide_eq_true hlt
      have hil : i < ss.length := by rw [Hlen.out]; exact hlt
      have Htk := hid_ (show ss.take (i + 1) = ss.take i ++ [ss[i]] from List.take_succ_eq_append_getElem hil)
      have Hx := hid_ (fun W (h : Below w.heap.size w W) => (Hs.out.below h).at_ hil)
      generalize ss[i] = x at *
      obtain ⟨wo, rfl⟩ : ∃ wo : World, wo = wr := ⟨_, rfl⟩
      go_wp2_with fail
      go_loopw [5] (fun vk wr => ∃ k : Nat, vk = .int .i64 (k : Nat) ∧ k ≤ i ∧ Hid (∀ y ∈ os.drop k, Lt x y) ∧ Below wo.heap.size wo wr) (fun vk _ => (intOf vk).toNat)
      case atStart => exact ⟨i, rfl, Nat.le_refl _, hid_ (by rw [List.drop_eq_nil_of_le (by rw [Hol.out]; omega)]; intro y hy; cases hy), Below.refl _ _⟩
      case round =>
        obtain ⟨k, rfl, hki, Hv, hb2⟩ := hrel
        have Hb2 := hid_ hb2
        have Hbw := hid_ (Hb.out.trans (hb2.mono Hb.out.size))
        have Ho2 := hid_ (Ho.out.later hb2)
        clear hb2
        obtain ⟨b, off, hA, s1⟩ := Hx.out wr Hbw.out
        subst hA
        rcases Nat.eq_zero_or_pos k with h0 | h0
        · subst h0
          have hgd : decide ((0 : Int) < ((0 : Nat) : Int)) = false := decide_eq_false (by omega)
          have n3 : (i : Int) < (n : Int) := by omega
          have S1 := hid_ s1
          have Hins := hid_ (insert_ok (a := os.take 0) (b := os.drop 0) (x := x) (by rw [List.take_append_drop]; exact Hso.out) (.inl rfl) Hv.out)
          clear s1
          rcases A0 with _ | ⟨g2, off2, sp2⟩
          · have Hpl := hid_ (show cutSp (none : Option Addr) c0 0 = none by unfold cutSp; split <;> rfl)
            · skip
              go_wp2_with fail
              go_quiet (fail)
              obtain ⟨w', hw'⟩ : ∃ x : World, wr.drewN nq = x := ⟨_, rfl⟩
              have Hb8 : Hid (Below wr.heap.size wr w') := hid_ (by rw [← hw']; exact below_drewN (Below.refl _ _) nq)
              have Hb8w := hid_ (Hbw.out.trans (Hb8.out.mono Hbw.out.size))
              have Ho8 := hid_ (Ho2.out.later Hb8.out)
              have hS8 := oneIn_of (Below.refl w'.heap.size w') (S1.out.keep fun p hp => Hb8.out.cell hp)
              have hbl : b < w'.heap.size := lt_of_cell hS8.2.1
              rw [hw']
              clear hw'
              have i1 : (0 : Int) ≤ (i : Int) := by omega
              have i2 : (i : Int) ≤ (c0 : Int) := by omega
              have i4 : (0 : Int) ≤ (c0 : Int) := by omega
              go_wp2_with fail
              go_region_held3 (OneIn w' b (off + i * 8) x) (first | assumption | (refine oneIn_keep (by assumption) (by assumption)) | (refine oneIn_keep (by assumption) (Below.drew (Below.refl _ _))) | (refine oneIn_keep (by assumption) (Below.alloc (Below.refl _ _) (Nat.le_refl _) _)) | (refine oneIn_keepB hbl (by assumption) (by assumption)))
                (first
                  | (refine step_spans (by rfl) (.tmp 30) (.tmp 33) (by rfl) w'.heap.size _ 0 0 [] (by rfl) ?_ _ 0 _ (os.take 0) (by rfl) ?_ 0 (os.take 0) (by omega) (by rfl) (by omega) ?_ ?_; (first | exact ownSp_empty _ _ rfl _ (by simp) | exact World.ownsRow.alloc (ownSp_empty _ _ rfl _ (by simp)) _ | exact ownSp_empty_at _ _ _ rfl _ (by simp) (by simp) | exact World.ownsRow.alloc (ownSp_empty_at _ _ _ rfl _ (by simp) (by simp)) _); (exact ((Ho8.out.later (And.left (by assumption))).upto 0 (by omega)).place rfl (by omega)); (exact Below.size (And.left (by assumption))); (intro A1 c1 w1 ho1 hb1 hg1); (try (have hlit := lit_kept (gl := w'.heap.size + 1) (s := x) (hg := hg1) (h := by first | exact row_one_at _ _ _ _ (by simp) | exact (row_one_at _ _ _ _ (by simp)).below (Below.drew (Below.refl _ _))) (hne := by simp [Value.ownBlock]))); (try (have hlit := lit_kept (gl := w'.heap.size) (s := x) (hg := hg1) (h := by first | exact (row_one_at _ _ _ _ (by simp)).below ((Below.refl _ _).alloc (Nat.le_refl _) _) | exact (row_one_at _ _ _ _ (by simp)).below (Below.drew ((Below.refl _ _).alloc (Nat.le_refl _) _))) (hne := by simp [Value.ownBlock]))))
                  | (refine step_spans (by rfl) (.tmp 34) (.tmp 39) (by rfl) w'.heap.size A1 0 c1 (os.take 0) (by rfl) ?_ _ 1 1 [x] (by rfl) ?_ 1 (os.take 0 ++ [x]) (by rfl) (by rfl) (by omega) ?_ ?_; (first | exact ho1 | exact World.ownsRow.alloc ho1 _); (first | exact hlit | exact row_one_at _ _ _ _ (by simp)); (exact Below.size (And.left (by assumption))); (intro A2 c2 w2 ho2 hb2 hg2))
                  | (refine step_spans (by rfl) (.tmp 40) (.tmp 43) (by rfl) w'.heap.size A2 1 c2 (os.take 0 ++ [x]) (by rfl) ho2 _ _ _ (os.drop 0) (by rfl) ?_ (i + 1) (os.take 0 ++ [x] ++ os.drop 0) (by omega) (by rfl) (by omega) ?_ ?_; (exact ((Ho8.out.later (And.left (by assumption))).from_at 0 (by omega)).place Hpl.out (by omega)); (exact Below.size (And.left (by assumption))); (intro A3 c3 w3 ho3 hb3 hg3))
                  | fail)
              all_goals
                go_wp2_with fail
                go_roundw
                case rel =>
                  refine ⟨i + 1, A3, c3, os.take 0 ++ [x] ++ os.drop 0, by go_num, rfl, by omega, ho3.mono Hb8w.out.size, hid_ (by rw [List.append_assoc]; exact Hins.out.1), hid_ (by rw [Htk.out, List.append_assoc]; exact (Hal.out.append (Alike.refl [x])).trans (by have h := Hins.out.2; rw [List.take_append_drop] at h; exact h)), Hb8w.out.trans (Below.mono ?_ Hb8w.out.size)⟩
                  exact And.left (by assumption)
                case measure => simp [intOf]; omega
          · have hsp : sp2 = none ∧ off2 = 0 := by
              obtain ⟨_, ⟨e, _⟩ | ⟨g, cap, cur, e, _⟩⟩ := Ho2.out
              · cases e
              · cases e; exact ⟨rfl, rfl⟩
            obtain ⟨rfl, rfl⟩ := hsp
            have Hpl := hid_ (show cutSp (some (⟨g2, 0, none⟩ : Addr)) c0 0 = some ⟨g2, 0, none⟩ by unfold cutSp; split <;> rfl)
            · skip
              go_wp2_with fail
              go_quiet (fail)
              obtain ⟨w', hw'⟩ : ∃ x : World, wr.drewN nq = x := ⟨_, rfl⟩
              have Hb8 : Hid (Below wr.heap.size wr w') := hid_ (by rw [← hw']; exact below_drewN (Below.refl _ _) nq)
              have Hb8w := hid_ (Hbw.out.trans (Hb8.out.mono Hbw.out.size))
              have Ho8 := hid_ (Ho2.out.later Hb8.out)
              have hS8 := oneIn_of (Below.refl w'.heap.size w') (S1.out.keep fun p hp => Hb8.out.cell hp)
              have hbl : b < w'.heap.size := lt_of_cell hS8.2.1
              rw [hw']
              clear hw'
              have i1 : (0 : Int) ≤ (i : Int) := by omega
              have i2 : (i : Int) ≤ (c0 : Int) := by omega
              have i4 : (0 : Int) ≤ (c0 : Int) := by omega
              go_wp2_with fail
              go_region_held3 (OneIn w' b (off + i * 8) x) (first | assumption | (refine oneIn_keep (by assumption) (by assumption)) | (refine oneIn_keep (by assumption) (Below.drew (Below.refl _ _))) | (refine oneIn_keep (by assumption) (Below.alloc (Below.refl _ _) (Nat.le_refl _) _)) | (refine oneIn_keepB hbl (by assumption) (by assumption)))
                (first
                  | (refine step_spans (by rfl) (.tmp 30) (.tmp 33) (by rfl) w'.heap.size _ 0 0 [] (by rfl) ?_ _ 0 _ (os.take 0) (by rfl) ?_ 0 (os.take 0) (by omega) (by rfl) (by omega) ?_ ?_; (first | exact ownSp_empty _ _ rfl _ (by simp) | exact World.ownsRow.alloc (ownSp_empty _ _ rfl _ (by simp)) _ | exact ownSp_empty_at _ _ _ rfl _ (by simp) (by simp) | exact World.ownsRow.alloc (ownSp_empty_at _ _ _ rfl _ (by simp) (by simp)) _); (exact ((Ho8.out.later (And.left (by assumption))).upto 0 (by omega)).place rfl (by omega)); (exact Below.size (And.left (by assumption))); (intro A1 c1 w1 ho1 hb1 hg1); (try (have hlit := lit_kept (gl := w'.heap.size + 1) (s := x) (hg := hg1) (h := by first | exact row_one_at _ _ _ _ (by simp) | exact (row_one_at _ _ _ _ (by simp)).below (Below.drew (Below.refl _ _))) (hne := by simp [Value.ownBlock]))); (try (have hlit := lit_kept (gl := w'.heap.size) (s := x) (hg := hg1) (h := by first | exact (row_one_at _ _ _ _ (by simp)).below ((Below.refl _ _).alloc (Nat.le_refl _) _) | exact (row_one_at _ _ _ _ (by simp)).below (Below.drew ((Below.refl _ _).alloc (Nat.le_refl _) _))) (hne := by simp [Value.ownBlock]))))
                  | (refine step_spans (by rfl) (.tmp 34) (.tmp 39) (by rfl) w'.heap.size A1 0 c1 (os.take 0) (by rfl) ?_ _ 1 1 [x] (by rfl) ?_ 1 (os.take 0 ++ [x]) (by rfl) (by rfl) (by omega) ?_ ?_; (first | exact ho1 | exact World.ownsRow.alloc ho1 _); (first | exact hlit | exact row_one_at _ _ _ _ (by simp)); (exact Below.size (And.left (by assumption))); (intro A2 c2 w2 ho2 hb2 hg2))
                  | (refine step_spans (by rfl) (.tmp 40) (.tmp 43) (by rfl) w'.heap.size A2 1 c2 (os.take 0 ++ [x]) (by rfl) ho2 _ _ _ (os.drop 0) (by rfl) ?_ (i + 1) (os.take 0 ++ [x] ++ os.drop 0) (by omega) (by rfl) (by omega) ?_ ?_; (exact ((Ho8.out.later (And.left (by assumption))).from_at 0 (by omega)).place Hpl.out (by omega)); (exact Below.size (And.left (by assumption))); (intro A3 c3 w3 ho3 hb3 hg3))
                  | fail)
              all_goals
                go_wp2_with fail
                go_roundw
                case rel =>
                  refine ⟨i + 1, A3, c3, os.take 0 ++ [x] ++ os.drop 0, by go_num, rfl, by omega, ho3.mono Hb8w.out.size, hid_ (by rw [List.append_assoc]; exact Hins.out.1), hid_ (by rw [Htk.out, List.append_assoc]; exact (Hal.out.append (Alike.refl [x])).trans (by have h := Hins.out.2; rw [List.take_append_drop] at h; exact h)), Hb8w.out.trans (Below.mono ?_ Hb8w.out.size)⟩
                  exact And.left (by assumption)
                case measure => simp [intOf]; omega
        · obtain ⟨kp, rfl⟩ : ∃ kp, k = kp + 1 := ⟨k - 1, by omega⟩
          have hkl : kp < os.length := by rw [Hol.out]; omega
          obtain ⟨g2, off2, hA2, s2⟩ := Ho2.out.row.at_ hkl
          subst hA2
          have Hdr := hid_ (List.drop_eq_getElem_cons hkl)
          have Hgy := hid_ (getD_at os hkl)
          have hgd : decide ((0 : Int) < (kp : Int) + 1) = true := decide_eq_true (by omega)
          have hS := pair2_of (Below.refl wr.heap.size wr) s1 s2
          generalize os[kp] = y at *
          have hwp : IntKind.i64.wrap (kp : Int) = (kp : Int) := by rw [IntKind.wrap_i64]; omega
          have n1 : (kp : Int) < (i : Int) := by omega
          have n2 : (0 : Int) ≤ (kp : Int) := by omega
          have n3 : (i : Int) < (n : Int) := by omega
          have Hl := hid_ (fun W => refless_any x y W)
          clear s1 s2
          cases hlv : lessF x y
          · rw [hlv] at Hl
            have Hno := hid_ (less_no.1 hlv)
            clear hlv
            go_wp2_with fail
            go_region_held3 (Pair2 wr b (off + i * 8) g2 (off2 + kp * 8) x y) (first | assumption | (refine pair2_keep (by assumption) (by assumption)) | (refine pair2_keep (by assumption) (Below.drew (Below.refl _ _))))
              (first | (go_at_call 23; (with_reducible refine Calls.mono (Hl.out _) ?_); rintro e w' ⟨rfl, hb'⟩))
            have hS2 : Pair2 wr b (off + i * 8) g2 (off2 + kp * 8) x y w' := by assumption
            have Hb8 := hid_ (hS2.1)
            obtain ⟨_, x0, x1, x2, x3, x4, x5, x6, x7, _⟩ := hS2
            have hS8 := oneIn_of (Below.refl w'.heap.size w') ⟨x0, x1, x2, x3, x4, x5, x6, x7⟩
            have Ho8 := hid_ (Ho2.out.later Hb8.out)
            have hbl : b < w'.heap.size := lt_of_cell x0
            have i1 : (kp : Int) + 1 ≤ (i : Int) := by omega
            have i2 : (i : Int) ≤ (c0 : Int) := by omega
            have i3 : (0 : Int) ≤ (kp : Int) + 1 := by omega
            have i4 : (kp : Int) + 1 ≤ (c0 : Int) := by omega
            clear x0 x1 x2 x3 x4 x5 x6 x7
            have Hb8w := hid_ (Hbw.out.trans (Hb8.out.mono Hbw.out.size))
            have Hins := hid_ (insert_ok (a := os.take (kp + 1)) (b := os.drop (kp + 1)) (x := x) (by rw [List.take_append_drop]; exact Hso.out) (.inr (by
              have e : (os.take (kp + 1)).getD ((os.take (kp + 1)).length - 1) z0 = os.getD kp z0 := by
                rw [List.length_take, Nat.min_eq_left (by have := Hol.out; omega), List.getD_eq_getElem?_getD, List.getElem?_take, if_pos (by omega), ← List.getD_eq_getElem?_getD, Nat.add_sub_cancel]
              rw [e, show os.getD kp z0 = y from Hgy.out]
              exact Hno.out)) Hv.out)
            by_cases hck : c0 = kp + 1
            · have Hpl := hid_ (show cutSp (some ⟨g2, off2, none⟩) c0 (kp + 1) = some ⟨g2, off2, none⟩ by unfold cutSp; rw [if_pos hck])
              go_wp2_with fail
              go_region_held3 (OneIn w' b (off + i * 8) x) (first | assumption | (refine oneIn_keep (by assumption) (by assumption)) | (refine oneIn_keep (by assumption) (Below.drew (Below.refl _ _))) | (refine oneIn_keep (by assumption) (Below.alloc (Below.refl _ _) (Nat.le_refl _) _)) | (refine oneIn_keepB hbl (by assumption) (by assumption)))
                (first
                  | (refine step_spans (by rfl) (.tmp 30) (.tmp 33) (by rfl) w'.heap.size _ 0 0 [] (by rfl) ?_ _ (kp + 1) _ (os.take (kp + 1)) (by rfl) ?_ (kp + 1) (os.take (kp + 1)) (by omega) (by rfl) (by omega) ?_ ?_; (first | exact ownSp_empty _ _ rfl _ (by simp) | exact World.ownsRow.alloc (ownSp_empty _ _ rfl _ (by simp)) _ | exact ownSp_empty_at _ _ _ rfl _ (by simp) (by simp) | exact World.ownsRow.alloc (ownSp_empty_at _ _ _ rfl _ (by simp) (by simp)) _); (exact ((Ho8.out.later (And.left (by assumption))).upto (kp + 1) (by omega)).place rfl (by omega)); (exact Below.size (And.left (by assumption))); (intro A1 c1 w1 ho1 hb1 hg1); (try (have hlit := lit_kept (gl := w'.heap.size + 1) (s := x) (hg := hg1) (h := by first | exact row_one_at _ _ _ _ (by simp) | exact (row_one_at _ _ _ _ (by simp)).below (Below.drew (Below.refl _ _))) (hne := by simp [Value.ownBlock]))); (try (have hlit := lit_kept (gl := w'.heap.size) (s := x) (hg := hg1) (h := by first | exact (row_one_at _ _ _ _ (by simp)).below ((Below.refl _ _).alloc (Nat.le_refl _) _) | exact (row_one_at _ _ _ _ (by simp)).below (Below.drew ((Below.refl _ _).alloc (Nat.le_refl _) _))) (hne := by simp [Value.ownBlock]))))
                  | (refine step_spans (by rfl) (.tmp 34) (.tmp 39) (by rfl) w'.heap.size A1 (kp + 1) c1 (os.take (kp + 1)) (by rfl) ?_ _ 1 1 [x] (by rfl) ?_ ((kp + 1) + 1) (os.take (kp + 1) ++ [x]) (by rfl) (by rfl) (by omega) ?_ ?_; (first | exact ho1 | exact World.ownsRow.alloc ho1 _); (first | exact hlit | exact row_one_at _ _ _ _ (by simp)); (exact Below.size (And.left (by assumption))); (intro A2 c2 w2 ho2 hb2 hg2))
                  | (refine step_spans (by rfl) (.tmp 40) (.tmp 43) (by rfl) w'.heap.size A2 ((kp + 1) + 1) c2 (os.take (kp + 1) ++ [x]) (by rfl) ho2 _ _ _ (os.drop (kp + 1)) (by rfl) ?_ (i + 1) (os.take (kp + 1) ++ [x] ++ os.drop (kp + 1)) (by omega) (by rfl) (by omega) ?_ ?_; (exact ((Ho8.out.later (And.left (by assumption))).from_at (kp + 1) (by omega)).place Hpl.out (by omega)); (exact Below.size (And.left (by assumption))); (intro A3 c3 w3 ho3 hb3 hg3))
                  | fail)
              all_goals
                go_wp2_with fail
                go_roundw
                case rel =>
                  refine ⟨i + 1, A3, c3, os.take (kp + 1) ++ [x] ++ os.drop (kp + 1), by go_num, rfl, by omega, ho3.mono Hb8w.out.size, hid_ (by rw [List.append_assoc]; exact Hins.out.1), hid_ (by rw [Htk.out, List.append_assoc]; exact (Hal.out.append (Alike.refl [x])).trans (by have h := Hins.out.2; rw [List.take_append_drop] at h; exact h)), Hb8w.out.trans (Below.mono ?_ Hb8w.out.size)⟩
                  exact And.left (by assumption)
                case measure => simp [intOf]; omega
            · have Hpl := hid_ (show cutSp (some ⟨g2, off2, none⟩) c0 (kp + 1) = some ⟨g2, off2 + (kp + 1) * 8, none⟩ by unfold cutSp; rw [if_neg hck, Option.map_some, add_plain])
              go_wp2_with fail
              go_region_held3 (OneIn w' b (off + i * 8) x) (first | assumption | (refine oneIn_keep (by assumption) (by assumption)) | (refine oneIn_keep (by assumption) (Below.drew (Below.refl _ _))) | (refine oneIn_keep (by assumption) (Below.alloc (Below.refl _ _) (Nat.le_refl _) _)) | (refine oneIn_keepB hbl (by assumption) (by assumption)))
                (first
                  | (refine step_spans (by rfl) (.tmp 30) (.tmp 33) (by rfl) w'.heap.size _ 0 0 [] (by rfl) ?_ _ (kp + 1) _ (os.take (kp + 1)) (by rfl) ?_ (kp + 1) (os.take (kp + 1)) (by omega) (by rfl) (by omega) ?_ ?_; (first | exact ownSp_empty _ _ rfl _ (by simp) | exact World.ownsRow.alloc (ownSp_empty _ _ rfl _ (by simp)) _ | exact ownSp_empty_at _ _ _ rfl _ (by simp) (by simp) | exact World.ownsRow.alloc (ownSp_empty_at _ _ _ rfl _ (by simp) (by simp)) _); (exact ((Ho8.out.later (And.left (by assumption))).upto (kp + 1) (by omega)).place rfl (by omega)); (exact Below.size (And.left (by assumption))); (intro A1 c1 w1 ho1 hb1 hg1); (try (have hlit := lit_kept (gl := w'.heap.size + 1) (s := x) (hg := hg1) (h := by first | exact row_one_at _ _ _ _ (by simp) | exact (row_one_at _ _ _ _ (by simp)).below (Below.drew (Below.refl _ _))) (hne := by simp [Value.ownBlock]))); (try (have hlit := lit_kept (gl := w'.heap.size) (s := x) (hg := hg1) (h := by first | exact (row_one_at _ _ _ _ (by simp)).below ((Below.refl _ _).alloc (Nat.le_refl _) _) | exact (row_one_at _ _ _ _ (by simp)).below (Below.drew ((Below.refl _ _).alloc (Nat.le_refl _) _))) (hne := by simp [Value.ownBlock]))))
                  | (refine step_spans (by rfl) (.tmp 34) (.tmp 39) (by rfl) w'.heap.size A1 (kp + 1) c1 (os.take (kp + 1)) (by rfl) ?_ _ 1 1 [x] (by rfl) ?_ ((kp + 1) + 1) (os.take (kp + 1) ++ [x]) (by rfl) (by rfl) (by omega) ?_ ?_; (first | exact ho1 | exact World.ownsRow.alloc ho1 _); (first | exact hlit | exact row_one_at _ _ _ _ (by simp)); (exact Below.size (And.left (by assumption))); (intro A2 c2 w2 ho2 hb2 hg2))
                  | (refine step_spans (by rfl) (.tmp 40) (.tmp 43) (by rfl) w'.heap.size A2 ((kp + 1) + 1) c2 (os.take (kp + 1) ++ [x]) (by rfl) ho2 _ _ _ (os.drop (kp + 1)) (by rfl) ?_ (i + 1) (os.take (kp + 1) ++ [x] ++ os.drop (kp + 1)) (by omega) (by rfl) (by omega) ?_ ?_; (exact ((Ho8.out.later (And.left (by assumption))).from_at (kp + 1) (by omega)).place Hpl.out (by omega)); (exact Below.size (And.left (by assumption))); (intro A3 c3 w3 ho3 hb3 hg3))
                  | fail)
              all_goals
                go_wp2_with fail
                go_roundw
                case rel =>
                  refine ⟨i + 1, A3, c3, os.take (kp + 1) ++ [x] ++ os.drop (kp + 1), by go_num, rfl, by omega, ho3.mono Hb8w.out.size, hid_ (by rw [List.append_assoc]; exact Hins.out.1), hid_ (by rw [Htk.out, List.append_assoc]; exact (Hal.out.append (Alike.refl [x])).trans (by have h := Hins.out.2; rw [List.take_append_drop] at h; exact h)), Hb8w.out.trans (Below.mono ?_ Hb8w.out.size)⟩
                  exact And.left (by assumption)
                case measure => simp [intOf]; omega
          · rw [hlv] at Hl
            have Hyes := hid_ (less_iff.1 hlv)
            clear hlv
            go_wp2_with fail
            go_region_held3 (Pair2 wr b (off + i * 8) g2 (off2 + kp * 8) x y) (first | assumption | (refine pair2_keep (by assumption) (by assumption)) | (refine pair2_keep (by assumption) (Below.drew (Below.refl _ _))))
              (first | (go_at_call 23; (with_reducible refine Calls.mono (Hl.out _) ?_); rintro e w' ⟨rfl, hb'⟩))
            go_wp2_with fail
            go_roundw
            case rel =>
              refine ⟨kp, by go_num, by omega, hid_ ?_, Below.trans Hb2.out (Below.mono ?_ Hb2.out.size)⟩
              · rw [Hdr.out]
                intro q hq
                rcases List.mem_cons.1 hq with rfl | hq
                · exact Hyes.out
                · exact Hv.out q hq
              · exact And.left (by assumption)
            case measure => simp [intOf]
    · obtain rfl : i = n := by omega
      have e1 : decide (i < i) = false := decide_eq_false (by omega)
      have Hfin := hid_ (sortPost_mk (w := w) (ss := ss) Ho.out.row Hso.out (by have h := Hal.out; rwa [List.take_of_length_le (by rw [Hlen.out]; omega)] at h) Hb.out)
      go_wp2_with fail
      go_ret
      exact Hfin.out
end Go.Proofs.Ytnphbefnmbagfaa
