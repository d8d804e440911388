/-
  What the library's insertion sort does with a row of spans.
-/
import Derived.Test.YtnphbefnmbagfaaRotate
import Derived.Deep.RegionHeld3
import Derived.Deep.DrawnRows
namespace Go.Proofs.Ytnphbefnmbagfaa
open Go.RowKit Ru
attribute [local go_sem ↓] Go.wp_at_zero Go.wp_at_succ

/-- The function value of the program's order. -/
abbrev ordV : Value := .func (.func 40) #[] #[]

/-- Two spans of the row stand, in whatever world has come of w1 by new blocks. -/
abbrev PairIn (w1 : World) (g o1 o2 : Nat) (s t : SpanD) (W : World) : Prop :=
  Below w1.heap.size w1 W ∧ W.cell? ⟨g, o1, none⟩ = some (.int .u64 (s.trace : Nat)) ∧ W.cell? ⟨g, o1 + 1, none⟩ = some (.int .u64 (s.id : Nat)) ∧ W.cell? ⟨g, o1 + 2, none⟩ = some (.int .u64 (s.parent : Nat)) ∧
    W.cell? ⟨g, o1 + 3, none⟩ = some (.int .u64 (s.start : Nat)) ∧ W.cell? ⟨g, o1 + 4, none⟩ = some (.int .u64 (s.len : Nat)) ∧ W.cell? ⟨g, o1 + 5, none⟩ = some (.string s.service) ∧ W.cell? ⟨g, o1 + 6, none⟩ = some (.string s.name) ∧ W.cell? ⟨g, o1 + 7, none⟩ = some (.bool s.fail) ∧
    W.cell? ⟨g, o2, none⟩ = some (.int .u64 (t.trace : Nat)) ∧ W.cell? ⟨g, o2 + 1, none⟩ = some (.int .u64 (t.id : Nat)) ∧ W.cell? ⟨g, o2 + 2, none⟩ = some (.int .u64 (t.parent : Nat)) ∧
    W.cell? ⟨g, o2 + 3, none⟩ = some (.int .u64 (t.start : Nat)) ∧ W.cell? ⟨g, o2 + 4, none⟩ = some (.int .u64 (t.len : Nat)) ∧ W.cell? ⟨g, o2 + 5, none⟩ = some (.string t.service) ∧ W.cell? ⟨g, o2 + 6, none⟩ = some (.string t.name) ∧ W.cell? ⟨g, o2 + 7, none⟩ = some (.bool t.fail)
theorem pairIn_of {w1 W : World} {g o1 o2 : Nat} {s t : SpanD} (h : Below w1.heap.size w1 W) (hs : SpanAt W g o1 s) (ht : SpanAt W g o2 t) : PairIn w1 g o1 o2 s t W :=
  ⟨h, hs.c0, hs.c1, hs.c2, hs.c3, hs.c4, hs.c5, hs.c6, hs.c7, ht.c0, ht.c1, ht.c2, ht.c3, ht.c4, ht.c5, ht.c6, ht.c7⟩
theorem pairIn_keep {w1 W W' : World} {g o1 o2 : Nat} {s t : SpanD} (h : PairIn w1 g o1 o2 s t W) (hb : Below W.heap.size W W') : PairIn w1 g o1 o2 s t W' := by
  obtain ⟨h0, a0, a1, a2, a3, a4, a5, a6, a7, b0, b1, b2, b3, b4, b5, b6, b7⟩ := h
  exact pairIn_of (h0.trans (hb.mono h0.size)) (SpanAt.keep ⟨a0, a1, a2, a3, a4, a5, a6, a7⟩ fun p hp => hb.cell hp) (SpanAt.keep ⟨b0, b1, b2, b3, b4, b5, b6, b7⟩ fun p hp => hb.cell hp)
theorem swp_down (q t : List SpanD) (x y : SpanD) : swp (q ++ (y :: x :: t)) (q.length + 1) q.length = q ++ (x :: y :: t) := by
  induction q with
  | nil => rfl
  | cons a q _ =>
    unfold swp
    simp
theorem swp_up (q t : List SpanD) (x y : SpanD) : swp (q ++ (y :: x :: t)) q.length (q.length + 1) = q ++ (x :: y :: t) := by
  induction q with
  | nil => rfl
  | cons a q _ =>
    unfold swp
    simp
theorem getElem_mid (q t : List SpanD) (x y : SpanD) : (q ++ (y :: x :: t))[q.length]'(by simp) = y ∧ (q ++ (y :: x :: t))[q.length + 1]'(by simp) = x := by
  constructor
  · rw [List.getElem_append_right (by omega)]; simp
  · rw [List.getElem_append_right (by omega)]; simp
theorem St.mid {w0 : World} {g off : Nat} {q t : List SpanD} {x y : SpanD} {W : World} (h : St w0 g off (q ++ (y :: x :: t)) W) : SpanAt W g (off + q.length * 8) y ∧ SpanAt W g (off + (q.length + 1) * 8) x := by
  have e := getElem_mid q t x y
  have h1 := h.at_ q.length (by simp)
  have h2 := h.at_ (q.length + 1) (by simp)
  rw [e.1] at h1
  rw [e.2] at h2
  exact ⟨h1, h2⟩
theorem St.down {w0 : World} {g off : Nat} {q t : List SpanD} {x y : SpanD} {W : World} (h : St w0 g off (q ++ (y :: x :: t)) W) : St w0 g off (q ++ (x :: y :: t)) (setAt (setAt W g (off + (q.length + 1) * 8) y) g (off + q.length * 8) x) := by
  have e := getElem_mid q t x y
  have h1 := h.swap (i := q.length + 1) (j := q.length) (by simp) (by simp)
  rw [swp_down, e.1, e.2] at h1
  exact h1
theorem St.up {w0 : World} {g off : Nat} {q t : List SpanD} {x y : SpanD} {W : World} (h : St w0 g off (q ++ (y :: x :: t)) W) : St w0 g off (q ++ (x :: y :: t)) (setAt (setAt W g (off + q.length * 8) x) g (off + (q.length + 1) * 8) y) := by
  have e := getElem_mid q t x y
  have h1 := h.swap (i := q.length) (j := q.length + 1) (by simp) (by simp)
  rw [swp_up, e.1, e.2] at h1
  exact h1
theorem ord_less {s t : SpanD} {v : Bool} (h : lessF s t = v) : decide (ordF s t < 0) = v := (ordF_less s t).trans h

set_option maxRecDepth 100000 in
set_option maxHeartbeats 8000000 in
theorem insertion_any (w0 : World) (g off : Nat) (p l s : List SpanD) (n cp : Nat) (a b : Nat) (w : World) (hst : St w0 g off (p ++ (l ++ s)) w)
    (hn : n = (p ++ (l ++ s)).length) (ha : a = p.length) (hb : b = a + l.length) (hbig : n ≤ 1000000000) (hl0 : 0 < l.length) :
    Calls Try.prog 51 #[.slice (some ⟨g, off, none⟩) n cp, .int .i64 (a : Nat), .int .i64 (b : Nat), ordV] w fun e w' => e = .returned (.tuple #[]) ∧ ∃ m, Sorted m ∧ Alike l m ∧ m.length = l.length ∧ St w0 g off (p ++ (m ++ s)) w' := by
  have hlen : n = p.length + l.length + s.length := by rw [hn]; simp only [List.length_append]; omega
  have Hst := hid_ hst
  have Ha := hid_ ha
  have Hb := hid_ hb
  have Hn := hid_ hlen
  have hbn : b ≤ n := by omega
  have hb1 : b ≤ a + l.length := by omega
  have hb2 : a + l.length ≤ b := by omega
  have hpa : a ≤ p.length := by omega
  have hpa2 : p.length ≤ a := by omega
  clear hst hn ha hb hlen
  go_enter Try.func51, Try.ntmps51
  go_wp2_with fail
  go_loopw [8] (fun vi wr => ∃ (i k : Nat) (m : List SpanD), vi = .int .i64 (i : Nat) ∧ i ≤ a + k ∧ a + k ≤ i ∧ 0 < k ∧ k ≤ l.length ∧ Hid (m.length = k) ∧ Hid (Sorted m) ∧ Hid (Alike (l.take k) m) ∧ St w0 g off (p ++ (m ++ (l.drop k ++ s))) wr) (fun vi _ => b - (intOf vi).toNat)
  case atStart =>
    refine ⟨a + 1, 1, l.take 1, by go_num, by omega, by omega, by omega, by omega, hid_ (by rw [List.length_take]; omega), hid_ ?_, hid_ (Alike.refl _), Hst.out.to (by rw [← List.append_assoc (l.take 1), List.take_append_drop])⟩
    rcases l with _ | ⟨x, l⟩
    · simp at hl0
    · exact List.pairwise_singleton _ _
  case round =>
    obtain ⟨i, k, m, rfl, hik1, hik2, hk0, hkl, Hmk, Hsm, Ham, hs⟩ := hrel
    have Hs := hid_ hs
    clear hs
    by_cases hlt : k < l.length
    · have e1 : decide (i < b) = true := decide_eq_true (by omega)
      have Hx := hid_ (List.drop_eq_getElem_cons hlt)
      generalize l[k] = x at *
      obtain ⟨wo, rfl⟩ : ∃ wo : World, wo = wr := ⟨_, rfl⟩
      go_wp2_with fail
      go_loopw [9] (fun vj wr => ∃ (j : Nat) (u v : List SpanD), vj = .int .i64 (j : Nat) ∧ j ≤ a + u.length ∧ a + u.length ≤ j ∧ Hid (u ++ v = m) ∧ Hid (∀ y ∈ v, Lt x y) ∧ St w0 g off (p ++ (u ++ (x :: (v ++ (l.drop (k + 1) ++ s))))) wr) (fun vj _ => (intOf vj).toNat)
      case atStart => exact ⟨i, m, [], rfl, by rw [Hmk.out]; omega, by rw [Hmk.out]; omega, hid_ (List.append_nil m), hid_ (fun y hy => by cases hy), Hs.out.to (by rw [Hx.out]; rfl)⟩
      case round =>
        obtain ⟨j, u, v, rfl, hj1, hj2, Huv, Hv, hs2⟩ := hrel
        have Hs2 := hid_ hs2
        have hul : u.length ≤ k := by have h := congrArg List.length Huv.out; rw [List.length_append, Hmk.out] at h; omega
        have Hout := hid_ (fun hor => insert_ok (a := u) (b := v) (x := x) (by rw [Huv.out]; exact Hsm.out) hor Hv.out)
        have Htk := hid_ (show l.take (k + 1) = l.take k ++ [x] by rw [List.take_succ_eq_append_getElem hlt]; congr 1; have h := Hx.out; rw [List.drop_eq_getElem_cons hlt] at h; injection h with h _; rw [h])
        clear hs2
        rcases List.eq_nil_or_concat u with rfl | ⟨u', y, rfl⟩
        · have hja : j ≤ a := by simpa using hj1
          have hgd : decide ((a : Int) < (j : Int)) = false := decide_eq_false (by omega)
          have hgd2 : decide (a < j) = false := decide_eq_false (by omega)
          have Hfin := hid_ (Hout.out (.inl rfl))
          clear hj1 hj2
          go_wp2_with fail
          go_quiet (fail)
          go_wp2_with fail
          go_roundw
          case rel => exact ⟨i + 1, k + 1, [] ++ (x :: v), by go_num, by omega, by omega, by omega, by omega, hid_ (by have h := congrArg List.length Huv.out; rw [Hmk.out] at h; simp at h ⊢; omega), hid_ Hfin.out.1, hid_ (by rw [Htk.out]; exact (Ham.out.append (Alike.refl [x])).trans (by rw [← Huv.out]; exact Hfin.out.2)), (Hs2.out.drewN _).to (by simp)⟩
          case measure => simp [intOf]; omega
        · have Hq := hid_ (show p ++ ((u'.concat y) ++ (x :: (v ++ (l.drop (k + 1) ++ s)))) = (p ++ u') ++ (y :: x :: (v ++ (l.drop (k + 1) ++ s))) by simp)
          rw [Hq.out] at Hs2
          have hj0 : 0 < j := by
            have h : (u'.concat y).length = u'.length + 1 := by simp
            omega
          obtain ⟨jp, rfl⟩ : ∃ jp, j = jp + 1 := ⟨j - 1, by omega⟩
          have Hql := hid_ (show (p ++ u').length = jp by
            have h : (u'.concat y).length = u'.length + 1 := by simp
            rw [List.length_append]
            omega)
          have hjn : jp + 1 < n := by
            have h := Hn.out
            have h1 : (u'.concat y).length = u'.length + 1 := by simp
            omega
          have hgd : decide ((a : Int) < (jp : Int) + 1) = true := decide_eq_true (by
            have h1 : (u'.concat y).length = u'.length + 1 := by simp
            omega)
          have Hmid := hid_ Hs2.out.mid
          rw [Hql.out] at Hmid
          have hS := pairIn_of (Below.refl wr.heap.size wr) Hmid.out.2 Hmid.out.1
          have hwp : IntKind.i64.wrap (jp : Int) = (jp : Int) := by rw [IntKind.wrap_i64]; omega
          have n1 : (jp : Int) + 1 < (n : Int) := by omega
          have n2 : (jp : Int) < (n : Int) := by omega
          have n3 : (0 : Int) ≤ (jp : Int) := by omega
          have n4 : (0 : Int) ≤ (jp : Int) + 1 := by omega
          clear hj1 hj2 hul
          cases hlv : lessF x y
          · have e5 := ord_less hlv
            have Hl := hid_ hlv
            clear hlv
            go_wp2_with fail
            go_region_held3 (PairIn wr g (off + (jp + 1) * 8) (off + jp * 8) x y) (first | assumption | (refine pairIn_keep (by assumption) (by assumption)) | (refine pairIn_keep (by assumption) (Below.drew (Below.refl _ _))))
              (first | (go_at_call 40; (with_reducible refine Calls.mono (order_below x y _) ?_); rintro e w' ⟨rfl, hb'⟩))
            have Hfin := hid_ (Hout.out (.inr (by
              have h : (u'.concat y).getD ((u'.concat y).length - 1) z0 = y := by
                rw [List.concat_eq_append, get_p (j := 0) (by simp)]
                rfl
              rw [h]
              exact less_no.1 Hl.out)))
            go_wp2_with fail
            go_roundw
            case rel =>
              refine ⟨i + 1, k + 1, u'.concat y ++ (x :: v), by go_num, by omega, by omega, by omega, by omega, hid_ ?_, hid_ Hfin.out.1, hid_ (by rw [Htk.out]; exact (Ham.out.append (Alike.refl [x])).trans (by rw [← Huv.out]; exact Hfin.out.2)), (Hs2.out.keep ?_).to (by simp)⟩
              · have h := congrArg List.length Huv.out
                rw [Hmk.out] at h
                simp at h ⊢
                omega
              · exact And.left (by assumption)
            case measure => simp [intOf]; omega
          · have e5 := ord_less hlv
            have Hl := hid_ (less_iff.1 hlv)
            clear hlv
            go_wp2_with fail
            go_region_held3 (PairIn wr g (off + (jp + 1) * 8) (off + jp * 8) x y) (first | assumption | (refine pairIn_keep (by assumption) (by assumption)) | (refine pairIn_keep (by assumption) (Below.drew (Below.refl _ _))))
              (first | (go_at_call 40; (with_reducible refine Calls.mono (order_below x y _) ?_); rintro e w' ⟨rfl, hb'⟩))
            have hS2 : PairIn wr g (off + (jp + 1) * 8) (off + jp * 8) x y w' := by assumption
            obtain ⟨hbel, x0, x1, x2, x3, x4, x5, x6, x7, y0, y1, y2, y3, y4, y5, y6, y7⟩ := hS2
            have Hs3 := hid_ (Hs2.out.keep hbel)
            have Hsw := hid_ Hs3.out.down.drew
            rw [Hql.out] at Hsw
            have fr : ∀ o, w'.frozen? ⟨g, o, none⟩ = false := Hs3.out.free
            go_wp2_with fail
            go_region
            clear x0 x1 x2 x3 x4 x5 x6 x7 y0 y1 y2 y3 y4 y5 y6 y7 fr
            go_wp2_with fail
            go_roundw
            case rel =>
              refine ⟨jp, u', y :: v, by go_num, ?_, ?_, hid_ (by rw [← Huv.out]; simp), hid_ ?_, Hsw.out.to (by simp)⟩
              · have := Hql.out
                rw [List.length_append] at this
                omega
              · have := Hql.out
                rw [List.length_append] at this
                omega
              · intro q hq
                rcases List.mem_cons.1 hq with rfl | hq
                · exact Hl.out
                · exact Hv.out q hq
            case measure => simp [intOf]
    · obtain rfl : k = l.length := by omega
      have e1 : decide (i < b) = false := decide_eq_false (by omega)
      go_wp2_with fail
      go_end0
      exact ⟨rfl, m, Hsm.out, by have h := Ham.out; rwa [List.take_length] at h, Hmk.out, Hs.out.to (by rw [List.drop_length]; rfl)⟩
end Go.Proofs.Ytnphbefnmbagfaa
