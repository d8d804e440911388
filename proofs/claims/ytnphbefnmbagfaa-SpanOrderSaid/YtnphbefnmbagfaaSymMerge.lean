/-
  What the library's symMerge does with two sorted pieces of a row of spans.
-/
import Derived.Test.YtnphbefnmbagfaaInsertion
namespace Go.Proofs.Ytnphbefnmbagfaa
open Go.RowKit Ru
attribute [local go_sem ↓] Go.wp_at_zero Go.wp_at_succ

theorem St.get {w0 : World} {g off : Nat} {ss : List SpanD} {W : World} (h : St w0 g off ss W) {k : Nat} (hk : k < ss.length) : SpanAt W g (off + k * 8) (ss.getD k z0) := by
  rw [getD_at _ hk]
  exact h.at_ k hk
theorem one_ok {r : List SpanD} {x : SpanD} {q : Nat} (hs : Sorted r) (hq : q ≤ r.length) (h1 : 0 < q → Lt (r.getD (q - 1) z0) x) (h2 : q < r.length → ¬ Lt (r.getD q z0) x) :
    Sorted (r.take q ++ (x :: r.drop q)) ∧ Alike ([x] ++ r) (r.take q ++ (x :: r.drop q)) := by
  have c1 := cross_lt (l := [x]) (List.pairwise_singleton _ _) hs (x := 0) hq (fun _ h => h1 h)
  have c2 := cross_le (l := [x]) (List.pairwise_singleton _ _) hs (x := 1) (y := q) (by simp) (fun _ h => h2 h)
  have h := merge_ok (l1 := []) (l2 := [x]) (r1 := r.take q) (r2 := r.drop q) (m1 := r.take q) (m2 := x :: r.drop q) (List.pairwise_singleton _ _) (by rw [List.take_append_drop]; exact hs) c1 (by simp)
    (hs.take q) (Alike.refl _) (List.pairwise_cons.2 ⟨fun y hy => c2 x (by simp) y hy, hs.drop q⟩) (Alike.refl _)
  rw [List.take_append_drop] at h
  exact h
theorem last_ok {l : List SpanD} {y : SpanD} {q : Nat} (hs : Sorted l) (hq : q ≤ l.length) (h1 : 0 < q → ¬ Lt y (l.getD (q - 1) z0)) (h2 : q < l.length → Lt y (l.getD q z0)) :
    Sorted (l.take q ++ (y :: l.drop q)) ∧ Alike (l ++ [y]) (l.take q ++ (y :: l.drop q)) := by
  have h := insert_ok (a := l.take q) (b := l.drop q) (x := y) (by rw [List.take_append_drop]; exact hs) ?_ ?_
  · rw [List.take_append_drop] at h
    exact h
  · rcases Nat.eq_zero_or_pos q with e | e
    · left; rw [e]; rfl
    · right
      have e2 : (l.take q).getD ((l.take q).length - 1) z0 = l.getD (q - 1) z0 := by
        rw [List.length_take, Nat.min_eq_left hq, List.getD_eq_getElem?_getD, List.getElem?_take, if_pos (by omega), ← List.getD_eq_getElem?_getD]
      rw [e2]
      exact h1 e
  · intro z hz
    obtain ⟨i, i1, i2, rfl⟩ := mem_drop_get hz
    have h3 := h2 (by omega)
    have h4 := sorted_get hs i1 i2
    unfold Lt at *
    omega
/-- What the merge has done. -/
def MergePost (w0 : World) (g off : Nat) (p l r s : List SpanD) (e : Ending) (w' : World) : Prop := e = .returned (.tuple #[]) ∧ ∃ t, Sorted t ∧ Alike (l ++ r) t ∧ t.length = l.length + r.length ∧ St w0 g off (p ++ (t ++ s)) w'
theorem mergePost_mk {w0 : World} {g off : Nat} {p l r s t : List SpanD} {w' : World} (h1 : Sorted t ∧ Alike (l ++ r) t) (h2 : t.length = l.length + r.length) (h3 : St w0 g off (p ++ (t ++ s)) w') : MergePost w0 g off p l r s (.returned (.tuple #[])) w' := ⟨rfl, t, h1.1, h1.2, h2, h3⟩

set_option maxRecDepth 100000 in
set_option maxHeartbeats 8000000 in
theorem symMerge_one (w0 : World) (g off : Nat) (p r s : List SpanD) (x : SpanD) (n cp : Nat) (a m b : Nat) (w : World) (hst : St w0 g off (p ++ ([x] ++ (r ++ s))) w)
    (hn : n = p.length + 1 + r.length + s.length) (ha : a = p.length) (hm : m = a + 1) (hb : b = m + r.length) (hbig : n ≤ 1000000000) (hr0 : 0 < r.length) (hsr : Sorted r) :
    Calls Try.prog 52 #[.slice (some ⟨g, off, none⟩) n cp, .int .i64 (a : Nat), .int .i64 (m : Nat), .int .i64 (b : Nat), ordV] w (MergePost w0 g off p [x] r s) := by
  have Hst := hid_ hst
  have Hsr := hid_ hsr
  have hbn : b ≤ n := by omega
  have hma : m ≤ a + 1 := by omega
  have ham : a + 1 ≤ m := by omega
  have Hb := hid_ hb
  have Ha := hid_ ha
  have Hn := hid_ hn
  have hlen : (p ++ ([x] ++ (r ++ s))).length = n := by simp only [List.length_append, List.length_singleton]; omega
  have Hlen := hid_ hlen
  have Hga := hid_ (show (p ++ ([x] ++ (r ++ s))).getD a z0 = x by rw [get_p (j := 0) (by omega)]; rfl)
  have Hgr := hid_ (show ∀ q, q < r.length → (p ++ ([x] ++ (r ++ s))).getD (m + q) z0 = r.getD q z0 from fun q hq => by rw [get_p (j := 1 + q) (by omega), get_p (j := q) (by simp), get_l hq])
  have eqm : ((m : Int) - (a : Int) == 1) = true := by rw [beq_iff_eq]; omega
  clear hst hsr hb ha hn hlen
  have Hm := hid_ hm
  clear hm
  go_enter Try.func52, Try.ntmps52
  go_wp2_with fail
  go_loopw [10, 11] (fun vi vj wr => ∃ i j : Nat, vi = .int .i64 (i : Nat) ∧ vj = .int .i64 (j : Nat) ∧ m ≤ i ∧ i ≤ j ∧ j ≤ b ∧ Hid (m < i → Lt ((p ++ ([x] ++ (r ++ s))).getD (i - 1) z0) x) ∧ Hid (j < b → ¬ Lt ((p ++ ([x] ++ (r ++ s))).getD j z0) x) ∧ St w0 g off (p ++ ([x] ++ (r ++ s))) wr) (fun vi vj _ => (intOf vj).toNat - (intOf vi).toNat)
  case atStart => exact ⟨m, b, rfl, rfl, Nat.le_refl _, by have := Hb.out; omega, Nat.le_refl _, hid_ (fun h => absurd h (by omega)), hid_ (fun h => absurd h (by omega)), Hst.out⟩
  case round =>
    obtain ⟨i, j, rfl, rfl, hmi, hij, hjb, HI, HJ, hs⟩ := hrel
    have Hs := hid_ hs
    clear hs
    by_cases hlt : i < j
    · obtain ⟨h, hh⟩ : ∃ h : Nat, h = (i + j) / 2 := ⟨_, rfl⟩
      have hdiv : ((i : Int) + (j : Int)) / 2 = (h : Int) := by omega
      have hh0 : h < n := by omega
      have hh1 : i ≤ h := by omega
      have hh2 : h < j := by omega
      have Hx := hid_ (Hs.out.get (k := a) (by rw [Hlen.out]; omega))
      rw [Hga.out] at Hx
      have Hh := hid_ (Hs.out.get (k := h) (by rw [Hlen.out]; exact hh0))
      generalize hy : (p ++ ([x] ++ (r ++ s))).getD h z0 = y at Hh
      have Hy := hid_ hy
      have hS := pairIn_of (Below.refl wr.heap.size wr) Hh.out Hx.out
      have n1 : (h : Int) < (n : Int) := by omega
      have n2 : (0 : Int) ≤ (h : Int) := by omega
      have n3 : (a : Int) < (n : Int) := by omega
      clear hy hh
      cases hlv : lessF y x
      · have e5 := ord_less hlv
        have Hl := hid_ (less_no.1 hlv)
        clear hlv
        go_wp2_with fail
        go_region_held3 (PairIn wr g (off + h * 8) (off + a * 8) y x) (first | assumption | (refine pairIn_keep (by assumption) (by assumption)) | (refine pairIn_keep (by assumption) (Below.drew (Below.refl _ _))))
              (first | (go_at_call 40; (with_reducible refine Calls.mono (order_below y x _) ?_); rintro e w' ⟨rfl, hb'⟩))
        go_wp2_with fail
        go_roundw
        case rel =>
          refine ⟨i, h, rfl, by go_num, hmi, hh1, by omega, HI, hid_ (fun _ => by rw [Hy.out]; exact Hl.out), Hs.out.keep ?_⟩
          exact And.left (by assumption)
        case measure => simp [intOf]; omega
      · have e5 := ord_less hlv
        have Hl := hid_ (less_iff.1 hlv)
        clear hlv
        go_wp2_with fail
        go_region_held3 (PairIn wr g (off + h * 8) (off + a * 8) y x) (first | assumption | (refine pairIn_keep (by assumption) (by assumption)) | (refine pairIn_keep (by assumption) (Below.drew (Below.refl _ _))))
              (first | (go_at_call 40; (with_reducible refine Calls.mono (order_below y x _) ?_); rintro e w' ⟨rfl, hb'⟩))
        go_wp2_with fail
        go_roundw
        case rel =>
          refine ⟨h + 1, j, by go_num, rfl, by omega, by omega, hjb, hid_ (fun _ => by rw [Nat.add_sub_cancel, Hy.out]; exact Hl.out), HJ, Hs.out.keep ?_⟩
          exact And.left (by assumption)
        case measure => simp [intOf]; omega
    · obtain rfl : i = j := by omega
      have hir : i - m ≤ r.length := by have := Hb.out; omega
      have Hok := hid_ (one_ok Hsr.out hir (fun h => by have h2 := HI.out (by omega); rw [show i - 1 = m + (i - m - 1) by omega, Hgr.out _ (by omega)] at h2; exact h2) (fun h => by have h2 := HJ.out (by have := Hb.out; omega); rw [show i = m + (i - m) by omega, Hgr.out _ h] at h2; exact h2))
      obtain ⟨wo, rfl⟩ : ∃ wo : World, wo = wr := ⟨_, rfl⟩
      have hi1 : (i : Int) - 1 = ((i - 1 : Nat) : Int) := by omega
      go_wp2_with fail
      go_loopw [13] (fun vk wr => ∃ k : Nat, vk = .int .i64 (k : Nat) ∧ a ≤ k ∧ k ≤ i - 1 ∧ St w0 g off (p ++ (r.take (k - a) ++ (x :: (r.drop (k - a) ++ s)))) wr) (fun vk _ => i - (intOf vk).toNat)
      case atStart => exact ⟨a, rfl, Nat.le_refl _, by omega, Hs.out.to (by rw [Nat.sub_self]; rfl)⟩
      case round =>
        obtain ⟨k, rfl, hak, hki, hs2⟩ := hrel
        have Hs2 := hid_ hs2
        clear hs2
        by_cases hlt2 : k < i - 1
        · have htr : k - a < r.length := by omega
          have Hd := hid_ (List.drop_eq_getElem_cons htr)
          have Ht := hid_ (show r.take (k + 1 - a) = r.take (k - a) ++ [r[k - a]] by rw [show k + 1 - a = k - a + 1 by omega, List.take_succ_eq_append_getElem htr])
          generalize r[k - a] = y at *
          have Hq := hid_ (show p ++ (r.take (k - a) ++ (x :: (r.drop (k - a) ++ s))) = (p ++ r.take (k - a)) ++ (x :: y :: (r.drop (k + 1 - a) ++ s)) by
            rw [Hd.out, show k + 1 - a = k - a + 1 by omega]
            simp)
          rw [Hq.out] at Hs2
          have Hql := hid_ (show (p ++ r.take (k - a)).length = k by have := Ha.out; rw [List.length_append, List.length_take]; omega)
          have Hsw := hid_ Hs2.out.up.drew
          have Hmid := hid_ Hs2.out.mid
          rw [Hql.out] at Hsw Hmid
          have fr : ∀ o, wr.frozen? ⟨g, o, none⟩ = false := Hs2.out.free
          obtain ⟨⟨x0, x1, x2, x3, x4, x5, x6, x7⟩, ⟨y0, y1, y2, y3, y4, y5, y6, y7⟩⟩ := Hmid.out
          have n1 : (k : Int) + 1 < (n : Int) := by omega
          have n2 : (k : Int) < (n : Int) := by omega
          have n3 : (0 : Int) ≤ (k : Int) + 1 := by omega
          clear htr
          go_wp2_with fail
          go_region
          clear x0 x1 x2 x3 x4 x5 x6 x7 y0 y1 y2 y3 y4 y5 y6 y7 fr
          go_wp2_with fail
          go_roundw
          case rel => exact ⟨k + 1, by go_num, by omega, by omega, Hsw.out.to (by rw [Ht.out]; simp)⟩
          case measure => simp [intOf]; omega
        · obtain rfl : k = i - 1 := by omega
          go_wp2_with fail
          go_end0
          exact mergePost_mk Hok.out (by simp only [List.length_append, List.length_cons, List.length_take, List.length_drop, List.length_nil]; omega) (Hs2.out.to (by rw [show i - 1 - a = i - m by omega]; simp))

set_option maxRecDepth 100000 in
set_option maxHeartbeats 8000000 in
theorem symMerge_last (w0 : World) (g off : Nat) (p l s : List SpanD) (y : SpanD) (n cp : Nat) (a m b : Nat) (w : World) (hst : St w0 g off (p ++ (l ++ ([y] ++ s))) w)
    (hn : n = p.length + l.length + 1 + s.length) (ha : a = p.length) (hm : m = a + l.length) (hb : b = m + 1) (hbig : n ≤ 1000000000) (hl0 : 1 < l.length) (hsl : Sorted l) :
    Calls Try.prog 52 #[.slice (some ⟨g, off, none⟩) n cp, .int .i64 (a : Nat), .int .i64 (m : Nat), .int .i64 (b : Nat), ordV] w (MergePost w0 g off p l [y] s) := by
  have Hst := hid_ hst
  have Hsl := hid_ hsl
  have hmn : m < n := by omega
  have hma : a ≤ m := by omega
  have hbm : b ≤ m + 1 := by omega
  have hbm2 : m + 1 ≤ b := by omega
  have Hm := hid_ hm
  have Ha := hid_ ha
  have hlen : (p ++ (l ++ ([y] ++ s))).length = n := by simp only [List.length_append, List.length_singleton]; omega
  have Hlen := hid_ hlen
  have Hgm := hid_ (show (p ++ (l ++ ([y] ++ s))).getD m z0 = y by rw [get_p (j := l.length) (by omega), get_p (j := 0) (by simp)]; rfl)
  have Hgl := hid_ (show ∀ q, q < l.length → (p ++ (l ++ ([y] ++ s))).getD (a + q) z0 = l.getD q z0 from fun q hq => by rw [get_p (j := q) (by omega), get_l hq])
  have eqm : ((m : Int) - (a : Int) == 1) = false := by rw [beq_eq_false_iff_ne]; omega
  have eqb : ((b : Int) - (m : Int) == 1) = true := by rw [beq_iff_eq]; omega
  clear hst hsl hb ha hn hlen hm
  go_enter Try.func52, Try.ntmps52
  go_wp2_with fail
  go_loopw [14, 15] (fun vi vj wr => ∃ i j : Nat, vi = .int .i64 (i : Nat) ∧ vj = .int .i64 (j : Nat) ∧ a ≤ i ∧ i ≤ j ∧ j ≤ m ∧ Hid (a < i → ¬ Lt y ((p ++ (l ++ ([y] ++ s))).getD (i - 1) z0)) ∧ Hid (j < m → Lt y ((p ++ (l ++ ([y] ++ s))).getD j z0)) ∧ St w0 g off (p ++ (l ++ ([y] ++ s))) wr) (fun vi vj _ => (intOf vj).toNat - (intOf vi).toNat)
  case atStart => exact ⟨a, m, rfl, rfl, Nat.le_refl _, hma, Nat.le_refl _, hid_ (fun h => absurd h (by omega)), hid_ (fun h => absurd h (by omega)), Hst.out⟩
  case round =>
    obtain ⟨i, j, rfl, rfl, hai, hij, hjm, HI, HJ, hs⟩ := hrel
    have Hs := hid_ hs
    clear hs
    by_cases hlt : i < j
    · obtain ⟨h, hh⟩ : ∃ h : Nat, h = (i + j) / 2 := ⟨_, rfl⟩
      have hdiv : ((i : Int) + (j : Int)) / 2 = (h : Int) := by omega
      have hh0 : h < n := by omega
      have hh1 : i ≤ h := by omega
      have hh2 : h < j := by omega
      have Hy := hid_ (Hs.out.get (k := m) (by rw [Hlen.out]; omega))
      rw [Hgm.out] at Hy
      have Hh := hid_ (Hs.out.get (k := h) (by rw [Hlen.out]; exact hh0))
      generalize hx : (p ++ (l ++ ([y] ++ s))).getD h z0 = x at Hh
      have Hx := hid_ hx
      have hS := pairIn_of (Below.refl wr.heap.size wr) Hy.out Hh.out
      have n1 : (h : Int) < (n : Int) := by omega
      have n2 : (0 : Int) ≤ (h : Int) := by omega
      have n3 : (m : Int) < (n : Int) := by omega
      clear hx hh
      cases hlv : lessF y x
      · have e5 := ord_less hlv
        have Hl := hid_ (less_no.1 hlv)
        clear hlv
        go_wp2_with fail
        go_region_held3 (PairIn wr g (off + m * 8) (off + h * 8) y x) (first | assumption | (refine pairIn_keep (by assumption) (by assumption)) | (refine pairIn_keep (by assumption) (Below.drew (Below.refl _ _))))
              (first | (go_at_call 40; (with_reducible refine Calls.mono (order_below y x _) ?_); rintro e w' ⟨rfl, hb'⟩))
        go_wp2_with fail
        go_roundw
        case rel =>
          refine ⟨h + 1, j, by go_num, rfl, by omega, by omega, hjm, hid_ (fun _ => by rw [Nat.add_sub_cancel, Hx.out]; exact Hl.out), HJ, Hs.out.keep ?_⟩
          exact And.left (by assumption)
        case measure => simp [intOf]; omega
      · have e5 := ord_less hlv
        have Hl := hid_ (less_iff.1 hlv)
        clear hlv
        go_wp2_with fail
        go_region_held3 (PairIn wr g (off + m * 8) (off + h * 8) y x) (first | assumption | (refine pairIn_keep (by assumption) (by assumption)) | (refine pairIn_keep (by assumption) (Below.drew (Below.refl _ _))))
              (first | (go_at_call 40; (with_reducible refine Calls.mono (order_below y x _) ?_); rintro e w' ⟨rfl, hb'⟩))
        go_wp2_with fail
        go_roundw
        case rel =>
          refine ⟨i, h, rfl, by go_num, hai, hh1, by omega, HI, hid_ (fun _ => by rw [Hx.out]; exact Hl.out), Hs.out.keep ?_⟩
          exact And.left (by assumption)
        case measure => simp [intOf]; omega
    · obtain rfl : i = j := by omega
      have hil : i - a ≤ l.length := by have := Hm.out; omega
      have Hok := hid_ (last_ok Hsl.out hil (fun h => by have h2 := HI.out (by omega); rw [show i - 1 = a + (i - a - 1) by omega, Hgl.out _ (by omega)] at h2; exact h2) (fun h => by have h2 := HJ.out (by have := Hm.out; omega); rw [show i = a + (i - a) by omega, Hgl.out _ h] at h2; exact h2))
      obtain ⟨wo, rfl⟩ : ∃ wo : World, wo = wr := ⟨_, rfl⟩
      go_wp2_with fail
      go_loopw [17] (fun vk wr => ∃ k : Nat, vk = .int .i64 (k : Nat) ∧ i ≤ k ∧ k ≤ m ∧ St w0 g off (p ++ (l.take (k - a) ++ (y :: (l.drop (k - a) ++ s)))) wr) (fun vk _ => (intOf vk).toNat)
      case atStart => exact ⟨m, rfl, hjm, Nat.le_refl _, Hs.out.to (by rw [List.take_of_length_le (by have := Hm.out; omega), List.drop_eq_nil_of_le (by have := Hm.out; omega)]; rfl)⟩
      case round =>
        obtain ⟨k, rfl, hik, hkm, hs2⟩ := hrel
        have Hs2 := hid_ hs2
        clear hs2
        by_cases hlt2 : i < k
        · obtain ⟨kp, rfl⟩ : ∃ kp, k = kp + 1 := ⟨k - 1, by omega⟩
          have htr : kp - a < l.length := by have := Hm.out; omega
          have Hd := hid_ (List.drop_eq_getElem_cons htr)
          have Ht := hid_ (show l.take (kp + 1 - a) = l.take (kp - a) ++ [l[kp - a]] by rw [show kp + 1 - a = kp - a + 1 by omega, List.take_succ_eq_append_getElem htr])
          generalize l[kp - a] = x at *
          have Hq := hid_ (show p ++ (l.take (kp + 1 - a) ++ (y :: (l.drop (kp + 1 - a) ++ s))) = (p ++ l.take (kp - a)) ++ (x :: y :: (l.drop (kp + 1 - a) ++ s)) by
            rw [Ht.out]
            simp)
          rw [Hq.out] at Hs2
          have Hql := hid_ (show (p ++ l.take (kp - a)).length = kp by have := Ha.out; rw [List.length_append, List.length_take]; omega)
          have Hsw := hid_ Hs2.out.down.drew
          have Hmid := hid_ Hs2.out.mid
          rw [Hql.out] at Hsw Hmid
          have fr : ∀ o, wr.frozen? ⟨g, o, none⟩ = false := Hs2.out.free
          obtain ⟨⟨x0, x1, x2, x3, x4, x5, x6, x7⟩, ⟨y0, y1, y2, y3, y4, y5, y6, y7⟩⟩ := Hmid.out
          have n1 : (kp : Int) + 1 < (n : Int) := by omega
          have n2 : (kp : Int) < (n : Int) := by omega
          have n3 : (0 : Int) ≤ (kp : Int) + 1 := by omega
          clear htr
          go_wp2_with fail
          go_region
          clear x0 x1 x2 x3 x4 x5 x6 x7 y0 y1 y2 y3 y4 y5 y6 y7 fr
          go_wp2_with fail
          go_roundw
          case rel => exact ⟨kp, by go_num, by omega, by omega, Hsw.out.to (by rw [Hd.out, show kp - a + 1 = kp + 1 - a by omega]; simp)⟩
          case measure => simp [intOf]
        · obtain rfl : i = k := by omega
          go_wp2_with fail
          go_end0
          exact mergePost_mk Hok.out (by simp only [List.length_append, List.length_cons, List.length_take, List.length_drop, List.length_nil]; omega) (Hs2.out.to (by simp))
end Go.Proofs.Ytnphbefnmbagfaa
