/-
  The document's Merge of two views, by insertion.
-/
import Derived.Test.YteoeghljoaiiiaaZEncStep
import Derived.Test.YteoeghljoaiiiaaZMerge
namespace Go.Proofs.Yteoeghljoaiiiaa
set_option linter.unusedSimpArgs false
set_option linter.unusedVariables false
open Go.RowKit Ru
attribute [local go_sem ↓] Go.wp_at_zero Go.wp_at_succ
namespace Vw
set_option linter.unusedSimpArgs false
set_option linter.unusedVariables false
theorem mem_new_at (w : World) (g : Nat) (m : MemberD) (T : TypeId) (h : g = w.heap.size) : memE.Row (w.alloc (.cells #[.int .u64 (m.id : Nat), .int .u64 (m.inc : Nat), .int .i64 m.state] T)) (some ⟨g, 0, none⟩) 1 1 [m] := by
  subst h
  exact mem_new w m T
theorem mem_lit_at (w : World) (g i ic : Nat) (st : Int) (T : TypeId) (h : g = w.heap.size) : memE.Row (w.alloc (.cells #[.int .u64 (i : Nat), .int .u64 (ic : Nat), .int .i64 st] T)) (some ⟨g, 0, none⟩) 1 1 [⟨i, ic, st⟩] := mem_new_at w g ⟨i, ic, st⟩ T h
/-- A member stands, in whatever world is w1 below its size. -/
abbrev MemOne (w1 : World) (g o : Nat) (s : MemberD) (W : World) : Prop :=
  Below w1.heap.size w1 W ∧ W.cell? ⟨g, o, none⟩ = some (.int .u64 (s.id : Nat)) ∧ W.cell? ⟨g, o + 1, none⟩ = some (.int .u64 (s.inc : Nat)) ∧ W.cell? ⟨g, o + 2, none⟩ = some (.int .i64 s.state)
theorem memOne_keep {w1 W W' : World} {g o : Nat} {s : MemberD} (h : MemOne w1 g o s W) (hb : Below W.heap.size W W') : MemOne w1 g o s W' := by
  obtain ⟨h0, a, b, c⟩ := h
  exact ⟨h0.trans (hb.mono h0.size), by rw [hb.cell (lt_of_cell a)]; exact a, by rw [hb.cell (lt_of_cell b)]; exact b, by rw [hb.cell (lt_of_cell c)]; exact c⟩
theorem memOne_keepB {w1 W W' : World} {g o : Nat} {s : MemberD} (hg : g < w1.heap.size) (h : MemOne w1 g o s W) (hb : Below w1.heap.size W W') : MemOne w1 g o s W' := by
  obtain ⟨h0, a, b, c⟩ := h
  exact ⟨h0.trans hb, by rw [hb.cell (p := ⟨g, o, none⟩) hg]; exact a, by rw [hb.cell (p := ⟨g, o + 1, none⟩) hg]; exact b, by rw [hb.cell (p := ⟨g, o + 2, none⟩) hg]; exact c⟩
/-- Two members stand. -/
abbrev MemTwo (w1 : World) (g1 o1 g2 o2 : Nat) (s t : MemberD) (W : World) : Prop :=
  Below w1.heap.size w1 W ∧ W.cell? ⟨g1, o1, none⟩ = some (.int .u64 (s.id : Nat)) ∧ W.cell? ⟨g1, o1 + 1, none⟩ = some (.int .u64 (s.inc : Nat)) ∧ W.cell? ⟨g1, o1 + 2, none⟩ = some (.int .i64 s.state) ∧
    W.cell? ⟨g2, o2, none⟩ = some (.int .u64 (t.id : Nat)) ∧ W.cell? ⟨g2, o2 + 1, none⟩ = some (.int .u64 (t.inc : Nat)) ∧ W.cell? ⟨g2, o2 + 2, none⟩ = some (.int .i64 t.state)
theorem memTwo_keep {w1 W W' : World} {g1 o1 g2 o2 : Nat} {s t : MemberD} (h : MemTwo w1 g1 o1 g2 o2 s t W) (hb : Below W.heap.size W W') : MemTwo w1 g1 o1 g2 o2 s t W' := by
  obtain ⟨h0, a, b, c, d, e, f⟩ := h
  exact ⟨h0.trans (hb.mono h0.size), by rw [hb.cell (lt_of_cell a)]; exact a, by rw [hb.cell (lt_of_cell b)]; exact b, by rw [hb.cell (lt_of_cell c)]; exact c, by rw [hb.cell (lt_of_cell d)]; exact d, by rw [hb.cell (lt_of_cell e)]; exact e, by rw [hb.cell (lt_of_cell f)]; exact f⟩
theorem own_place2 {B : Nat} {w : World} {A : Option Addr} {n c : Nat} {ss : List MemberD} (h : OwnM B w A n c ss) : (A = none ∧ n = 0 ∧ c = 0) ∨ ∃ g, A = some ⟨g, 0, none⟩ ∧ B ≤ g := by
  obtain ⟨hx, ⟨e, _⟩ | ⟨g, cap, cur, e, hg, _⟩⟩ := h
  · injection e with a b c
    exact .inl ⟨a, b, c⟩
  · injection e with a b c
    exact .inr ⟨g, a, hg⟩
theorem all_set3 : ∀ (l : List MemberD) (k : Nat) (x : MemberD), k < l.length → (((memE.all l).set (k * 3) (.int .u64 (x.id : Nat))).set (k * 3 + 1) (.int .u64 (x.inc : Nat))).set (k * 3 + 2) (.int .i64 x.state) = memE.all (l.set k x)
  | [], k, x, h => by simp at h
  | y :: t, 0, x, _ => rfl
  | y :: t, k + 1, x, h => by
    have ih := all_set3 t k x (by simpa using h)
    have e : memE.all (y :: t) = mcells y ++ memE.all t := rfl
    have e2 : memE.all ((y :: t).set (k + 1) x) = mcells y ++ memE.all (t.set k x) := rfl
    have hl : (mcells y).length = 3 := rfl
    rw [e, e2, ← ih, List.set_append_right _ _ (by rw [hl]; omega), List.set_append_right _ _ (by rw [hl]; omega), List.set_append_right _ _ (by rw [hl]; omega), hl]
    rw [show (k + 1) * 3 - 3 = k * 3 by omega, show (k + 1) * 3 + 1 - 3 = k * 3 + 1 by omega, show (k + 1) * 3 + 2 - 3 = k * 3 + 2 by omega]
/-- One of an own row's members is laid anew. -/
theorem own_set {B : Nat} {w : World} {g o n c : Nat} {l : List MemberD} (h : OwnM B w (some ⟨g, o, none⟩) n c l) {k : Nat} (hk : k < l.length) (x : MemberD) :
    OwnM B (((w.setCell ⟨g, o + k * 3, none⟩ (.int .u64 (x.id : Nat))).setCell ⟨g, o + k * 3 + 1, none⟩ (.int .u64 (x.inc : Nat))).setCell ⟨g, o + k * 3 + 2, none⟩ (.int .i64 x.state)) (some ⟨g, o, none⟩) n c (l.set k x) := by
  obtain rfl : o = 0 := by
    rcases own_place2 h with ⟨e, _⟩ | ⟨g', e, _⟩
    · cases e
    · injection e with e
      injection e
  show (World.setCell _ _ _).ownsRow B 79 3 (.slice (some ⟨g, 0, none⟩) n c) n (memE.all (l.set k x))
  rw [← all_set3 l k x hk, Nat.zero_add]
  exact (World.ownsRow.stored (World.ownsRow.stored (World.ownsRow.stored h (k * 3) _).1 (k * 3 + 1) _).1 (k * 3 + 2) _).1
theorem own_at {B : Nat} {w : World} {g o n c : Nat} {l : List MemberD} (h : OwnM B w (some ⟨g, o, none⟩) n c l) {k : Nat} (hk : k < l.length) {y : MemberD} (hy : l[k] = y) :
    B ≤ g ∧ g < w.heap.size ∧ (∀ q, w.frozen? ⟨g, q, none⟩ = false) ∧ MemAt w g (o + k * 3) y := by
  subst hy
  obtain ⟨b, off, e, hb, hc⟩ := h.row.at_ hk
  injection e with e
  injection e with e1 e2
  subst e1 e2
  refine ⟨?_, hb, ?_, memAt_of hc⟩
  · rcases own_place2 h with ⟨e, _⟩ | ⟨g', e, hg⟩
    · cases e
    · injection e with e
      injection e with e1 e2
      omega
  · intro q
    rcases h.2 with ⟨e', _⟩ | ⟨gg, cap, cur, e', _, hh, _⟩
    · cases e'
    · injection e' with e1
      injection e1 with e1
      injection e1 with e1
      subst e1
      simp [World.frozen?, hh]
theorem below_set3 {B : Nat} {w W : World} {g : Nat} (h : Below B w W) (hg : B ≤ g) (o : Nat) (a b c : Value) : Below B w (((W.setCell ⟨g, o, none⟩ a).setCell ⟨g, o + 1, none⟩ b).setCell ⟨g, o + 2, none⟩ c) :=
  ((h.setCell (p := ⟨g, o, none⟩) hg a).setCell (p := ⟨g, o + 1, none⟩) hg b).setCell (p := ⟨g, o + 2, none⟩) hg c
theorem set_same {s : List MemberD} {j : Nat} {y : MemberD} (hj : j < s.length) (h : s[j] = y) : s.set j y = s := by
  subst h
  exact List.set_getElem_self hj
theorem row_place3 {w : World} {A A' : Option Addr} {n n' c c' : Nat} {ss : List MemberD} (h : memE.Row w A n c ss) (e1 : A = A') (e0 : n = n') (e2 : c = c') : memE.Row w A' n' c' ss := by subst e1 e0 e2; exact h
theorem fold_take {a b : List MemberD} {s : List MemberD} {k : Nat} (hk : k < b.length) (h : s = (b.take k).foldl putM a) : putM s b[k] = (b.take (k + 1)).foldl putM a := by
  rw [List.take_succ_eq_append_getElem hk, List.foldl_append, ← h]
  rfl
set_option maxRecDepth 100000 in
set_option maxHeartbeats 32000000 in
theorem rmerge_good (A A' : Option Addr) (n n' c c' : Nat) (a b : List MemberD) (w : World) (h1 : MemRow w A n c a) (h2 : MemRow w A' n' c' b) (hr1 : rightV a = true) (hr2 : rightV b = true) :
    Calls Try.prog 55 #[.slice A n c, .slice A' n' c'] w (MergePost w a b) := by
  have Hr1 := hid_ (rright_any A n c a w h1)
  have Hr2 := hid_ (fun (W : World) (hb : Below w.heap.size w W) => rright_any A' n' c' b W (h2.below hb))
  have ha := right_rising hr1
  have hb := right_rising hr2
  have hmg := put_all ha hb
  have hn : n ≤ 16 := by rw [← h1.len]; exact rightV_len hr1
  have hn' : n' ≤ 16 := by rw [← h2.len]; exact rightV_len hr2
  have HI := hid_ (fun r k (h : (16 < (b.foldl putM a).length ∧ r = [] ∧ k = 4) ∨ ((b.foldl putM a).length ≤ 16 ∧ r = b.foldl putM a ∧ k = 0)) => show MergeIs a b r k from .inr ⟨hr1, hr2, _, hmg, h⟩)
  have HRa := hid_ ha
  have HLa := hid_ h1.len
  have HLb := hid_ h2.len
  have HR1 := hid_ (enc_of_memRow h1)
  have HR2 := hid_ h2
  have q1 := h1.cap
  have q2 := h1.max
  have q3 := h2.cap
  have q4 := h2.max
  rw [hr1] at Hr1
  rw [hr2] at Hr2
  clear h1 h2 hr1 hr2 ha hb hmg
  unfold kindP at Hr1 Hr2
  go_enter Try.func55, Try.ntmps55
  go_wp2_with fail
  refine Calls.mono Hr1.out ?_
  rintro e w1 ⟨rfl, hb⟩
  have Hb := hid_ hb
  clear hb
  go_wp2_with fail
  refine Calls.mono (Hr2.out _ Hb.out) ?_
  rintro e w2 ⟨rfl, hb⟩
  have Hb2 := hid_ (Hb.out.trans (hb.mono Hb.out.size))
  clear hb Hb
  have hsz2 := Hb2.out.size
  have HBE := hid_ (Hb2.out.alloc hsz2 (.cells #[] 79))
  have HRE := hid_ (HR1.out.below HBE.out)
  have HOE := hid_ (show OwnM w.heap.size (w2.alloc (.cells #[] 79)) (some ⟨w2.heap.size, 0, none⟩) 0 0 [] from Enc.own_empty w2 _ rfl _ hsz2)
  go_wp2_with (at_builtin; refine Enc.wpList_rows (E := memE) (e := 79) rfl (.tmp 17) (.tmp 18) 77 rfl _ 24 Try.underlying77 info_mem rfl w.heap.size _ 0 0 [] rfl HOE.out A n c a rfl HRE.out n a (by omega) rfl (by omega) (by omega) HBE.out.size ?_; intro A2 c2 w3 ho3 hb3 _ _; have HX := hid_ (And.intro ho3 (HBE.out.trans hb3)); clear ho3 hb3)
  go_loopw [6, 7] (fun vo vi wr => ∃ (k m : Nat) (A3 : Option Addr) (c3 : Nat) (s : List MemberD), k ≤ n' ∧ vi = .int .i64 (k : Nat) ∧ vo = .slice A3 m c3 ∧ m ≤ 16 + k ∧ Hid (OwnM w.heap.size wr A3 m c3 s) ∧ Hid (s = (b.take k).foldl putM a) ∧ Hid (Rising s) ∧ Hid (Below w.heap.size w wr)) (fun _ vi _ => n' - (intOf vi).toNat)
  case atStart => exact ⟨0, n, A2, c2, a, Nat.zero_le _, rfl, rfl, by omega, hid_ HX.out.1, hid_ (by rw [List.take_zero]; rfl), HRa, hid_ HX.out.2⟩
  case round =>
    obtain ⟨k, m, A3, c3, s, hk, rfl, rfl, hmk, HO, HE, HS, HB⟩ := hrel
    have hszr := HB.out.size
    have hmc := HO.out.row.cap
    have hcm := HO.out.row.max
    have HSL := hid_ HO.out.len
    by_cases hlt : k < n'
    · have hkl : k < b.length := by rw [HLb.out]; exact hlt
      have HN := hid_ (fold_take hkl HE.out)
      obtain ⟨gb, ob, rfl, hc⟩ := HR2.out.at_ hkl
      have hgb := hc.lt
      have HC := hid_ hc
      have x1 : (k : Int) < (n' : Int) := by omega
      have x2 : (0 : Int) ≤ (k : Int) := by omega
      have HKn := hid_ hlt
      generalize b[k] = x at *
      obtain ⟨i, ic, st⟩ := x
      clear hc hlt
      go_wp2_with fail
      obtain ⟨wo, hwo⟩ : ∃ wo : World, wo = wr := ⟨_, rfl⟩
      subst hwo
      go_loopw [8] (fun v8 wi => ∃ j : Nat, j ≤ m ∧ v8 = .int .i64 (j : Nat) ∧ Hid (∀ q (hq : q < s.length), q < j → s[q].id < i) ∧ Hid (OwnM w.heap.size wi A3 m c3 s) ∧ Hid (Below w.heap.size w wi)) (fun v8 _ => m - (intOf v8).toNat)
      case atStart => exact ⟨0, Nat.zero_le _, rfl, hid_ (fun q _ h => absurd h (by omega)), HO, HB⟩
      case round =>
        obtain ⟨j, hj, rfl, HJ, HOi, HBi⟩ := hrel
        obtain ⟨a0, a1, a2⟩ := HC.out.keep_ (fun p hp => HBi.out.cell hp)
        simp only at a0 a1 a2
        by_cases hjm : j < m
        · have hjl : j < s.length := by rw [HSL.out]; exact hjm
          obtain ⟨g3, o3, rfl, hg3, hc3⟩ := HOi.out.row.at_ hjl
          have d0 : wr.cell? ⟨g3, o3 + j * 3, none⟩ = some (.int .u64 (s[j].id : Nat)) := (memAt_of hc3).c0
          have HD := hid_ hc3
          have HNew := hid_ (fun (h : s[j].id < i) => show ∀ q (hq : q < s.length), q < j + 1 → s[q].id < i from fun q hq h2 => by
            by_cases e : q = j
            · subst e; exact h
            · exact HJ.out q hq (by omega))
          have HIns := hid_ (fun (h : i < s[j].id) => putM_new (x := ⟨i, ic, st⟩) hjl HJ.out h)
          have HOld := hid_ (fun (h : s[j].id = i) => putM_old (x := ⟨i, ic, st⟩) hjl HJ.out h)
          have HR3 := hid_ (putM_rising HS.out ⟨i, ic, st⟩)
          have y1 : (j : Int) < (m : Int) := by omega
          have y2 : (0 : Int) ≤ (j : Int) := by omega
          have g1 : decide ((j : Int) < (m : Int)) = true := decide_eq_true y1
          have g2 : decide (j < m) = true := decide_eq_true hjm
          have HJM := hid_ hjm
          have HJL := hid_ hjl
          generalize hy : s[j] = y at *
          have HY := hid_ hy
          clear hc3 hjm hjl hy
          by_cases hless : y.id < i
          · have f1 : decide (y.id < i) = true := decide_eq_true hless
            have HNw := hid_ (HNew.out hless)
            clear hless
            go_wp2_with fail
            go_quiet (fail)
            clear a0 a1 a2 d0
            have HOq := hid_ (show OwnM w.heap.size (wr.drewN nq) (some ⟨g3, o3, none⟩) m c3 s from HOi.out.later (below_drewN (Below.refl _ _) nq))
            have HBq := hid_ (HBi.out.trans (Below.mono (below_drewN (Below.refl wr.heap.size wr) nq) HBi.out.size))
            go_wp2_with fail
            go_roundw
            case rel => exact ⟨j + 1, by have := HJM.out; omega, by go_num, HNw, HOq, HBq⟩
            case measure => have := HJM.out; simp [intOf]; omega
          · have f1 : decide (y.id < i) = false := decide_eq_false hless
            go_wp2_with fail
            go_quiet (fail)
            have HOq := hid_ (show OwnM w.heap.size (wr.drewN nq) (some ⟨g3, o3, none⟩) m c3 s from HOi.out.later (below_drewN (Below.refl _ _) nq))
            have HBq := hid_ (HBi.out.trans (Below.mono (below_drewN (Below.refl wr.heap.size wr) nq) HBi.out.size))
            clear a0 a1 a2 d0
            generalize wr.drewN nq = wq at *
            obtain ⟨a0, a1, a2⟩ := HC.out.keep_ (fun p hp => HBq.out.cell hp)
            simp only at a0 a1 a2
            obtain ⟨hg4, hg5, hfz, hat⟩ := own_at HOq.out HJL.out HY.out
            obtain ⟨d0, d1, d2⟩ := hat
            have HAZ := hid_ (And.intro hg4 hg5)
            by_cases heq : y.id = i
            · have e1 : (((y.id : Nat) : Int) == (i : Int)) = true := by rw [beq_iff_eq]; omega
              have e2 : (y.id == i) = true := by rw [beq_iff_eq]; exact heq
              have HP := hid_ (HOld.out heq)
              clear hless heq
              go_wp2_with fail
              go_quiet (fail)
              clear a0 a1 a2 d0 d1 d2
              have HOz := hid_ (show OwnM w.heap.size (wq.drewN nq) (some ⟨g3, o3, none⟩) m c3 s from HOq.out.later (below_drewN (Below.refl _ _) nq))
              have HBz := hid_ (HBq.out.trans (Below.mono (below_drewN (Below.refl wq.heap.size wq) nq) HBq.out.size))
              generalize wq.drewN nq = wz at *
              obtain ⟨a0, a1, a2⟩ := HC.out.keep_ (fun p hp => HBz.out.cell hp)
              simp only at a0 a1 a2
              obtain ⟨_, _, hfz, hat⟩ := own_at HOz.out HJL.out HY.out
              obtain ⟨d0, d1, d2⟩ := hat
              have S0 : MemTwo wz gb (ob + k * 3) g3 (o3 + j * 3) ⟨i, ic, st⟩ y wz := ⟨Below.refl _ _, a0, a1, a2, d0, d1, d2⟩
              have HNewr := hid_ (fun W => rnewer_any ⟨i, ic, st⟩ y W)
              clear a0 a1 a2 d0 d1 d2
              cases hnw : newerB ⟨i, ic, st⟩ y
              · rw [hnw] at HNewr
                have HNs := hid_ (show s = (b.take (k + 1)).foldl putM a by
                  rw [← HN.out, HP.out]
                  unfold joinM
                  rw [hnw, if_neg Bool.false_ne_true]
                  exact (set_same HJL.out HY.out).symm)
                clear hnw
                go_wp2_with fail
                go_region_held3 (MemTwo wz gb (ob + k * 3) g3 (o3 + j * 3) ⟨i, ic, st⟩ y) (first | assumption | (refine memTwo_keep (by assumption) (by assumption)) | (refine memTwo_keep (by assumption) (Below.drew (Below.refl _ _))))
                  (first | (go_at_call 51; (with_reducible refine Calls.mono (HNewr.out _) ?_); rintro e w' ⟨rfl, hb'⟩) | fail)
                go_wp2_with fail
                go_roundw
                case rel => exact ⟨k + 1, m, some ⟨g3, o3, none⟩, c3, s, by have := HKn.out; omega, by go_num, rfl, by omega, hid_ (HOz.out.later (And.left (by assumption))), HNs, HS, hid_ (HBz.out.trans (Below.mono (And.left (by assumption)) HBz.out.size))⟩
                case measure => have := HKn.out; simp [intOf]; omega
              · rw [hnw] at HNewr
                have HNs := hid_ (show s.set j ⟨i, ic, st⟩ = (b.take (k + 1)).foldl putM a by
                  rw [← HN.out, HP.out]
                  unfold joinM
                  rw [hnw, if_pos rfl])
                have HNr := hid_ (show Rising (s.set j ⟨i, ic, st⟩) by rw [HNs.out, ← HN.out]; exact HR3.out)
                clear hnw
                go_wp2_with fail
                go_region_held3 (MemTwo wz gb (ob + k * 3) g3 (o3 + j * 3) ⟨i, ic, st⟩ y) (first | assumption | (refine memTwo_keep (by assumption) (by assumption)) | (refine memTwo_keep (by assumption) (Below.drew (Below.refl _ _))))
                  (first | (go_at_call 51; (with_reducible refine Calls.mono (HNewr.out _) ?_); rintro e w' ⟨rfl, hb'⟩) | fail)
                have hS2 : MemTwo wz gb (ob + k * 3) g3 (o3 + j * 3) ⟨i, ic, st⟩ y w' := by assumption
                obtain ⟨s0, s1, s2, s3, s4, s5, s6⟩ := hS2
                simp only at s1 s2 s3
                have HOy := hid_ (HOz.out.later s0)
                have HBy := hid_ (HBz.out.trans (Below.mono s0 HBz.out.size))
                have hfy := (own_at HOy.out HJL.out HY.out).2.2.1
                have HOs := hid_ (own_set HOy.out HJL.out ⟨i, ic, st⟩)
                have HBs := hid_ (below_set3 HBy.out HAZ.out.1 (o3 + j * 3) (.int .u64 (i : Nat)) (.int .u64 (ic : Nat)) (.int .i64 st))
                go_wp2_with fail
                go_roundw
                case rel => exact ⟨k + 1, m, some ⟨g3, o3, none⟩, c3, s.set j ⟨i, ic, st⟩, by have := HKn.out; omega, by go_num, rfl, by omega, HOs, HNs, HNr, HBs⟩
                case measure => have := HKn.out; simp [intOf]; omega
            · have e1 : (((y.id : Nat) : Int) == (i : Int)) = false := by rw [beq_eq_false_iff_ne]; omega
              have e2 : (y.id == i) = false := by rw [beq_eq_false_iff_ne]; exact heq
              have HP := hid_ (HIns.out (by omega))
              have HNs := hid_ (show s.take j ++ [(⟨i, ic, st⟩ : MemberD)] ++ s.drop j = (b.take (k + 1)).foldl putM a by rw [← HN.out, HP.out])
              have HNr := hid_ (show Rising (s.take j ++ [(⟨i, ic, st⟩ : MemberD)] ++ s.drop j) by rw [← HP.out]; exact HR3.out)
              clear hless heq
              go_wp2_with fail
              go_quiet (fail)
              clear a0 a1 a2 d0 d1 d2
              have HOz := hid_ (show OwnM w.heap.size (wq.drewN nq) (some ⟨g3, o3, none⟩) m c3 s from HOq.out.later (below_drewN (Below.refl _ _) nq))
              have HBz := hid_ (HBq.out.trans (Below.mono (below_drewN (Below.refl wq.heap.size wq) nq) HBq.out.size))
              generalize wq.drewN nq = wz at *
              obtain ⟨a0, a1, a2⟩ := HC.out.keep_ (fun p hp => HBz.out.cell hp)
              simp only at a0 a1 a2
              have S0 : MemOne wz gb (ob + k * 3) ⟨i, ic, st⟩ wz := ⟨Below.refl _ _, a0, a1, a2⟩
              have hblz : gb < wz.heap.size := by have := HBz.out.size; omega
              clear a0 a1 a2
              have hjm2 := HJM.out
              have i1 : (0 : Int) ≤ (j : Int) := by omega
              have i2 : (j : Int) ≤ (m : Int) := by omega
              have i3 : (m : Int) ≤ (c3 : Int) := by omega
              have i4 : (j : Int) ≤ (c3 : Int) := by omega
              have hck : ¬ c3 = j := by omega
              have Hpl := hid_ (show Enc.cutAtK (some ⟨g3, o3, none⟩) c3 j memE.K = some ⟨g3, o3 + j * 3, none⟩ by unfold Enc.cutAtK; rw [if_neg hck, Option.map_some, add_plain]; rfl)
              go_wp2_with fail
              go_region_held3 (MemOne wz gb (ob + k * 3) ⟨i, ic, st⟩) (first | assumption | (refine memOne_keep (by assumption) (by assumption)) | (refine memOne_keep (by assumption) (Below.drew (Below.refl _ _))) | (refine memOne_keep (by assumption) (Below.alloc (Below.refl _ _) (Nat.le_refl _) _)) | (refine memOne_keepB hblz (by assumption) (by assumption)))
                (first
                  | (refine Enc.step_rows (E := memE) (e := 79) (by rfl) (.tmp 78) (.tmp 81) 77 (by rfl) _ 24 Try.underlying77 info_mem rfl wz.heap.size _ 0 0 [] (by rfl) ?_ _ j _ (s.take j) (by rfl) ?_ j (s.take j) (by omega) (by rfl) (by omega) (by omega) ?_ ?_; (first | exact Enc.own_empty _ _ rfl _ (by simp) | exact Enc.Own.alloc (Enc.own_empty _ _ rfl _ (by simp)) _ | exact Enc.own_empty_at _ _ _ rfl _ (by simp) (by simp) | exact Enc.Own.alloc (Enc.own_empty_at _ _ _ rfl _ (by simp) (by simp)) _); (exact ((HOz.out.later (And.left (by assumption))).row.upto j (by omega)).place rfl (by omega)); (exact Below.size (And.left (by assumption))); (intro A1 c1 w1 ho1 hb1 hg1); (try (have hlit := Enc.lit_kept (E := memE) (gl := wz.heap.size + 1) (s := ⟨i, ic, st⟩) (hg := hg1) (h := by first | exact mem_lit_at _ _ _ _ _ _ (by simp) | exact (mem_lit_at _ _ _ _ _ _ (by simp)).below (Below.drew (Below.refl _ _))) (hne := by simp [Value.ownBlock]))); (try (have hlit := Enc.lit_kept (E := memE) (gl := wz.heap.size) (s := ⟨i, ic, st⟩) (hg := hg1) (h := by first | exact (mem_lit_at _ _ _ _ _ _ (by simp)).below ((Below.refl _ _).alloc (Nat.le_refl _) _) | exact (mem_lit_at _ _ _ _ _ _ (by simp)).below (Below.drew ((Below.refl _ _).alloc (Nat.le_refl _) _))) (hne := by simp [Value.ownBlock]))))
                  | (refine Enc.step_rows (E := memE) (e := 79) (by rfl) (.tmp 82) (.tmp 87) 77 (by rfl) _ 24 Try.underlying77 info_mem rfl wz.heap.size A1 j c1 (s.take j) (by rfl) ?_ _ 1 1 [⟨i, ic, st⟩] (by rfl) ?_ (j + 1) (s.take j ++ [⟨i, ic, st⟩]) (by rfl) (by rfl) (by omega) (by omega) ?_ ?_; (first | exact ho1 | exact Enc.Own.alloc ho1 _); (first | exact hlit | exact mem_lit_at _ _ _ _ _ _ (by simp)); (exact Below.size (And.left (by assumption))); (intro A2 c2 w2 ho2 hb2 hg2))
                  | (refine Enc.step_rows (E := memE) (e := 79) (by rfl) (.tmp 88) (.tmp 91) 77 (by rfl) _ 24 Try.underlying77 info_mem rfl wz.heap.size A2 (j + 1) c2 (s.take j ++ [⟨i, ic, st⟩]) (by rfl) ho2 _ _ _ (s.drop j) (by rfl) ?_ (m + 1) (s.take j ++ [⟨i, ic, st⟩] ++ s.drop j) (by omega) (by rfl) (by omega) (by omega) ?_ ?_; (exact row_place3 ((HOz.out.later (And.left (by assumption))).row.from_ j (by omega)) Hpl.out (by omega) (by omega)); (exact Below.size (And.left (by assumption))); (intro A3 c3 w3 ho3 hb3 hg3))
                  | fail)
              all_goals
                go_wp2_with fail
                go_roundw
                case rel => exact ⟨k + 1, m + 1, A3, c3, s.take j ++ [(⟨i, ic, st⟩ : MemberD)] ++ s.drop j, by have := HKn.out; omega, by go_num, rfl, by omega, hid_ (ho3.mono HBz.out.size), HNs, HNr, hid_ (HBz.out.trans (Below.mono (And.left (by assumption)) HBz.out.size))⟩
                case measure => have := HKn.out; simp [intOf]; omega
        · obtain rfl : j = m := by omega
          have HNs := hid_ (show s.take j ++ [(⟨i, ic, st⟩ : MemberD)] ++ s.drop j = (b.take (k + 1)).foldl putM a by
            rw [← HN.out, putM_end s ⟨i, ic, st⟩ (fun q hq => HJ.out q hq (by rw [← HSL.out]; exact hq)), List.take_of_length_le (by rw [HSL.out]; omega), List.drop_eq_nil_of_le (by rw [HSL.out]; omega), List.append_nil])
          have HNr := hid_ (show Rising (s.take j ++ [(⟨i, ic, st⟩ : MemberD)] ++ s.drop j) by rw [HNs.out, ← HN.out]; exact putM_rising HS.out _)
          have g1 : decide ((j : Int) < (j : Int)) = false := decide_eq_false (by omega)
          have g2 : decide (j < j) = false := decide_eq_false (by omega)
          clear hjm a0 a1 a2
          go_wp2_with fail
          go_quiet (fail)
          have HOq := hid_ (show OwnM w.heap.size (wr.drewN nq) A3 j c3 s from HOi.out.later (below_drewN (Below.refl _ _) nq))
          have HBq := hid_ (HBi.out.trans (Below.mono (below_drewN (Below.refl wr.heap.size wr) nq) HBi.out.size))
          generalize wr.drewN nq = wq at *
          go_wp2_with fail
          go_quiet (fail)
          have HOz := hid_ (show OwnM w.heap.size (wq.drewN nq) A3 j c3 s from HOq.out.later (below_drewN (Below.refl _ _) nq))
          have HBz := hid_ (HBq.out.trans (Below.mono (below_drewN (Below.refl wq.heap.size wq) nq) HBq.out.size))
          generalize wq.drewN nq = wz at *
          obtain ⟨a0, a1, a2⟩ := HC.out.keep_ (fun p hp => HBz.out.cell hp)
          simp only at a0 a1 a2
          have S0 : MemOne wz gb (ob + k * 3) ⟨i, ic, st⟩ wz := ⟨Below.refl _ _, a0, a1, a2⟩
          have hblz : gb < wz.heap.size := by have := HBz.out.size; omega
          clear a0 a1 a2
          rcases own_place2 HOz.out with ⟨rfl, hm0, hc0⟩ | ⟨g3, rfl, hg3⟩
          · subst hm0 hc0
            have i1 : (0 : Int) ≤ (0 : Int) := by omega
            have i2 : ((0 : Nat) : Int) ≤ ((0 : Nat) : Int) := by omega
            have Hpl := hid_ (show Enc.cutAtK none 0 0 memE.K = none by unfold Enc.cutAtK; split <;> rfl)
            go_wp2_with fail
            go_region_held3 (MemOne wz gb (ob + k * 3) ⟨i, ic, st⟩) (first | assumption | (refine memOne_keep (by assumption) (by assumption)) | (refine memOne_keep (by assumption) (Below.drew (Below.refl _ _))) | (refine memOne_keep (by assumption) (Below.alloc (Below.refl _ _) (Nat.le_refl _) _)) | (refine memOne_keepB hblz (by assumption) (by assumption)))
              (first
                | (refine Enc.step_rows (E := memE) (e := 79) (by rfl) (.tmp 78) (.tmp 81) 77 (by rfl) _ 24 Try.underlying77 info_mem rfl wz.heap.size _ 0 0 [] (by rfl) ?_ _ 0 _ (s.take 0) (by rfl) ?_ 0 (s.take 0) (by omega) (by rfl) (by omega) (by omega) ?_ ?_; (first | exact Enc.own_empty _ _ rfl _ (by simp) | exact Enc.Own.alloc (Enc.own_empty _ _ rfl _ (by simp)) _ | exact Enc.own_empty_at _ _ _ rfl _ (by simp) (by simp) | exact Enc.Own.alloc (Enc.own_empty_at _ _ _ rfl _ (by simp) (by simp)) _); (exact ((HOz.out.later (And.left (by assumption))).row.upto 0 (by omega)).place rfl (by omega)); (exact Below.size (And.left (by assumption))); (intro A1 c1 w1 ho1 hb1 hg1); (try (have hlit := Enc.lit_kept (E := memE) (gl := wz.heap.size + 1) (s := ⟨i, ic, st⟩) (hg := hg1) (h := by first | exact mem_lit_at _ _ _ _ _ _ (by simp) | exact (mem_lit_at _ _ _ _ _ _ (by simp)).below (Below.drew (Below.refl _ _))) (hne := by simp [Value.ownBlock]))); (try (have hlit := Enc.lit_kept (E := memE) (gl := wz.heap.size) (s := ⟨i, ic, st⟩) (hg := hg1) (h := by first | exact (mem_lit_at _ _ _ _ _ _ (by simp)).below ((Below.refl _ _).alloc (Nat.le_refl _) _) | exact (mem_lit_at _ _ _ _ _ _ (by simp)).below (Below.drew ((Below.refl _ _).alloc (Nat.le_refl _) _))) (hne := by simp [Value.ownBlock]))))
                | (refine Enc.step_rows (E := memE) (e := 79) (by rfl) (.tmp 82) (.tmp 87) 77 (by rfl) _ 24 Try.underlying77 info_mem rfl wz.heap.size A1 0 c1 (s.take 0) (by rfl) ?_ _ 1 1 [⟨i, ic, st⟩] (by rfl) ?_ (0 + 1) (s.take 0 ++ [⟨i, ic, st⟩]) (by rfl) (by rfl) (by omega) (by omega) ?_ ?_; (first | exact ho1 | exact Enc.Own.alloc ho1 _); (first | exact hlit | exact mem_lit_at _ _ _ _ _ _ (by simp)); (exact Below.size (And.left (by assumption))); (intro A2 c2 w2 ho2 hb2 hg2))
                | (refine Enc.step_rows (E := memE) (e := 79) (by rfl) (.tmp 88) (.tmp 91) 77 (by rfl) _ 24 Try.underlying77 info_mem rfl wz.heap.size A2 (0 + 1) c2 (s.take 0 ++ [⟨i, ic, st⟩]) (by rfl) ho2 _ _ _ (s.drop 0) (by rfl) ?_ (0 + 1) (s.take 0 ++ [⟨i, ic, st⟩] ++ s.drop 0) (by omega) (by rfl) (by omega) (by omega) ?_ ?_; (exact row_place3 ((HOz.out.later (And.left (by assumption))).row.from_ 0 (by omega)) Hpl.out (by omega) (by omega)); (exact Below.size (And.left (by assumption))); (intro A3 c3 w3 ho3 hb3 hg3))
                | fail)
            all_goals
              go_wp2_with fail
              go_roundw
              case rel => exact ⟨k + 1, 0 + 1, A3, c3, s.take 0 ++ [(⟨i, ic, st⟩ : MemberD)] ++ s.drop 0, by have := HKn.out; omega, by go_num, rfl, by omega, hid_ (ho3.mono HBz.out.size), HNs, HNr, hid_ (HBz.out.trans (Below.mono (And.left (by assumption)) HBz.out.size))⟩
              case measure => have := HKn.out; simp [intOf]; omega
          · have i1 : (0 : Int) ≤ (j : Int) := by omega
            have i2 : (j : Int) ≤ (j : Int) := by omega
            have i4 : (j : Int) ≤ (c3 : Int) := by omega
            by_cases hck : c3 = j
            · skip
              have Hpl := hid_ (show Enc.cutAtK (some ⟨g3, 0, none⟩) c3 j memE.K = some ⟨g3, 0, none⟩ by unfold Enc.cutAtK; rw [if_pos hck])
              go_wp2_with fail
              go_region_held3 (MemOne wz gb (ob + k * 3) ⟨i, ic, st⟩) (first | assumption | (refine memOne_keep (by assumption) (by assumption)) | (refine memOne_keep (by assumption) (Below.drew (Below.refl _ _))) | (refine memOne_keep (by assumption) (Below.alloc (Below.refl _ _) (Nat.le_refl _) _)) | (refine memOne_keepB hblz (by assumption) (by assumption)))
                (first
                  | (refine Enc.step_rows (E := memE) (e := 79) (by rfl) (.tmp 78) (.tmp 81) 77 (by rfl) _ 24 Try.underlying77 info_mem rfl wz.heap.size _ 0 0 [] (by rfl) ?_ _ j _ (s.take j) (by rfl) ?_ j (s.take j) (by omega) (by rfl) (by omega) (by omega) ?_ ?_; (first | exact Enc.own_empty _ _ rfl _ (by simp) | exact Enc.Own.alloc (Enc.own_empty _ _ rfl _ (by simp)) _ | exact Enc.own_empty_at _ _ _ rfl _ (by simp) (by simp) | exact Enc.Own.alloc (Enc.own_empty_at _ _ _ rfl _ (by simp) (by simp)) _); (exact ((HOz.out.later (And.left (by assumption))).row.upto j (by omega)).place rfl (by omega)); (exact Below.size (And.left (by assumption))); (intro A1 c1 w1 ho1 hb1 hg1); (try (have hlit := Enc.lit_kept (E := memE) (gl := wz.heap.size + 1) (s := ⟨i, ic, st⟩) (hg := hg1) (h := by first | exact mem_lit_at _ _ _ _ _ _ (by simp) | exact (mem_lit_at _ _ _ _ _ _ (by simp)).below (Below.drew (Below.refl _ _))) (hne := by simp [Value.ownBlock]))); (try (have hlit := Enc.lit_kept (E := memE) (gl := wz.heap.size) (s := ⟨i, ic, st⟩) (hg := hg1) (h := by first | exact (mem_lit_at _ _ _ _ _ _ (by simp)).below ((Below.refl _ _).alloc (Nat.le_refl _) _) | exact (mem_lit_at _ _ _ _ _ _ (by simp)).below (Below.drew ((Below.refl _ _).alloc (Nat.le_refl _) _))) (hne := by simp [Value.ownBlock]))))
                  | (refine Enc.step_rows (E := memE) (e := 79) (by rfl) (.tmp 82) (.tmp 87) 77 (by rfl) _ 24 Try.underlying77 info_mem rfl wz.heap.size A1 j c1 (s.take j) (by rfl) ?_ _ 1 1 [⟨i, ic, st⟩] (by rfl) ?_ (j + 1) (s.take j ++ [⟨i, ic, st⟩]) (by rfl) (by rfl) (by omega) (by omega) ?_ ?_; (first | exact ho1 | exact Enc.Own.alloc ho1 _); (first | exact hlit | exact mem_lit_at _ _ _ _ _ _ (by simp)); (exact Below.size (And.left (by assumption))); (intro A2 c2 w2 ho2 hb2 hg2))
                  | (refine Enc.step_rows (E := memE) (e := 79) (by rfl) (.tmp 88) (.tmp 91) 77 (by rfl) _ 24 Try.underlying77 info_mem rfl wz.heap.size A2 (j + 1) c2 (s.take j ++ [⟨i, ic, st⟩]) (by rfl) ho2 _ _ _ (s.drop j) (by rfl) ?_ (j + 1) (s.take j ++ [⟨i, ic, st⟩] ++ s.drop j) (by omega) (by rfl) (by omega) (by omega) ?_ ?_; (exact row_place3 ((HOz.out.later (And.left (by assumption))).row.from_ j (by omega)) Hpl.out (by omega) (by omega)); (exact Below.size (And.left (by assumption))); (intro A3 c3 w3 ho3 hb3 hg3))
                  | fail)
              all_goals
                go_wp2_with fail
                go_roundw
                case rel => exact ⟨k + 1, j + 1, A3, c3, s.take j ++ [(⟨i, ic, st⟩ : MemberD)] ++ s.drop j, by have := HKn.out; omega, by go_num, rfl, by omega, hid_ (ho3.mono HBz.out.size), HNs, HNr, hid_ (HBz.out.trans (Below.mono (And.left (by assumption)) HBz.out.size))⟩
                case measure => have := HKn.out; simp [intOf]; omega
            · skip
              have Hpl := hid_ (show Enc.cutAtK (some ⟨g3, 0, none⟩) c3 j memE.K = some ⟨g3, j * 3, none⟩ by unfold Enc.cutAtK; rw [if_neg hck, Option.map_some, add_plain, Nat.zero_add]; rfl)
              go_wp2_with fail
              go_region_held3 (MemOne wz gb (ob + k * 3) ⟨i, ic, st⟩) (first | assumption | (refine memOne_keep (by assumption) (by assumption)) | (refine memOne_keep (by assumption) (Below.drew (Below.refl _ _))) | (refine memOne_keep (by assumption) (Below.alloc (Below.refl _ _) (Nat.le_refl _) _)) | (refine memOne_keepB hblz (by assumption) (by assumption)))
                (first
                  | (refine Enc.step_rows (E := memE) (e := 79) (by rfl) (.tmp 78) (.tmp 81) 77 (by rfl) _ 24 Try.underlying77 info_mem rfl wz.heap.size _ 0 0 [] (by rfl) ?_ _ j _ (s.take j) (by rfl) ?_ j (s.take j) (by omega) (by rfl) (by omega) (by omega) ?_ ?_; (first | exact Enc.own_empty _ _ rfl _ (by simp) | exact Enc.Own.alloc (Enc.own_empty _ _ rfl _ (by simp)) _ | exact Enc.own_empty_at _ _ _ rfl _ (by simp) (by simp) | exact Enc.Own.alloc (Enc.own_empty_at _ _ _ rfl _ (by simp) (by simp)) _); (exact ((HOz.out.later (And.left (by assumption))).row.upto j (by omega)).place rfl (by omega)); (exact Below.size (And.left (by assumption))); (intro A1 c1 w1 ho1 hb1 hg1); (try (have hlit := Enc.lit_kept (E := memE) (gl := wz.heap.size + 1) (s := ⟨i, ic, st⟩) (hg := hg1) (h := by first | exact mem_lit_at _ _ _ _ _ _ (by simp) | exact (mem_lit_at _ _ _ _ _ _ (by simp)).below (Below.drew (Below.refl _ _))) (hne := by simp [Value.ownBlock]))); (try (have hlit := Enc.lit_kept (E := memE) (gl := wz.heap.size) (s := ⟨i, ic, st⟩) (hg := hg1) (h := by first | exact (mem_lit_at _ _ _ _ _ _ (by simp)).below ((Below.refl _ _).alloc (Nat.le_refl _) _) | exact (mem_lit_at _ _ _ _ _ _ (by simp)).below (Below.drew ((Below.refl _ _).alloc (Nat.le_refl _) _))) (hne := by simp [Value.ownBlock]))))
                  | (refine Enc.step_rows (E := memE) (e := 79) (by rfl) (.tmp 82) (.tmp 87) 77 (by rfl) _ 24 Try.underlying77 info_mem rfl wz.heap.size A1 j c1 (s.take j) (by rfl) ?_ _ 1 1 [⟨i, ic, st⟩] (by rfl) ?_ (j + 1) (s.take j ++ [⟨i, ic, st⟩]) (by rfl) (by rfl) (by omega) (by omega) ?_ ?_; (first | exact ho1 | exact Enc.Own.alloc ho1 _); (first | exact hlit | exact mem_lit_at _ _ _ _ _ _ (by simp)); (exact Below.size (And.left (by assumption))); (intro A2 c2 w2 ho2 hb2 hg2))
                  | (refine Enc.step_rows (E := memE) (e := 79) (by rfl) (.tmp 88) (.tmp 91) 77 (by rfl) _ 24 Try.underlying77 info_mem rfl wz.heap.size A2 (j + 1) c2 (s.take j ++ [⟨i, ic, st⟩]) (by rfl) ho2 _ _ _ (s.drop j) (by rfl) ?_ (j + 1) (s.take j ++ [⟨i, ic, st⟩] ++ s.drop j) (by omega) (by rfl) (by omega) (by omega) ?_ ?_; (exact row_place3 ((HOz.out.later (And.left (by assumption))).row.from_ j (by omega)) Hpl.out (by omega) (by omega)); (exact Below.size (And.left (by assumption))); (intro A3 c3 w3 ho3 hb3 hg3))
                  | fail)
              all_goals
                go_wp2_with fail
                go_roundw
                case rel => exact ⟨k + 1, j + 1, A3, c3, s.take j ++ [(⟨i, ic, st⟩ : MemberD)] ++ s.drop j, by have := HKn.out; omega, by go_num, rfl, by omega, hid_ (ho3.mono HBz.out.size), HNs, HNr, hid_ (HBz.out.trans (Below.mono (And.left (by assumption)) HBz.out.size))⟩
                case measure => have := HKn.out; simp [intOf]; omega
    · obtain rfl : k = n' := by omega
      have HF := hid_ (show s = b.foldl putM a by rw [HE.out, ← HLb.out, List.take_length])
      have HLs := hid_ (show (b.foldl putM a).length = m by rw [← HF.out]; exact HSL.out)
      have HRw := hid_ (show MemRow wr A3 m c3 s from memRow_of_enc HO.out.row)
      by_cases hbig : 16 < m
      · have HI2 := hid_ (HI.out [] 4 (.inl ⟨by rw [HLs.out]; exact hbig, rfl, rfl⟩))
        have e1 : decide ((m : Int) > 16) = true := decide_eq_true (by omega)
        have e2 : decide ((16 : Int) < (m : Int)) = true := decide_eq_true (by omega)
        have e3 : decide (16 < m) = true := decide_eq_true hbig
        clear hbig hlt
        go_wp2_with fail
        go_ret2
        exact mergePost_mk (MemRow.none _) HI2.out HB.out
      · have HI2 := hid_ (show MergeIs a b s 0 by rw [HF.out]; exact HI.out _ 0 (.inr ⟨by rw [HLs.out]; omega, rfl, rfl⟩))
        have e1 : decide ((m : Int) > 16) = false := decide_eq_false (by omega)
        have e2 : decide ((16 : Int) < (m : Int)) = false := decide_eq_false (by omega)
        have e3 : decide (16 < m) = false := decide_eq_false hbig
        clear hbig hlt
        go_wp2_with fail
        go_ret2
        exact mergePost_mk HRw.out HI2.out HB.out
set_option maxHeartbeats 4000000 in
theorem rmerge_bad (A A' : Option Addr) (n n' c c' : Nat) (a b : List MemberD) (w : World) (h1 : MemRow w A n c a) (h2 : MemRow w A' n' c' b) (hbad : rightV a = false ∨ rightV b = false) :
    Calls Try.prog 55 #[.slice A n c, .slice A' n' c'] w (MergePost w a b) := by
  have Hr1 := hid_ (rright_any A n c a w h1)
  have Hr2 := hid_ (fun (W : World) (hb : Below w.heap.size w W) => rright_any A' n' c' b W (h2.below hb))
  have HI := hid_ (show MergeIs a b [] 6 from .inl ⟨hbad, rfl, rfl⟩)
  clear h1 h2
  cases hr1 : rightV a
  · rw [hr1] at Hr1
    clear hr1 hbad
    unfold kindP at Hr1
    go_enter Try.func55, Try.ntmps55
    go_wp2_with fail
    refine Calls.mono Hr1.out ?_
    rintro e w1 ⟨rfl, hb⟩
    have Hb := hid_ hb
    clear hb
    go_wp2_with fail
    go_ret2
    exact mergePost_mk (MemRow.none _) HI.out Hb.out
  · have hr2 : rightV b = false := by
      rcases hbad with h | h
      · rw [hr1] at h; cases h
      · exact h
    rw [hr1] at Hr1
    rw [hr2] at Hr2
    clear hr1 hr2 hbad
    unfold kindP at Hr1 Hr2
    go_enter Try.func55, Try.ntmps55
    go_wp2_with fail
    refine Calls.mono Hr1.out ?_
    rintro e w1 ⟨rfl, hb⟩
    have Hb := hid_ hb
    clear hb
    go_wp2_with fail
    refine Calls.mono (Hr2.out _ Hb.out) ?_
    rintro e w2 ⟨rfl, hb⟩
    have Hb2 := hid_ (Hb.out.trans (hb.mono Hb.out.size))
    clear hb
    go_wp2_with fail
    go_ret2
    exact mergePost_mk (MemRow.none _) HI.out Hb2.out
theorem rmerge_any (A A' : Option Addr) (n n' c c' : Nat) (a b : List MemberD) (w : World) (h1 : MemRow w A n c a) (h2 : MemRow w A' n' c' b) :
    Calls Try.prog 55 #[.slice A n c, .slice A' n' c'] w (MergePost w a b) := by
  cases hr1 : rightV a
  · exact rmerge_bad A A' n n' c c' a b w h1 h2 (.inl hr1)
  · cases hr2 : rightV b
    · exact rmerge_bad A A' n n' c c' a b w h1 h2 (.inr hr2)
    · exact rmerge_good A A' n n' c c' a b w h1 h2 hr1 hr2
end Vw
end Go.Proofs.Yteoeghljoaiiiaa
