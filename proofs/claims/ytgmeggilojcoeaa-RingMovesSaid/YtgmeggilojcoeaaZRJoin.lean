/-
  An arc put behind arcs, joined to the last one where they are one.
-/
import Derived.Test.YtgmeggilojcoeaaZRPieces
namespace Go.Proofs.Ytgmeggilojcoeaa
set_option linter.unusedSimpArgs false
set_option linter.unusedVariables false
open Go.RowKit
namespace Rg
set_option linter.unusedSimpArgs false
set_option linter.unusedVariables false
def cfA (x : ArcD) : List Value := [.int .u64 (x.lo : Nat), .int .u64 (x.hi : Nat), .int .u64 (x.old : Nat), .int .u64 (x.new : Nat)]
/-- An arc's four cells. -/
def arcE : Enc ArcD := ⟨cfA, 4, fun _ => rfl, by decide, fun p u hu => by
  simp [cfA] at hu
  rcases hu with rfl | rfl | rfl | rfl <;> rfl⟩
abbrev arcVal (x : ArcD) : Value := .agg #[.int .u64 (x.lo : Nat), .int .u64 (x.hi : Nat), .int .u64 (x.old : Nat), .int .u64 (x.new : Nat)]
theorem info_arc : (Try.prog.info? 62).map (fun i => (i.zero, i.size, i.bytes)) = some (some (.agg #[.int .u64 0, .int .u64 0, .int .u64 0, .int .u64 0]), arcE.K, 32) := by kernel_rfl
abbrev OwnA := arcE.Own 62
theorem arc_lit (W : World) (g : Nat) (x : ArcD) (T : TypeId) (h : g = W.heap.size) : arcE.Row (W.alloc (.cells #[.int .u64 (x.lo : Nat), .int .u64 (x.hi : Nat), .int .u64 (x.old : Nat), .int .u64 (x.new : Nat)] T)) (some ⟨g, 0, none⟩) 1 1 [x] := by
  subst h
  exact Enc.row_new (E := arcE) W x _ rfl T
theorem arc_at {w : World} {A : Option Addr} {n c : Nat} {r : List ArcD} (h : arcE.Row w A n c r) {k : Nat} (hk : k < r.length) : ∃ b off, A = some ⟨b, off, none⟩ ∧ b < w.heap.size ∧
    w.cell? ⟨b, off + k * 4, none⟩ = some (.int .u64 (r[k].lo : Nat)) ∧ w.cell? ⟨b, off + k * 4 + 1, none⟩ = some (.int .u64 (r[k].hi : Nat)) ∧ w.cell? ⟨b, off + k * 4 + 2, none⟩ = some (.int .u64 (r[k].old : Nat)) ∧ w.cell? ⟨b, off + k * 4 + 3, none⟩ = some (.int .u64 (r[k].new : Nat)) := by
  obtain ⟨b, off, e, hb, hc⟩ := h.at_ hk
  exact ⟨b, off, e, hb, hc 0 _ rfl, hc 1 _ rfl, hc 2 _ rfl, hc 3 _ rfl⟩
theorem arc_set (l0 : List ArcD) (y : ArcD) (v : Nat) : (arcE.all (l0 ++ [y])).set (l0.length * 4 + 1) (.int .u64 (v : Nat)) = arcE.all (l0 ++ [⟨y.lo, v, y.old, y.new⟩]) := by
  rw [arcE.all_append, arcE.all_append]
  have hl : (arcE.all l0).length = l0.length * 4 := arcE.all_length l0
  rw [List.set_append_right _ _ (by rw [hl]; omega), hl, show l0.length * 4 + 1 - l0.length * 4 = 1 by omega]
  rfl
/-- The last arc's end turned. -/
theorem OwnA.turn {B : Nat} {w : World} {g n c k : Nat} {l0 : List ArcD} {y : ArcD} (h : OwnA B w (some ⟨g, 0, none⟩) n c (l0 ++ [y])) (hk : l0.length = k) (hg : B ≤ g) (v : Nat) :
    w.frozen? ⟨g, k * 4 + 1, none⟩ = false ∧ OwnA B (w.setCell ⟨g, k * 4 + 1, none⟩ (.int .u64 (v : Nat))) (some ⟨g, 0, none⟩) n c (l0 ++ [⟨y.lo, v, y.old, y.new⟩]) ∧ Below B w (w.setCell ⟨g, k * 4 + 1, none⟩ (.int .u64 (v : Nat))) := by
  subst hk
  have h2 := World.ownsRow.stored h (l0.length * 4 + 1) (.int .u64 (v : Nat))
  rw [arc_set] at h2
  exact ⟨World.ownsRow.frozenAt h _, h2.1, (Below.refl _ _).setCell (p := ⟨g, l0.length * 4 + 1, none⟩) hg _⟩
/-- What join answers. -/
def JoinPost (B : Nat) (w : World) (r : List ArcD) (e : Ending) (w' : World) : Prop := ∃ A n c, e = .returned (.slice A n c) ∧ OwnA B w' A n c r ∧ n = r.length ∧ Below B w w'
theorem joinPost_mk {B : Nat} {w w' : World} {r r' : List ArcD} {A : Option Addr} {n c : Nat} (hr : r = r') (h : OwnA B w' A n c r') (hb : Below B w w') : JoinPost B w r (.returned (.slice A n c)) w' := by subst hr; exact ⟨A, n, c, rfl, h, h.len.symm, hb⟩
theorem wrap_next (h : Nat) : IntKind.u64.wrap ((h : Int) + 1) = (((h + 1) % 18446744073709551616 : Nat) : Int) := by
  simp [IntKind.wrap, IntKind.bits, IntKind.signed]
theorem joins_no {M : Nat} {y x : ArcD} (h : joinsTo M y x = false) : ¬ (y.hi + 1) % M = x.lo ∨ ((y.hi + 1) % M = x.lo ∧ ¬ y.old = x.old) ∨ ((y.hi + 1) % M = x.lo ∧ y.old = x.old ∧ ¬ y.new = x.new) := by
  by_cases h1 : (y.hi + 1) % M = x.lo
  · by_cases h2 : y.old = x.old
    · by_cases h3 : y.new = x.new
      · simp [joinsTo, h1, h2, h3] at h
      · exact .inr (.inr ⟨h1, h2, h3⟩)
    · exact .inr (.inl ⟨h1, h2⟩)
  · exact .inl h1
theorem joins_yes {M : Nat} {y x : ArcD} (h : joinsTo M y x = true) : (y.hi + 1) % M = x.lo ∧ y.old = x.old ∧ y.new = x.new := by
  simpa [joinsTo, Bool.and_eq_true, decide_eq_true_eq] using h
set_option maxRecDepth 20000 in
set_option maxHeartbeats 4000000 in
theorem join_any (B : Nat) (A : Option Addr) (n c : Nat) (l : List ArcD) (x : ArcD) (w : World) (h : OwnA B w A n c l) (hB : B ≤ w.heap.size) (hn : n ≤ 10000) :
    Calls Try.prog 63 #[.slice A n c, arcVal x] w (JoinPost B w (joinF 18446744073709551616 l x)) := by
  have HB1 := hid_ ((Below.refl B w).alloc hB (.cells #[.int .u64 (x.lo : Nat), .int .u64 (x.hi : Nat), .int .u64 (x.old : Nat), .int .u64 (x.new : Nat)] 62))
  have HO1 := hid_ (h.later ((Below.refl _ _).alloc (Nat.le_refl _) (.cells #[.int .u64 (x.lo : Nat), .int .u64 (x.hi : Nat), .int .u64 (x.old : Nat), .int .u64 (x.new : Nat)] 62)))
  have HW := hid_ (whole_at w w.heap.size 62 #[.int .u64 (x.lo : Nat), .int .u64 (x.hi : Nat), .int .u64 (x.old : Nat), .int .u64 (x.new : Nat)] rfl)
  have hl := h.len
  have hsz1 := HB1.out.size
  obtain ⟨w1, hw1⟩ : ∃ w1, w1 = w.alloc (.cells #[.int .u64 (x.lo : Nat), .int .u64 (x.hi : Nat), .int .u64 (x.old : Nat), .int .u64 (x.new : Nat)] 62) := ⟨_, rfl⟩
  have HJ := hid_ (joinF_cases 18446744073709551616 l x)
  rcases List.eq_nil_or_concat l with hnil | ⟨l0, y, hl0⟩
  · subst hnil
    obtain rfl : n = 0 := by simpa using hl.symm
    have HR := hid_ (show joinF 18446744073709551616 [] x = [] ++ [x] from rfl)
    generalize joinF 18446744073709551616 [] x = r at *
    clear h hl HJ
    go_enter Try.func63, Try.ntmps63
    have HOX := hid_ (HO1.out.later ((Below.refl _ _).alloc (Nat.le_refl _) (.cells #[.int .u64 (x.lo : Nat), .int .u64 (x.hi : Nat), .int .u64 (x.old : Nat), .int .u64 (x.new : Nat)] 62)))
    have HBX := hid_ (HB1.out.alloc (Nat.le_trans hB HB1.out.size) (.cells #[.int .u64 (x.lo : Nat), .int .u64 (x.hi : Nat), .int .u64 (x.old : Nat), .int .u64 (x.new : Nat)] 62))
    have HLX := hid_ (arc_lit (w.alloc (.cells #[.int .u64 (x.lo : Nat), .int .u64 (x.hi : Nat), .int .u64 (x.old : Nat), .int .u64 (x.new : Nat)] 62)) (w.heap.size + 1) x 62 (by simp))
    go_wp2_with (at_builtin; refine Enc.wpList_rows (E := arcE) (e := 62) rfl (.tmp 46) (.tmp 48) 54 rfl _ 32 Try.underlying54 info_arc rfl B A 0 c _ rfl HOX.out (some ⟨(w.heap.size + 1), 0, none⟩) 1 1 [x] rfl HLX.out 1 _ rfl rfl (by omega) (by omega) (Nat.le_trans hB HBX.out.size) ?_; intro A5 c5 w5 ho5 hb5 _ _; have HX := hid_ (And.intro ho5 (HBX.out.trans hb5)); clear ho5 hb5)
    go_ret
    exact joinPost_mk HR.out HX.out.1 HX.out.2
  · rw [List.concat_eq_append] at hl0
    subst hl0
    obtain ⟨k, hk⟩ : ∃ k, k = l0.length := ⟨_, rfl⟩
    have hnk : n = k + 1 := by rw [← hl]; simp [hk]
    obtain ⟨g, rfl, hg1, hg2, hg3⟩ := h.place (by omega)
    obtain ⟨b, off, he, -, c0, c1, c2, c3⟩ := arc_at HO1.out.row (k := k) (by simp [hk])
    injection he with he
    injection he with he1 he2
    subst he1 he2
    have hyk : (l0 ++ [y])[k]'(by simp [hk]) = y := by subst hk; simp
    rw [hyk] at c0 c1 c2 c3
    rw [Nat.zero_add] at c0 c1 c2 c3
    have HT := hid_ (OwnA.turn HO1.out hk.symm hg1 x.hi)
    have hfz := HT.out.1
    have b0 := HW.out.cell 0 _ rfl
    have b1 := HW.out.cell 1 _ rfl
    have b2 := HW.out.cell 2 _ rfl
    have b3 := HW.out.cell 3 _ rfl
    have x1 : (k : Int) < (n : Int) := by omega
    have x2 : (0 : Int) ≤ (k : Int) := by omega
    have x3 : (n : Int) - 1 = (k : Int) := by omega
    have x4 : decide ((n : Int) > 0) = true := decide_eq_true (by omega)
    have x5 : decide ((0 : Int) < (n : Int)) = true := decide_eq_true (by omega)
    have x6 : decide (0 < n) = true := decide_eq_true (by omega)
    have hwn := wrap_next y.hi
    have hgs : ¬ g = w.heap.size := by omega
    have hgs2 : ¬ w.heap.size = g := by omega
    cases hj : joinsTo 18446744073709551616 y x
    · have HR := hid_ (show joinF 18446744073709551616 (l0 ++ [y]) x = (l0 ++ [y]) ++ [x] by
        rcases HJ.out with e | ⟨l1, y1, e1, e2, e3⟩
        · exact e
        · obtain ⟨rfl, e4⟩ := List.append_inj' e1 rfl
          injection e4 with e4
          subst e4
          rw [hj] at e2
          cases e2)
      generalize joinF 18446744073709551616 (l0 ++ [y]) x = r at *
      have hno := joins_no hj
      clear hj HJ HT hfz
      generalize (y.hi + 1) % 18446744073709551616 = s at *
      have Hk := hid_ hk
      have Hnk := hid_ hnk
      clear hk hnk hyk hl
      rcases hno with q1 | ⟨q1, q2⟩ | ⟨q1, q2, q3⟩
      · have e1 : ((s : Int) == (x.lo : Int)) = false := by simp; omega
        have e1' : (s == x.lo) = false := by simp; omega
        have Q := hid_ q1
        clear q1
        clear h
        go_enter Try.func63, Try.ntmps63
        go_wp2_with fail
        go_quiet (fail)
        have HOX := hid_ ((HO1.out.later (below_drewN (Below.refl _ _) nq)).later ((Below.refl _ _).alloc (Nat.le_refl _) (.cells #[.int .u64 (x.lo : Nat), .int .u64 (x.hi : Nat), .int .u64 (x.old : Nat), .int .u64 (x.new : Nat)] 62)))
        have HBX := hid_ ((below_drewN HB1.out nq).alloc (Nat.le_trans hB (below_drewN HB1.out nq).size) (.cells #[.int .u64 (x.lo : Nat), .int .u64 (x.hi : Nat), .int .u64 (x.old : Nat), .int .u64 (x.new : Nat)] 62))
        have HLX := hid_ (arc_lit ((w.alloc (.cells #[.int .u64 (x.lo : Nat), .int .u64 (x.hi : Nat), .int .u64 (x.old : Nat), .int .u64 (x.new : Nat)] 62)).drewN nq) (w.heap.size + 1) x 62 (by simp))
        go_wp2_with (at_builtin; refine Enc.wpList_rows (E := arcE) (e := 62) rfl (.tmp 46) (.tmp 48) 54 rfl _ 32 Try.underlying54 info_arc rfl B (some ⟨g, 0, none⟩) n c _ rfl HOX.out (some ⟨(w.heap.size + 1), 0, none⟩) 1 1 [x] rfl HLX.out (n + 1) _ rfl rfl (by omega) (by omega) (Nat.le_trans hB HBX.out.size) ?_; intro A5 c5 w5 ho5 hb5 _ _; have HX := hid_ (And.intro ho5 (HBX.out.trans hb5)); clear ho5 hb5)
        go_ret
        exact joinPost_mk HR.out HX.out.1 HX.out.2
      · have e1 : ((s : Int) == (x.lo : Int)) = true := by simp [q1]
        have e1' : (s == x.lo) = true := by simp [q1]
        have e2 : ((y.old : Int) == (x.old : Int)) = false := by simp; omega
        have e2' : (y.old == x.old) = false := by simp; omega
        have Q := hid_ (And.intro q1 q2)
        clear q1 q2
        clear h
        go_enter Try.func63, Try.ntmps63
        go_wp2_with fail
        go_quiet (fail)
        have HOX := hid_ ((HO1.out.later (below_drewN (Below.refl _ _) nq)).later ((Below.refl _ _).alloc (Nat.le_refl _) (.cells #[.int .u64 (x.lo : Nat), .int .u64 (x.hi : Nat), .int .u64 (x.old : Nat), .int .u64 (x.new : Nat)] 62)))
        have HBX := hid_ ((below_drewN HB1.out nq).alloc (Nat.le_trans hB (below_drewN HB1.out nq).size) (.cells #[.int .u64 (x.lo : Nat), .int .u64 (x.hi : Nat), .int .u64 (x.old : Nat), .int .u64 (x.new : Nat)] 62))
        have HLX := hid_ (arc_lit ((w.alloc (.cells #[.int .u64 (x.lo : Nat), .int .u64 (x.hi : Nat), .int .u64 (x.old : Nat), .int .u64 (x.new : Nat)] 62)).drewN nq) (w.heap.size + 1) x 62 (by simp))
        go_wp2_with (at_builtin; refine Enc.wpList_rows (E := arcE) (e := 62) rfl (.tmp 46) (.tmp 48) 54 rfl _ 32 Try.underlying54 info_arc rfl B (some ⟨g, 0, none⟩) n c _ rfl HOX.out (some ⟨(w.heap.size + 1), 0, none⟩) 1 1 [x] rfl HLX.out (n + 1) _ rfl rfl (by omega) (by omega) (Nat.le_trans hB HBX.out.size) ?_; intro A5 c5 w5 ho5 hb5 _ _; have HX := hid_ (And.intro ho5 (HBX.out.trans hb5)); clear ho5 hb5)
        go_ret
        exact joinPost_mk HR.out HX.out.1 HX.out.2
      · have e1 : ((s : Int) == (x.lo : Int)) = true := by simp [q1]
        have e1' : (s == x.lo) = true := by simp [q1]
        have e2 : ((y.old : Int) == (x.old : Int)) = true := by simp [q2]
        have e2' : (y.old == x.old) = true := by simp [q2]
        have e3 : ((y.new : Int) == (x.new : Int)) = false := by simp; omega
        have e3' : (y.new == x.new) = false := by simp; omega
        have Q := hid_ (And.intro q1 (And.intro q2 q3))
        clear q1 q2 q3
        clear h
        go_enter Try.func63, Try.ntmps63
        go_wp2_with fail
        go_quiet (fail)
        have HOX := hid_ ((HO1.out.later (below_drewN (Below.refl _ _) nq)).later ((Below.refl _ _).alloc (Nat.le_refl _) (.cells #[.int .u64 (x.lo : Nat), .int .u64 (x.hi : Nat), .int .u64 (x.old : Nat), .int .u64 (x.new : Nat)] 62)))
        have HBX := hid_ ((below_drewN HB1.out nq).alloc (Nat.le_trans hB (below_drewN HB1.out nq).size) (.cells #[.int .u64 (x.lo : Nat), .int .u64 (x.hi : Nat), .int .u64 (x.old : Nat), .int .u64 (x.new : Nat)] 62))
        have HLX := hid_ (arc_lit ((w.alloc (.cells #[.int .u64 (x.lo : Nat), .int .u64 (x.hi : Nat), .int .u64 (x.old : Nat), .int .u64 (x.new : Nat)] 62)).drewN nq) (w.heap.size + 1) x 62 (by simp))
        go_wp2_with (at_builtin; refine Enc.wpList_rows (E := arcE) (e := 62) rfl (.tmp 46) (.tmp 48) 54 rfl _ 32 Try.underlying54 info_arc rfl B (some ⟨g, 0, none⟩) n c _ rfl HOX.out (some ⟨(w.heap.size + 1), 0, none⟩) 1 1 [x] rfl HLX.out (n + 1) _ rfl rfl (by omega) (by omega) (Nat.le_trans hB HBX.out.size) ?_; intro A5 c5 w5 ho5 hb5 _ _; have HX := hid_ (And.intro ho5 (HBX.out.trans hb5)); clear ho5 hb5)
        go_ret
        exact joinPost_mk HR.out HX.out.1 HX.out.2
    · have HR := hid_ (show joinF 18446744073709551616 (l0 ++ [y]) x = l0 ++ [⟨y.lo, x.hi, y.old, y.new⟩] by
        unfold joinF
        rw [List.getLast?_append, List.getLast?_singleton]
        simp only [Option.some_or]
        rw [if_pos hj, List.dropLast_concat])
      generalize joinF 18446744073709551616 (l0 ++ [y]) x = r at *
      obtain ⟨q1, q2, q3⟩ := joins_yes hj
      clear hj HJ
      generalize (y.hi + 1) % 18446744073709551616 = s at *
      have Hk := hid_ hk
      have Hnk := hid_ hnk
      clear hk hnk hyk hl
      have e1 : ((s : Int) == (x.lo : Int)) = true := by simp [q1]
      have e2 : ((y.old : Int) == (x.old : Int)) = true := by simp [q2]
      have e3 : ((y.new : Int) == (x.new : Int)) = true := by simp [q3]
      have e1' : (s == x.lo) = true := by simp [q1]
      have e2' : (y.old == x.old) = true := by simp [q2]
      have e3' : (y.new == x.new) = true := by simp [q3]
      have Q := hid_ (And.intro q1 (And.intro q2 q3))
      clear q1 q2 q3 h
      go_enter Try.func63, Try.ntmps63
      go_wp2_with fail
      go_quiet (fail)
      have HT2 := hid_ (OwnA.turn (HO1.out.later (below_drewN (Below.refl _ _) nq)) Hk.out.symm hg1 x.hi)
      go_wp2_with fail
      go_ret
      exact joinPost_mk HR.out HT2.out.2.1 ((below_drewN HB1.out nq).trans HT2.out.2.2)
end Rg
end Go.Proofs.Ytgmeggilojcoeaa
