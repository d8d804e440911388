/-
  BallotRuns: ballots that are each the next of the greatest one rise, whoever proposes, and stop at the end of numbers only; no condition on the input.
  The frame round the walk is written by the guide's own program for this statement.
-/
import Derived.Test.YtgmeggilojcoeaaZGBD
import Derived.Test.YtgmeggilojcoeaaRows
import Derived.WalkKit
import Derived.ProofKit
import Derived.OpenShut
import Derived.ShutString
import Derived.ChangeOld
import Derived.Below
namespace Go.Proofs.Ytgmeggilojcoeaa.ballotRuns
set_option linter.unusedSimpArgs false
set_option linter.unusedVariables false
open Go.ChangeShapes Go.WideShapes Go.ChangeAt Go.RowKit
open Go.ChangeMaps (open_string shut_string)
set_option linter.unusedVariables false

theorem own : ownKnob Try.prog.godebug = none := by kernel_rfl
theorem laidOut : laidOutB Try.prog = true := by kernel_rfl

/-- WHAT THE WALK IS TOLD OF A SLICE OF INTEGERS THAT CAME IN: it is nil; or it leads to a row of 'cap' cells, the numbers 'zs' (the first 'len' are its elements, the rest its spare room), each fitting its kind. -/
def IsRow (k : IntKind) (w : World) (a : Option Addr) (len cap : Nat) (zs : List Int) : Prop :=
  (a = none ∧ len = 0 ∧ cap = 0 ∧ zs = []) ∨
  ∃ x, a = some x ∧ len ≤ cap ∧ cap ≤ maxLen ∧ zs.length = cap ∧ (∀ i, i < zs.length → w.cell? (x.add i) = some (.int k (zs.getD i 0))) ∧ ∀ n ∈ zs, (Lit.int k n).wf = true

open Rg Bl
abbrev ThreeIn (w1 : World) (gs : Nat) (s : BalD) (g1 p1 d g2 p2 v : Nat) (W : World) : Prop :=
  Below w1.heap.size w1 W ∧ W.cell? ⟨gs, 0, none⟩ = some (.int .u64 (s.pos : Nat)) ∧ W.cell? ⟨gs, 1, none⟩ = some (.int .u64 (s.id : Nat)) ∧ W.cell? ⟨g1, p1, none⟩ = some (.int .u64 (d : Nat)) ∧ W.cell? ⟨g2, p2, none⟩ = some (.int .u64 (v : Nat))
theorem threeIn_keep {w1 W W' : World} {gs : Nat} {s : BalD} {g1 p1 d g2 p2 v : Nat} (h : ThreeIn w1 gs s g1 p1 d g2 p2 v W) (hb : Below W.heap.size W W') : ThreeIn w1 gs s g1 p1 d g2 p2 v W' := by
  obtain ⟨h0, a, b, c, d⟩ := h
  exact ⟨h0.trans (hb.mono h0.size), by rw [hb.cell (lt_of_cell a)]; exact a, by rw [hb.cell (lt_of_cell b)]; exact b, by rw [hb.cell (lt_of_cell c)]; exact c, by rw [hb.cell (lt_of_cell d)]; exact d⟩
theorem threeIn_of {w1 W : World} {gs : Nat} {s : BalD} {g1 p1 d g2 p2 v : Nat} (h : ThreeIn w1 gs s g1 p1 d g2 p2 v w1) (hb : Below w1.heap.size w1 W) : ThreeIn w1 gs s g1 p1 d g2 p2 v W := by
  obtain ⟨h0, a, b, c, d⟩ := h
  exact ⟨hb, by rw [hb.cell (lt_of_cell a)]; exact a, by rw [hb.cell (lt_of_cell b)]; exact b, by rw [hb.cell (lt_of_cell c)]; exact c, by rw [hb.cell (lt_of_cell d)]; exact d⟩
abbrev FourIn (w1 : World) (gs : Nat) (s : BalD) (gn : Nat) (m : BalD) (W : World) : Prop :=
  Below w1.heap.size w1 W ∧ W.cell? ⟨gs, 0, none⟩ = some (.int .u64 (s.pos : Nat)) ∧ W.cell? ⟨gs, 1, none⟩ = some (.int .u64 (s.id : Nat)) ∧ W.cell? ⟨gn, 0, none⟩ = some (.int .u64 (m.pos : Nat)) ∧ W.cell? ⟨gn, 1, none⟩ = some (.int .u64 (m.id : Nat))
theorem fourIn_keep {w1 W W' : World} {gs : Nat} {s : BalD} {gn : Nat} {m : BalD} (h : FourIn w1 gs s gn m W) (hb : Below W.heap.size W W') : FourIn w1 gs s gn m W' := by
  obtain ⟨h0, a, b, c, d⟩ := h
  exact ⟨h0.trans (hb.mono h0.size), by rw [hb.cell (lt_of_cell a)]; exact a, by rw [hb.cell (lt_of_cell b)]; exact b, by rw [hb.cell (lt_of_cell c)]; exact c, by rw [hb.cell (lt_of_cell d)]; exact d⟩
theorem bal_lit2 (w : World) (g : Nat) (s m : BalD) (T : TypeId) (h : g = w.heap.size) : ptE.Row (w.alloc (.cells #[.int .u64 (s.pos : Nat), .int .u64 (s.id : Nat), .int .u64 (m.pos : Nat), .int .u64 (m.id : Nat)] T)) (some ⟨g, 0, none⟩) 2 2 [s, m] := by
  subst h
  exact (Enc.own_litK (E := ptE) (e := T) w [s, m] _ rfl 2 rfl (by decide) 0 (Nat.zero_le _)).row
set_option maxRecDepth 100000 in
set_option maxHeartbeats 16000000 in
theorem walk (a0 : Int) (a1 : Option Addr) (len1 cap1 : Nat) (z1 : List Int) (a2 : Option Addr) (len2 cap2 : Nat) (z2 : List Int) (w : World) (w0 : (Lit.int .u64 a0).wf = true) (w1 : IsRow .u64 w a1 len1 cap1 z1) (w2 : IsRow .u64 w a2 len2 cap2 z2) :
    Calls Try.prog 12 #[.int .u64 a0, .slice a1 len1 cap1, .slice a2 len2 cap2] w fun e w' => e = .returned (.bool true) ∧ Below w.heap.size w w' := by
  obtain ⟨f, rfl, hf⟩ := u64_of w0
  obtain ⟨ns, hns, hnw⟩ := nums_of w1
  obtain ⟨vs, hvs, hvw⟩ := nums_of w2
  have hl1 := Nat.le_trans hns.cap hns.max
  have hl2 := Nat.le_trans hvs.cap hvs.max
  have HA := hid_ (fun W => balive_any W)
  clear w1 w2
  by_cases hbig : 60 < len1 ∨ 60 < len2
  · by_cases h1 : 60 < len1
    · have q0 : decide ((len1 : Int) > 60) = true := decide_eq_true (by omega)
      have r0 : decide ((60 : Int) < (len1 : Int)) = true := decide_eq_true (by omega)
      have s0 : decide (60 < len1) = true := decide_eq_true h1
      clear hbig h1
      go_enter Try.func12, Try.ntmps12
      go_wp2_with fail
      (with_reducible refine Calls.mono (HA.out _) ?_)
      rintro e wz ⟨rfl, hbz⟩
      have HBz := hid_ ((Below.refl w.heap.size w).trans (hbz.mono (Below.refl w.heap.size w).size))
      clear hbz
      go_wp2_with fail
      go_ret
      exact ⟨rfl, HBz.out⟩
    · have q0 : decide ((len1 : Int) > 60) = false := decide_eq_false (by omega)
      have r0 : decide ((60 : Int) < (len1 : Int)) = false := decide_eq_false (by omega)
      have s0 : decide (60 < len1) = false := decide_eq_false h1
      have q1 : decide ((len2 : Int) > 60) = true := decide_eq_true (by omega)
      have r1 : decide ((60 : Int) < (len2 : Int)) = true := decide_eq_true (by omega)
      have s1 : decide (60 < len2) = true := decide_eq_true (by omega)
      clear hbig h1
      go_enter Try.func12, Try.ntmps12
      go_wp2_with fail
      (with_reducible refine Calls.mono (HA.out _) ?_)
      rintro e wz ⟨rfl, hbz⟩
      have HBz := hid_ ((Below.refl w.heap.size w).trans (hbz.mono (Below.refl w.heap.size w).size))
      clear hbz
      go_wp2_with fail
      go_ret
      exact ⟨rfl, HBz.out⟩
  · have q0 : decide ((len1 : Int) > 60) = false := decide_eq_false (by omega)
    have r0 : decide ((60 : Int) < (len1 : Int)) = false := decide_eq_false (by omega)
    have s0 : decide (60 < len1) = false := decide_eq_false (by omega)
    have q1 : decide ((len2 : Int) > 60) = false := decide_eq_false (by omega)
    have r1 : decide ((60 : Int) < (len2 : Int)) = false := decide_eq_false (by omega)
    have s1 : decide (60 < len2) = false := decide_eq_false (by omega)
    have HR1 := hid_ hns
    have HR2 := hid_ hvs
    have HW1 := hid_ hnw
    have HW2 := hid_ hvw
    have HB0 := hid_ ((Below.refl w.heap.size w).alloc (Nat.le_refl _) (.cells #[.int .u64 (f : Nat), .int .u64 0] 66))
    have HS0 := hid_ (whole_new w 66 #[.int .u64 (f : Nat), .int .u64 0])
    have HN := hid_ (fun (s : BalD) (v d : Nat) (W : World) (h1 : s.pos < 18446744073709551616) (h2 : v < 18446744073709551616) => show Calls Try.prog 39 #[.agg #[.int .u64 (s.pos : Nat), .int .u64 (s.id : Nat)], .int .u64 (v : Nat), .int .u64 (d : Nat)] W _ from next_any s v d W h1 h2)
    clear hbig hns hnw hvs hvw
    go_enter Try.func12, Try.ntmps12
    go_wp2_with fail
    go_loopw [8] (fun vi wr => ∃ (k : Nat) (s : BalD), k ≤ len1 ∧ k ≤ len2 ∧ vi = .int .i64 (k : Nat) ∧ Hid (s.pos < 18446744073709551616) ∧ Hid (Below w.heap.size w wr) ∧ Hid (Whole wr w.heap.size 66 (balCells s))) (fun vi _ => len1 - (intOf vi).toNat)
    case atStart => exact ⟨0, ⟨f, 0⟩, Nat.zero_le _, Nat.zero_le _, rfl, hid_ hf, HB0, HS0⟩
    case round =>
      obtain ⟨k, s, hk1, hk2, rfl, HSP, HB, HS⟩ := hrel
      have c0 : wr.cell? ⟨w.heap.size, 0, none⟩ = some (.int .u64 (s.pos : Nat)) := HS.out.cell 0 _ rfl
      have c1 : wr.cell? ⟨w.heap.size, 1, none⟩ = some (.int .u64 (s.id : Nat)) := HS.out.cell 1 _ rfl
      by_cases hlt : k < len1
      · by_cases hlt2 : k < len2
        · have hkl : k < ns.length := by rw [HR1.out.len]; exact hlt
          have hkl2 : k < vs.length := by rw [HR2.out.len]; exact hlt2
          obtain ⟨g1, o1, rfl, d1⟩ := (HR1.out.below HB.out).at_ k hkl
          obtain ⟨g2, o2, rfl, d2⟩ := (HR2.out.below HB.out).at_ k hkl2
          have hx1 := HW1.out _ (List.getElem_mem hkl)
          have hx2 := HW2.out _ (List.getElem_mem hkl2)
          generalize ns[k] = d at *
          generalize vs[k] = v at *
          have x0 : (0 : Int) ≤ (k : Int) := by omega
          have x1 : (k : Int) < (len1 : Int) := by omega
          have x2 : (k : Int) < (len2 : Int) := by omega
          have HK := hid_ (And.intro hlt hlt2)
          have HNk := hid_ (fun (W : World) => HN.out s v d W HSP.out hx2)
          have HKS := hid_ (next_kinds s v d)
          have HYS := hid_ (fun h => next_yes (s := s) (v := v) (d := d) h)
          have HSM := hid_ (next_small (s := s) (v := v) (d := d) HSP.out hx2)
          generalize nextD s v d = m at *
          generalize nextK s v d = j at *
          clear hkl hkl2 hx1 hx2 hlt hlt2
          have S0 : ThreeIn wr w.heap.size s g1 (o1 + k) d g2 (o2 + k) v wr := ⟨Below.refl _ _, c0, c1, d1, d2⟩
          have S1 := threeIn_keep S0 (Below.drew (Below.alloc (Below.refl _ _) (Nat.le_refl _) (.cells #[.int .u64 0, .int .u64 0] 66)))
          have HS0 := hid_ S0
          clear c0 c1 d1 d2
          go_wp2_with fail
          go_region_held3 (ThreeIn wr w.heap.size s g1 (o1 + k) d g2 (o2 + k) v) (first | assumption | (refine threeIn_keep (by assumption) (by assumption)) | (refine threeIn_keep (by assumption) (Below.drew (Below.refl _ _))) | (refine threeIn_keep (by assumption) (Below.alloc (Below.refl _ _) (Nat.le_refl _) _)) | (refine threeIn_of HS0.out (Below.alloc (by assumption) (Below.size (by assumption)) _)) | (refine threeIn_of HS0.out (below_set2 (And.left (by assumption)) (Nat.le_refl _) _ _)) | (refine threeIn_of HS0.out (below_set2 (And.left (by assumption)) (Below.size (And.left (by assumption))) _ _)))
            (first | (go_at_call 39; (with_reducible refine Calls.mono (HNk.out _) ?_); rintro e w' ⟨rfl, hb'⟩; (have hbw : Below wr.heap.size wr w' := by first | exact (Below.drew (Below.refl _ _)).trans hb' | exact (Below.drew (Below.alloc (Below.refl _ _) (Nat.le_refl _) _)).trans (hb'.mono (by simp)) | exact (Below.alloc (Below.drew (Below.refl _ _)) (Nat.le_refl _) _).trans (hb'.mono (by simp))); (try (have hwz : Whole w' wr.heap.size 66 #[.int .u64 0, .int .u64 0] := Whole.below (Whole.drew (whole_new wr 66 #[.int .u64 0, .int .u64 0])) hb' (Whole.lt (Whole.drew (whole_new wr 66 #[.int .u64 0, .int .u64 0]))); have n0 := hwz.cell 0 (.int .u64 0) rfl; have n1 := hwz.cell 1 (.int .u64 0) rfl; have f0 := hwz.free 0; have f1 := hwz.free 1))) | fail)
          · have HWn := hid_ (whole_new w' 66 #[.int .u64 (m.pos : Nat), .int .u64 (m.id : Nat)])
            have HBz := hid_ (Below.alloc hbw hbw.size (.cells #[.int .u64 (m.pos : Nat), .int .u64 (m.id : Nat)] 66))
            have H3 : ThreeIn wr w.heap.size s g1 (o1 + k) d g2 (o2 + k) v (w'.alloc (.cells #[.int .u64 (m.pos : Nat), .int .u64 (m.id : Nat)] 66)) := by assumption
            have H3h := hid_ H3
            have HLT := hid_ hbw.size
            clear hbw hb' H3
            generalize (w'.alloc (.cells #[.int .u64 (m.pos : Nat), .int .u64 (m.id : Nat)] 66)) = wz at *
            generalize w'.heap.size = gn at *
            have HSz := hid_ (HS.out.below HBz.out HS.out.lt)
            have HBw := hid_ (HB.out.trans (HBz.out.mono HB.out.size))
            have hne : ¬ gn = w.heap.size := by have := HLT.out; have := HS.out.lt; omega
            obtain ⟨-, c0, c1, d1, d2⟩ := H3h.out
            clear HBz H3h
            rcases HKS.out with ⟨hd0, hj⟩ | ⟨hd0, hx, hj⟩ | ⟨hd0, hj⟩
            · subst hd0 hj
              go_wp2_with fail
              go_roundw
              case rel => exact ⟨k + 1, s, by have := HK.out; omega, by have := HK.out; omega, by go_num, HSP, HBw, HSz⟩
              case measure => have := HK.out; simp [intOf]; omega
            · subst hj
              have e1 : (d == 0) = false := by rw [beq_eq_false_iff_ne]; exact hd0
              have e2 : ((d : Int) == 0) = false := by rw [beq_eq_false_iff_ne]; omega
              clear hd0
              by_cases hp : s.pos = 18446744073709551615
              · have f1 : (((s.pos : Nat) : Int) != 18446744073709551615) = false := by rw [bne_eq_false_iff_eq]; omega
                have f2 : (s.pos != 18446744073709551615) = false := by rw [bne_eq_false_iff_eq]; exact hp
                clear hp hx
                go_wp2_with fail
                go_roundw
                case rel => exact ⟨k + 1, s, by have := HK.out; omega, by have := HK.out; omega, by go_num, HSP, HBw, HSz⟩
                case measure => have := HK.out; simp [intOf]; omega
              · have f1 : (((s.pos : Nat) : Int) != 18446744073709551615) = true := by rw [bne_iff_ne]; omega
                have f2 : (s.pos != 18446744073709551615) = true := by rw [bne_iff_ne]; exact hp
                have f3 : (((v : Nat) : Int) != 18446744073709551615) = false := by rw [bne_eq_false_iff_eq]; omega
                have f4 : (v != 18446744073709551615) = false := by rw [bne_eq_false_iff_eq]; omega
                clear hp hx
                go_wp2_with fail
                go_roundw
                case rel => exact ⟨k + 1, s, by have := HK.out; omega, by have := HK.out; omega, by go_num, HSP, HBw, HSz⟩
                case measure => have := HK.out; simp [intOf]; omega
            · subst hj
              have e1 : (d == 0) = false := by rw [beq_eq_false_iff_ne]; exact hd0
              have e2 : ((d : Int) == 0) = false := by rw [beq_eq_false_iff_ne]; omega
              obtain ⟨-, -, hlt3, -⟩ := HYS.out rfl
              have e3 : decide (m.pos ≤ s.pos) = false := decide_eq_false (by omega)
              have e4 : decide ((m.pos : Int) ≤ (s.pos : Int)) = false := decide_eq_false (by omega)
              have HMx := hid_ (fun (A : Option Addr) (W : World) (h : ptE.Row W A 2 2 [s, m]) => show Calls Try.prog 37 #[.slice A 2 2] W (RetB W.heap.size W (.agg #[.int .u64 (m.pos : Nat), .int .u64 (m.id : Nat)])) from by
                have := max_any A 2 2 [s, m] W h
                rwa [max_pair hlt3] at this)
              have kn : ∀ w, (binOp .neq 66 (.agg #[.int .u64 (m.pos : Nat), .int .u64 (m.id : Nat)]) (.agg #[.int .u64 (m.pos : Nat), .int .u64 (m.id : Nat)])).run Try.prog w = .ok (.bool false) w := fun w => by have := bal_neq m m w; rwa [same_self m] at this
              have S0 : FourIn wz w.heap.size s gn m wz := ⟨Below.refl _ _, c0, c1, HWn.out.cell 0 _ rfl, HWn.out.cell 1 _ rfl⟩
              clear hd0 hlt3 c0 c1 d2
              go_wp2_with fail
              go_region_held3 (FourIn wz w.heap.size s gn m) (first | assumption | (refine fourIn_keep (by assumption) (by assumption)) | (refine fourIn_keep (by assumption) (Below.drew (Below.refl _ _))) | (refine fourIn_keep (by assumption) (Below.alloc (Below.refl _ _) (Nat.le_refl _) _)))
                (first | (go_at_call 37; (with_reducible refine Calls.mono (HMx.out _ _ ?_) ?_); (first | exact bal_lit2 _ _ s m _ (by rfl) | exact (bal_lit2 _ _ s m _ (by rfl)).below (Below.drew (Below.refl _ _))); rintro e w' ⟨rfl, hb'⟩) | fail)
              have hS2 : FourIn wz w.heap.size s gn m w' := by assumption
              obtain ⟨wq, hwq⟩ : ∃ wq : World, wq = w' := ⟨_, rfl⟩
              subst hwq
              have HBq := hid_ (HBw.out.trans (hS2.1.mono HBw.out.size))
              have HSq := hid_ (HSz.out.below hS2.1 HSz.out.lt)
              have f0 := HSq.out.free 0
              have f1 := HSq.out.free 1
              obtain ⟨-, c0, c1, m0, m1⟩ := hS2
              go_wp2_with fail
              go_roundw
              case rel => exact ⟨k + 1, m, by have := HK.out; omega, by have := HK.out; omega, by go_num, HSM, hid_ (below_set2 HBq.out (Nat.le_refl _) _ _), hid_ (whole_set2 HSq.out _ _)⟩
              case measure => have := HK.out; simp [intOf]; omega
          · have HWn := hid_ (whole_set2 hwz (.int .u64 (m.pos : Nat)) (.int .u64 (m.id : Nat)))
            have HBz := hid_ (below_set2 hbw (Nat.le_refl _) (.int .u64 (m.pos : Nat)) (.int .u64 (m.id : Nat)))
            have H3 : ThreeIn wr w.heap.size s g1 (o1 + k) d g2 (o2 + k) v ((w'.setCell ⟨wr.heap.size, 0, none⟩ (.int .u64 (m.pos : Nat))).setCell ⟨wr.heap.size, 1, none⟩ (.int .u64 (m.id : Nat))) := by assumption
            have H3h := hid_ H3
            have HLT := hid_ (Nat.le_refl wr.heap.size)
            clear hbw hb' H3 hwz n0 n1 f0 f1
            generalize ((w'.setCell ⟨wr.heap.size, 0, none⟩ (.int .u64 (m.pos : Nat))).setCell ⟨wr.heap.size, 1, none⟩ (.int .u64 (m.id : Nat))) = wz at *
            have HBz2 := hid_ (show Below wr.heap.size wr wz from HBz.out)
            clear HBz
            have HBz := HBz2
            clear HBz2
            have HSz := hid_ (HS.out.below HBz.out HS.out.lt)
            have HBw := hid_ (HB.out.trans (HBz.out.mono HB.out.size))
            have hne : ¬ wr.heap.size = w.heap.size := by have := HLT.out; have := HS.out.lt; omega
            obtain ⟨-, c0, c1, d1, d2⟩ := H3h.out
            clear HBz H3h
            rcases HKS.out with ⟨hd0, hj⟩ | ⟨hd0, hx, hj⟩ | ⟨hd0, hj⟩
            · subst hd0 hj
              go_wp2_with fail
              go_roundw
              case rel => exact ⟨k + 1, s, by have := HK.out; omega, by have := HK.out; omega, by go_num, HSP, HBw, HSz⟩
              case measure => have := HK.out; simp [intOf]; omega
            · subst hj
              have e1 : (d == 0) = false := by rw [beq_eq_false_iff_ne]; exact hd0
              have e2 : ((d : Int) == 0) = false := by rw [beq_eq_false_iff_ne]; omega
              clear hd0
              by_cases hp : s.pos = 18446744073709551615
              · have f1 : (((s.pos : Nat) : Int) != 18446744073709551615) = false := by rw [bne_eq_false_iff_eq]; omega
                have f2 : (s.pos != 18446744073709551615) = false := by rw [bne_eq_false_iff_eq]; exact hp
                clear hp hx
                go_wp2_with fail
                go_roundw
                case rel => exact ⟨k + 1, s, by have := HK.out; omega, by have := HK.out; omega, by go_num, HSP, HBw, HSz⟩
                case measure => have := HK.out; simp [intOf]; omega
              · have f1 : (((s.pos : Nat) : Int) != 18446744073709551615) = true := by rw [bne_iff_ne]; omega
                have f2 : (s.pos != 18446744073709551615) = true := by rw [bne_iff_ne]; exact hp
                have f3 : (((v : Nat) : Int) != 18446744073709551615) = false := by rw [bne_eq_false_iff_eq]; omega
                have f4 : (v != 18446744073709551615) = false := by rw [bne_eq_false_iff_eq]; omega
                clear hp hx
                go_wp2_with fail
                go_roundw
                case rel => exact ⟨k + 1, s, by have := HK.out; omega, by have := HK.out; omega, by go_num, HSP, HBw, HSz⟩
                case measure => have := HK.out; simp [intOf]; omega
            · subst hj
              have e1 : (d == 0) = false := by rw [beq_eq_false_iff_ne]; exact hd0
              have e2 : ((d : Int) == 0) = false := by rw [beq_eq_false_iff_ne]; omega
              obtain ⟨-, -, hlt3, -⟩ := HYS.out rfl
              have e3 : decide (m.pos ≤ s.pos) = false := decide_eq_false (by omega)
              have e4 : decide ((m.pos : Int) ≤ (s.pos : Int)) = false := decide_eq_false (by omega)
              have HMx := hid_ (fun (A : Option Addr) (W : World) (h : ptE.Row W A 2 2 [s, m]) => show Calls Try.prog 37 #[.slice A 2 2] W (RetB W.heap.size W (.agg #[.int .u64 (m.pos : Nat), .int .u64 (m.id : Nat)])) from by
                have := max_any A 2 2 [s, m] W h
                rwa [max_pair hlt3] at this)
              have kn : ∀ w, (binOp .neq 66 (.agg #[.int .u64 (m.pos : Nat), .int .u64 (m.id : Nat)]) (.agg #[.int .u64 (m.pos : Nat), .int .u64 (m.id : Nat)])).run Try.prog w = .ok (.bool false) w := fun w => by have := bal_neq m m w; rwa [same_self m] at this
              have S0 : FourIn wz w.heap.size s wr.heap.size m wz := ⟨Below.refl _ _, c0, c1, HWn.out.cell 0 _ rfl, HWn.out.cell 1 _ rfl⟩
              clear hd0 hlt3 c0 c1 d2
              go_wp2_with fail
              go_region_held3 (FourIn wz w.heap.size s wr.heap.size m) (first | assumption | (refine fourIn_keep (by assumption) (by assumption)) | (refine fourIn_keep (by assumption) (Below.drew (Below.refl _ _))) | (refine fourIn_keep (by assumption) (Below.alloc (Below.refl _ _) (Nat.le_refl _) _)))
                (first | (go_at_call 37; (with_reducible refine Calls.mono (HMx.out _ _ ?_) ?_); (first | exact bal_lit2 _ _ s m _ (by rfl) | exact (bal_lit2 _ _ s m _ (by rfl)).below (Below.drew (Below.refl _ _))); rintro e w' ⟨rfl, hb'⟩) | fail)
              have hS2 : FourIn wz w.heap.size s wr.heap.size m w' := by assumption
              obtain ⟨wq, hwq⟩ : ∃ wq : World, wq = w' := ⟨_, rfl⟩
              subst hwq
              have HBq := hid_ (HBw.out.trans (hS2.1.mono HBw.out.size))
              have HSq := hid_ (HSz.out.below hS2.1 HSz.out.lt)
              have f0 := HSq.out.free 0
              have f1 := HSq.out.free 1
              obtain ⟨-, c0, c1, m0, m1⟩ := hS2
              go_wp2_with fail
              go_roundw
              case rel => exact ⟨k + 1, m, by have := HK.out; omega, by have := HK.out; omega, by go_num, HSM, hid_ (below_set2 HBq.out (Nat.le_refl _) _ _), hid_ (whole_set2 HSq.out _ _)⟩
              case measure => have := HK.out; simp [intOf]; omega
        · obtain rfl : k = len2 := by omega
          have x1 : (k : Int) < (len1 : Int) := by omega
          have HK := hid_ hlt
          clear hlt hlt2
          go_wp2_with fail
          (with_reducible refine Calls.mono (HA.out _) ?_)
          rintro e wz ⟨rfl, hbz⟩
          have HBz := hid_ (HB.out.trans (hbz.mono HB.out.size))
          clear hbz
          go_wp2_with fail
          go_ret
          exact ⟨rfl, HBz.out⟩
      · obtain rfl : k = len1 := by omega
        clear hlt
        go_wp2_with fail
        (with_reducible refine Calls.mono (HA.out _) ?_)
        rintro e wz ⟨rfl, hbz⟩
        have HBz := hid_ (HB.out.trans (hbz.mono HB.out.size))
        clear hbz
        go_wp2_with fail
        go_ret
        exact ⟨rfl, HBz.out⟩

set_option maxRecDepth 100000 in
theorem lifted (os : Os) (started : os.Started) (H : Type) (enc : TypeId × Value → H) :
    ReturnsInHanded {} Try.checked os 12 .any (Rows.ballotRunsSpec.pre6 enc Try.prog Try.f12 Rows.ballotRunsRow.domain false) (Rows.ballotRunsSpec.post enc Try.prog Try.f12 false true false false) := by
  refine returnsInHanded_of_change (C := Try.checked) own started (by kernel_rfl) Try.func12
    (ChangeSpec.witness6 (enc := enc) (C := Try.checked) false ⟨#[], #[.int .u64 0, .slice none 0 0, .slice none 0 0], []⟩ 8 (by kernel_rfl) (by kernel_rfl) (by kernel_rfl) (by kernel_rfl)) ?_
  intro W base args ds gs before hval0 hW hcnd _
  have hval : ∀ (j : Nat) t v, Try.f12.params[j]? = some t → args[j]? = some v → Value.okWide Try.prog W .any base t v := hval0
  have hW' := hW
  obtain ⟨p, q, hA0, hV, rfl, hfz, hnd⟩ := hW
  have hA : DataW.TrodAll enc Try.prog W 0 (fun _ => true) true Try.f12.params.toList args.toList ds p := hA0
  rw [Try.params12] at hA hval
  obtain ⟨v0, vs0, d0, ds0, p0, q0, hargs, rfl, rfl, h0, r0⟩ := trodAll_cons hA
  obtain ⟨v1, vs1, d1, ds1, p1, q1, rfl, rfl, rfl, h1, r1⟩ := trodAll_cons r0
  obtain ⟨v2, vs2, d2, ds2, p2, q2, rfl, rfl, rfl, h2, r2⟩ := trodAll_cons r1
  obtain ⟨rfl, rfl, rfl⟩ := trodAll_nil r2
  obtain rfl : args = #[v0, v1, v2] := by cases args; simp_all
  obtain ⟨rfl, rfl⟩ := trodVars_none hV
  obtain ⟨a0, rfl, rfl, rfl, w0⟩ := open_int Try.underlying60 (hval 0 60 v0 rfl rfl) h0
  obtain ⟨a1, len1, cap1, rfl⟩ := okWide_slice Try.underlying76 (hval 1 76 v1 rfl rfl)
  have k1 := h1
  have lt1 : ∀ x ∈ p1, x.block < W.heap.size := by obtain ⟨m, hm⟩ := k1; exact DataW.trod_lt m _ _ _ hm
  obtain ⟨z1, w1⟩ : ∃ zs, IsRow .u64 W a1 len1 cap1 zs := by
    obtain ⟨fuel, hf⟩ := h1
    rcases open_ints Try.underlying76 Try.underlying60 (by kernel_rfl) hf with ⟨hcs, _⟩ | ⟨x, l, c, zs, hcs, _, hl, hm, hz, _, hcell, hwz⟩
    · simp [Value.cells] at hcs
      obtain ⟨rfl, rfl, rfl⟩ := hcs
      exact ⟨[], .inl ⟨rfl, rfl, rfl, rfl⟩⟩
    · simp [Value.cells] at hcs
      obtain ⟨rfl, rfl, rfl⟩ := hcs
      exact ⟨zs, .inr ⟨_, rfl, hl, hm, by simpa using hz, hcell, hwz⟩⟩
  obtain ⟨a2, len2, cap2, rfl⟩ := okWide_slice Try.underlying76 (hval 2 76 v2 rfl rfl)
  have k2 := h2
  have lt2 : ∀ x ∈ p2, x.block < W.heap.size := by obtain ⟨m, hm⟩ := k2; exact DataW.trod_lt m _ _ _ hm
  obtain ⟨z2, w2⟩ : ∃ zs, IsRow .u64 W a2 len2 cap2 zs := by
    obtain ⟨fuel, hf⟩ := h2
    rcases open_ints Try.underlying76 Try.underlying60 (by kernel_rfl) hf with ⟨hcs, _⟩ | ⟨x, l, c, zs, hcs, _, hl, hm, hz, _, hcell, hwz⟩
    · simp [Value.cells] at hcs
      obtain ⟨rfl, rfl, rfl⟩ := hcs
      exact ⟨[], .inl ⟨rfl, rfl, rfl, rfl⟩⟩
    · simp [Value.cells] at hcs
      obtain ⟨rfl, rfl, rfl⟩ := hcs
      exact ⟨zs, .inr ⟨_, rfl, hl, hm, by simpa using hz, hcell, hwz⟩⟩
  clear hA0 hval0
  refine (walk a0 a1 len1 cap1 z1 a2 len2 cap2 z2 W w0 w1 w2).mono fun e W' ⟨he, bel⟩ => ?_
  subst he
  exact ⟨_, rfl, _, _, _, [], _, [], hW', trodAll_mk1 (shut_bool Try.underlying4 _), (trodAll_cons_mk (shut_int Try.underlying60 w0) (trodAll_cons_mk (Below.trod laidOut (by kernel_rfl) (of_decide_eq_true (by kernel_rfl)) k1 bel lt1) (trodAll_cons_mk (Below.trod laidOut (by kernel_rfl) (of_decide_eq_true (by kernel_rfl)) k2 bel lt2) trodAll_mk0))), rfl, bel.frame _, fun h => by cases h⟩

theorem over : Rows.ballotRunsRow.holds Try.pinned (OpenSpec.ofChange Rows.ballotRunsSpec) :=
  OpenClaim.holds_of_wide 12 Try.f12 rfl rfl rfl rfl rfl rfl rfl ⟨rfl, rfl, rfl, rfl, rfl⟩ rfl rfl rfl rfl rfl (by kernel_rfl) Try.func12 (by kernel_rfl)
    (of_decide_eq_true (by kernel_rfl)) (by unfold Func.isWrapper; first | (rw [if_pos (by decide +kernel)]; kernel_rfl) | (rw [if_neg (by decide +kernel)]; exact ⟨rfl, rfl⟩))
    (fun os started H enc _ => lifted os started H enc)

theorem proved : Rows.BallotRunsSaid := over
#print axioms proved
end Go.Proofs.Ytgmeggilojcoeaa.ballotRuns
