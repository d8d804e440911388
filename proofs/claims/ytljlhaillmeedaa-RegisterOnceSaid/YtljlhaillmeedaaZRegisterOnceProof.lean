/-
  RegisterOnce: over one to seven registers, and at most thirty proposals that ask and tell at most twenty each, whoever proposes, at most one verdict is ever taken by more than half under one ballot; of other input only the chapter's example is asked; no condition on the input.
  The frame round the walk is written by the guide's own program for this statement.
-/
import Derived.Test.YtljlhaillmeedaaZGRO
import Derived.Test.YtljlhaillmeedaaRows
import Derived.WalkKit
import Derived.ProofKit
import Derived.OpenShut
import Derived.ShutString
import Derived.ChangeOld
import Derived.Below
namespace Go.Proofs.Ytljlhaillmeedaa.registerOnce
set_option linter.unusedSimpArgs false
set_option linter.unusedVariables false
open Go.ChangeShapes Go.WideShapes Go.ChangeAt Go.RowKit
open Go.ChangeMaps (open_string shut_string)
set_option linter.unusedVariables false

theorem own : ownKnob Try.prog.godebug = none := by kernel_rfl
theorem laidOut : laidOutB Try.prog = true := by kernel_rfl

/-- WHAT THE WALK IS TOLD OF A SLICE OF INTEGERS THAT CAME IN: it is nil; or it leads to a row of 'cap' cells, the numbers 'zs' (the first 'len' are its elements, the rest its spare room), each fitting its kind. -/
def IsRow (k : IntKind) (w : World) (a : Option Addr) (len cap : Nat) (zs : List Int) : Prop :=
  (a = none ∧ len = 0 ∧ cap = 0 ∧ zs = []) ∨
  ∃ x, a = some x ∧ len ≤ cap ∧ cap ≤ maxLen ∧ zs.length = cap ∧ (∀ i, i < zs.length → w.cell? (x.add i) = some (.int k (zs.getD i 0))) ∧ ∀ n ∈ zs, (Lit.int k n).wf = true

open Rg Bl Re Go.Sort
attribute [local go_sem] undef
set_option maxRecDepth 100000 in
set_option maxHeartbeats 60000000 in
theorem walk (a0 : Int) (v1 : Value) (w : World) (w0 : (Lit.int .i64 a0).wf = true) (w1 : Re.TriesV w v1) :
    Calls Try.prog 9 #[.int .i64 a0, v1] w fun e w' => e = .returned (.bool true) ∧ Below w.heap.size w w' := by
  obtain ⟨A1, n1, c1, l, rfl, hl, hln⟩ := w1
  have HT := hid_ hl
  have HLen := hid_ hl.len
  have hcm := Nat.le_trans hl.cap hl.max
  have HNode := hid_ hln
  have HAl := hid_ (fun (W : World) => regalive_any W)
  clear hl hln w0
  by_cases hs1 : a0 < 1
  · have e1 : decide (a0 < 1) = true := decide_eq_true hs1
    clear hs1
    go_enter Try.func9, Try.ntmps9
    go_wp2_with fail
    (with_reducible refine Calls.mono (HAl.out _) ?_)
    rintro e wz ⟨rfl, hbz⟩
    have HBz := hid_ ((Below.refl w.heap.size w).trans (hbz.mono (Below.refl w.heap.size w).size))
    clear hbz
    go_wp2_with fail
    go_ret
    exact ⟨rfl, HBz.out⟩
  by_cases hs2 : 7 < a0
  · have e1 : decide (a0 < 1) = false := decide_eq_false hs1
    have e2 : decide (a0 > 7) = true := decide_eq_true hs2
    have e3 : decide (7 < a0) = true := decide_eq_true hs2
    clear hs1 hs2
    go_enter Try.func9, Try.ntmps9
    go_wp2_with fail
    (with_reducible refine Calls.mono (HAl.out _) ?_)
    rintro e wz ⟨rfl, hbz⟩
    have HBz := hid_ ((Below.refl w.heap.size w).trans (hbz.mono (Below.refl w.heap.size w).size))
    clear hbz
    go_wp2_with fail
    go_ret
    exact ⟨rfl, HBz.out⟩
  obtain ⟨n, rfl⟩ : ∃ n : Nat, a0 = (n : Int) := ⟨a0.toNat, by omega⟩
  have e1 : decide ((n : Int) < 1) = false := decide_eq_false hs1
  have e2 : decide ((n : Int) > 7) = false := decide_eq_false hs2
  have e3 : decide ((7 : Int) < (n : Int)) = false := decide_eq_false hs2
  have e4 : decide (n < 1) = false := decide_eq_false (by omega)
  have e5 : decide (7 < n) = false := decide_eq_false (by omega)
  by_cases hs3 : 30 < n1
  · skip
    have q0 : decide ((n1 : Int) > 30) = true := decide_eq_true (by omega)
    have q1 : decide ((30 : Int) < (n1 : Int)) = true := decide_eq_true (by omega)
    have q2 : decide (30 < n1) = true := decide_eq_true (by omega)
    clear hs1 hs2 hs3
    go_enter Try.func9, Try.ntmps9
    go_wp2_with fail
    (with_reducible refine Calls.mono (HAl.out _) ?_)
    rintro e wz ⟨rfl, hbz⟩
    have HBz := hid_ ((Below.refl w.heap.size w).trans (hbz.mono (Below.refl w.heap.size w).size))
    clear hbz
    go_wp2_with fail
    go_ret
    exact ⟨rfl, HBz.out⟩
  have q0 : decide ((n1 : Int) > 30) = false := decide_eq_false (by omega)
  have q1 : decide ((30 : Int) < (n1 : Int)) = false := decide_eq_false (by omega)
  have q2 : decide (30 < n1) = false := decide_eq_false (by omega)
  have HN := hid_ (show 1 ≤ n ∧ n ≤ 7 by omega)
  have HN1 := hid_ (show n1 ≤ 30 by omega)
  have hmk := fun W => made_regs n (by omega) W
  have HB0 := hid_ (show OBase w ((w.alloc (.cells (regsArr (List.replicate n zeroR)) 54)).alloc (.cells #[.int .u64 0, .int .u64 0] 50)) (List.replicate n zeroR) ⟨0, 0⟩ none 0 0 [] from ⟨((Below.refl w.heap.size w).alloc (Nat.le_refl _) _).alloc (by simp) _, (whole_new w 54 (regsArr (List.replicate n zeroR))).alloc _, whole_at _ _ _ _ (by simp), Enc.Own.none _ _⟩)
  have HI0 := hid_ (inv_zero n)
  clear hs1 hs2 hs3
  generalize (regsArr (List.replicate n zeroR)) = RA at *
  go_enter Try.func9, Try.ntmps9
  go_wp2_with fail
  clear e1 e2 e3 e4 e5 q0 q1 q2 hmk
  go_loopw [6, 8] (fun v6 v8 wr => ∃ (i : Nat) (A6 : Option Addr) (n6 c6 : Nat) (regs : List RegD) (seen : BalD) (chosen : List Int) (W : Nat → BalD → Int → Prop), i ≤ n1 ∧ n6 ≤ i ∧ v8 = .int .i64 (i : Nat) ∧ v6 = .slice A6 n6 c6 ∧ Hid (OBase w wr regs seen A6 n6 c6 chosen) ∧ Hid (Inv n i regs seen W chosen)) (fun _ v8 _ => n1 - (intOf v8).toNat)
  case atStart => exact ⟨0, none, 0, 0, _, _, [], _, Nat.zero_le _, Nat.le_refl _, rfl, rfl, HB0, HI0⟩
  case round =>
    obtain ⟨i, A6, n6, c6, regs, seen, chosen, W, hi, h6, rfl, rfl, HB, HI⟩ := hrel
    by_cases hlt : i < n1
    · have hil : i < l.length := by rw [HLen.out]; exact hlt
      obtain ⟨g1, o1, Aa, ca, Ab, cb, rfl, hta⟩ := HT.out.at_ hil
      have HTA := hid_ hta
      obtain ⟨t0, t1, t2, t3, t4, -, -⟩ := hta.below HB.out.bl
      have hnode := HNode.out _ (List.getElem_mem hil)
      have HK := hid_ (And.intro hlt h6)
      have x1 : (i : Int) < (n1 : Int) := by omega
      have x2 : (0 : Int) ≤ (i : Int) := by omega
      generalize l[i] = t at *
      clear hlt hil hta
      by_cases h1 : 20 < t.ask.length
      · as_aux_lemma =>
          have ka0 : decide ((t.ask.length : Int) > 20) = true := decide_eq_true (by omega)
          have ka1 : decide ((20 : Int) < (t.ask.length : Int)) = true := decide_eq_true (by omega)
          have ka2 : decide (20 < t.ask.length) = true := decide_eq_true (by omega)
          clear h1
          go_wp2_with fail
          go_roundw
          case rel => exact ⟨i + 1, A6, n6, c6, regs, seen, chosen, W, by have := HK.out; omega, by have := HK.out; omega, by go_num, rfl, hid_ (HB.out.later ((Below.refl _ _).alloc (Nat.le_refl _) _)), hid_ (HI.out.later (Nat.le_succ i))⟩
          case measure => have := HK.out; simp [intOf]; omega
      · skip
        have ka0 : decide ((t.ask.length : Int) > 20) = false := decide_eq_false (by omega)
        have ka1 : decide ((20 : Int) < (t.ask.length : Int)) = false := decide_eq_false (by omega)
        have ka2 : decide (20 < t.ask.length) = false := decide_eq_false (by omega)
        by_cases h2 : 20 < t.tell.length
        · as_aux_lemma =>
            have kc0 : decide ((t.tell.length : Int) > 20) = true := decide_eq_true (by omega)
            have kc1 : decide ((20 : Int) < (t.tell.length : Int)) = true := decide_eq_true (by omega)
            have kc2 : decide (20 < t.tell.length) = true := decide_eq_true (by omega)
            clear h1 h2
            go_wp2_with fail
            go_roundw
            case rel => exact ⟨i + 1, A6, n6, c6, regs, seen, chosen, W, by have := HK.out; omega, by have := HK.out; omega, by go_num, rfl, hid_ (HB.out.later ((Below.refl _ _).alloc (Nat.le_refl _) _)), hid_ (HI.out.later (Nat.le_succ i))⟩
            case measure => have := HK.out; simp [intOf]; omega
        · skip
          have kc0 : decide ((t.tell.length : Int) > 20) = false := decide_eq_false (by omega)
          have kc1 : decide ((20 : Int) < (t.tell.length : Int)) = false := decide_eq_false (by omega)
          have kc2 : decide (20 < t.tell.length) = false := decide_eq_false (by omega)
          by_cases h3 : t.node = 0
          · as_aux_lemma =>
              have d1 : (t.node == 0) = true := by rw [beq_iff_eq]; omega
              have d2 : (((t.node : Nat) : Int) == 0) = true := by rw [beq_iff_eq]; omega
              clear h1 h2 h3
              go_wp2_with fail
              go_roundw
              case rel => exact ⟨i + 1, A6, n6, c6, regs, seen, chosen, W, by have := HK.out; omega, by have := HK.out; omega, by go_num, rfl, hid_ (HB.out.later ((Below.refl _ _).alloc (Nat.le_refl _) _)), hid_ (HI.out.later (Nat.le_succ i))⟩
              case measure => have := HK.out; simp [intOf]; omega
          · skip
            have d1 : (t.node == 0) = false := by rw [beq_eq_false_iff_ne]; omega
            have d2 : (((t.node : Nat) : Int) == 0) = false := by rw [beq_eq_false_iff_ne]; omega
            by_cases h4 : t.want < 1
            · as_aux_lemma =>
                have v0 : decide (t.want < 1) = true := decide_eq_true (by omega)
                clear h1 h2 h3 h4
                go_wp2_with fail
                go_roundw
                case rel => exact ⟨i + 1, A6, n6, c6, regs, seen, chosen, W, by have := HK.out; omega, by have := HK.out; omega, by go_num, rfl, hid_ (HB.out.later ((Below.refl _ _).alloc (Nat.le_refl _) _)), hid_ (HI.out.later (Nat.le_succ i))⟩
                case measure => have := HK.out; simp [intOf]; omega
            · skip
              have v0 : decide (t.want < 1) = false := decide_eq_false (by omega)
              by_cases h5 : 3 < t.want
              · as_aux_lemma =>
                  have v1 : decide (t.want > 3) = true := decide_eq_true (by omega)
                  have v2 : decide (3 < t.want) = true := decide_eq_true (by omega)
                  clear h1 h2 h3 h4 h5
                  go_wp2_with fail
                  go_roundw
                  case rel => exact ⟨i + 1, A6, n6, c6, regs, seen, chosen, W, by have := HK.out; omega, by have := HK.out; omega, by go_num, rfl, hid_ (HB.out.later ((Below.refl _ _).alloc (Nat.le_refl _) _)), hid_ (HI.out.later (Nat.le_succ i))⟩
                  case measure => have := HK.out; simp [intOf]; omega
              · skip
                have v1 : decide (t.want > 3) = false := decide_eq_false (by omega)
                have v2 : decide (3 < t.want) = false := decide_eq_false (by omega)
                have HW := hid_ (show 1 ≤ t.want ∧ t.want ≤ 3 by omega)
                have HAT := hid_ (show t.ask.length ≤ 20 ∧ t.tell.length ≤ 20 by omega)
                have hsl := HI.out.lows
                have hk1 := HK.out
                obtain ⟨hnk, hnp⟩ := next_of seen t.node h3 (by have := HN1.out; omega)
                have HNx := hid_ (fun (W : World) => show Calls Try.prog 39 #[.agg #[.int .u64 (seen.pos : Nat), .int .u64 (seen.id : Nat)], .int .u64 0, .int .u64 (t.node : Nat)] W (RetB W.heap.size W (.tuple #[.agg #[.int .u64 ((nextD seen 0 t.node).pos : Nat), .int .u64 ((nextD seen 0 t.node).id : Nat)], .int .i64 0])) from by
                  have h := next_any seen 0 t.node W (by have := HN1.out; omega) (by decide)
                  rw [hnk] at h
                  exact h)
                have HBp := hid_ (show (nextD seen 0 t.node).pos = seen.pos + 1 from hnp)
                generalize nextD seen 0 t.node = b at *
                have HT1 := hid_ (whole_new wr 82 #[.int .u64 (t.node : Nat), .int .i64 t.want, .slice Aa t.ask.length ca, .slice Ab t.tell.length cb, .int .i64 t.later])
                have HB1 := hid_ (HB.out.later ((Below.refl _ _).alloc (Nat.le_refl _) (.cells #[.int .u64 (t.node : Nat), .int .i64 t.want, .slice Aa t.ask.length ca, .slice Ab t.tell.length cb, .int .i64 t.later] 82)))
                have HG1 := hid_ (show w.heap.size + 1 < wr.heap.size from HB.out.sn.lt)
                have HC6 := hid_ (show ∀ k, (Value.slice A6 n6 c6).ownBlock = some k → k < wr.heap.size from fun k hk => (HB.out.cho.from_ k hk).2)
                have HIl := hid_ (HI.out.later (Nat.le_succ i))
                have HI2 := hid_ (show seen.pos ≤ i from hsl)
                clear h1 h2 h3 h4 h5 hnk hnp hsl hk1 hnode h6 hi HI HB
                go_upto_region 11 with (fail)
                obtain ⟨w1, hw1⟩ : ∃ w1, w1 = wr.alloc (.cells #[.int .u64 (t.node : Nat), .int .i64 t.want, .slice Aa t.ask.length ca, .slice Ab t.tell.length cb, .int .i64 t.later] 82) := ⟨_, rfl⟩
                rw [← hw1] at HT1 HB1 ⊢
                clear hw1
                have s0 := HB1.out.sn.cell 0 (.int .u64 (seen.pos : Nat)) rfl
                have s1 := HB1.out.sn.cell 1 (.int .u64 (seen.id : Nat)) rfl
                have u0 := HT1.out.cell 0 (.int .u64 (t.node : Nat)) rfl
                generalize wr.heap.size = gt at *
                go_wp2_with fail
                (with_reducible refine Calls.mono (HNx.out _) ?_)
                rintro e w2 ⟨rfl, hb⟩
                have HTb := hid_ (HT1.out.below hb HT1.out.lt)
                have HBb := hid_ (HB1.out.later hb)
                have HG2 := hid_ (Nat.lt_of_lt_of_le HT1.out.lt hb.size)
                have HT2 := hid_ (HTb.out.alloc (.cells #[.int .u64 (b.pos : Nat), .int .u64 (b.id : Nat)] 50))
                have HB2 := hid_ (HBb.out.later ((Below.refl _ _).alloc (Nat.le_refl _) (.cells #[.int .u64 (b.pos : Nat), .int .u64 (b.id : Nat)] 50)))
                have HX2 := hid_ (whole_new w2 50 #[.int .u64 (b.pos : Nat), .int .u64 (b.id : Nat)])
                clear hb s0 s1 u0 HTb HBb HT1 HB1 HNx
                go_upto_region 14 with (fail)
                generalize hgb : w2.heap.size = gb at *
                generalize hw3 : (w2.alloc (.cells #[.int .u64 (b.pos : Nat), .int .u64 (b.id : Nat)] 50)) = w3 at *
                have HSb := hid_ (show gb < w3.heap.size by rw [← hw3, ← hgb]; simp)
                clear hgb hw3
                have t4 := HT2.out.cell 4 (.int .i64 t.later) rfl
                go_upto_if 87 with (fail)
                go_cut [] from 88 to 88 (fun wx => ∃ seen2 : BalD, Hid (seen2.pos ≤ i + 1) ∧ Hid (OBase w wx regs seen2 A6 n6 c6 chosen) ∧ Hid (Whole wx gt 82 #[.int .u64 (t.node : Nat), .int .i64 t.want, .slice Aa t.ask.length ca, .slice Ab t.tell.length cb, .int .i64 t.later]) ∧ Hid (Whole wx gb 50 (balCells b)) ∧ Hid (w3.heap.size ≤ wx.heap.size))
                case first =>
                  by_cases hlt : t.later = 0
                  · have e1 : (t.later == 0) = true := by rw [beq_iff_eq]; exact hlt
                    have z0 := HX2.out.cell 0 (.int .u64 (b.pos : Nat)) rfl
                    have z1 := HX2.out.cell 1 (.int .u64 (b.id : Nat)) rfl
                    have y0 := HB2.out.sn.cell 0 (.int .u64 (seen.pos : Nat)) rfl
                    have y1 := HB2.out.sn.cell 1 (.int .u64 (seen.id : Nat)) rfl
                    have f0 := HB2.out.sn.free 0
                    have f1 := HB2.out.sn.free 1
                    clear hlt
                    go_wp2_with fail
                    go_meet
                    have hx1 := HG1.out
                    have hx2 := HG2.out
                    exact ⟨b, hid_ (by have := HIl.out.lows; have := HBp.out; have := HI2.out; omega), hid_ (HB2.out.setSeen b), hid_ ((HT2.out.far (by simp; omega) _).far (by simp; omega) _), hid_ ((HX2.out.far (by simp; omega) _).far (by simp; omega) _), hid_ (by simp)⟩
                  · have e1 : (t.later == 0) = false := by rw [beq_eq_false_iff_ne]; exact hlt
                    clear hlt
                    go_wp2_with fail
                    go_meet
                    exact ⟨seen, hid_ HIl.out.lows, HB2, HT2, HX2, hid_ (Nat.le_refl _)⟩
                case rest =>
                  obtain ⟨seen2, HS2, HB4, HT4, HX4, HZ4⟩ := hcut
                  obtain ⟨w4, rfl⟩ : ∃ w4 : World, w4 = wc := ⟨_, rfl⟩
                  have HI4 := hid_ (HIl.out.sees HS2.out)
                  have HG4 := hid_ (Nat.lt_of_lt_of_le HSb.out HZ4.out)
                  have HBi := hid_ (show b.pos ≤ i + 1 ∧ b.pos ≠ 0 by have := HBp.out; have := HI2.out; omega)
                  clear t4 HB2 HT2 HX2 HS2 HIl HSb HZ4 HBp
                  go_upto_region 18 with (fail)
                  have HT5 := hid_ (HT4.out.alloc (.cells #[.int .u64 0, .int .u64 0] 50))
                  have HO5 := hid_ (show OTry w (w4.alloc (.cells #[.int .u64 0, .int .u64 0] 50)) (w4.alloc (.cells #[.int .u64 0, .int .u64 0] 50)).heap.size gt gb w4.heap.size regs seen2 A6 n6 c6 chosen #[.int .u64 (t.node : Nat), .int .i64 t.want, .slice Aa t.ask.length ca, .slice Ab t.tell.length cb, .int .i64 t.later] b ⟨0, 0⟩ none 0 0 [] from
                    ⟨HB4.out.later ((Below.refl _ _).alloc (Nat.le_refl _) _), HT4.out.alloc _, HX4.out.alloc _, whole_new _ _ _, Enc.Own.none _ _, HG1.out, HG2.out, HG4.out, by simp, Nat.le_refl _, HC6.out⟩)
                  have HA5 := hid_ (asked_zero n b t.want regs)
                  have HZ5 := hid_ (show BestZ t.want regs [] ⟨0, 0⟩ t.want from fun _ => rfl)
                  generalize w4.heap.size = gm at *
                  generalize (w4.alloc (.cells #[.int .u64 0, .int .u64 0] 50)) = w5 at *
                  have t1 := HT5.out.cell 1 (.int .i64 t.want) rfl
                  generalize w5.heap.size = B at *
                  clear HT4 HX4 HB4 HT5 HG1 HG2 HG4 HC6
                  go_wp2_with fail
                  clear t1
                  go_loopw [12, 14, 15] (fun v12 v14 v15 wr => ∃ (j : Nat) (Ak : Option Addr) (mk ck : Nat) (regs : List RegD) (seen : BalD) (asked : List Nat) (best : BalD) (v : Int), j ≤ t.ask.length ∧ mk ≤ j ∧ v15 = .int .i64 (j : Nat) ∧ v14 = .int .i64 v ∧ v12 = .slice Ak mk ck ∧ Hid (OTry w wr B gt gb gm regs seen A6 n6 c6 chosen #[.int .u64 (t.node : Nat), .int .i64 t.want, .slice Aa t.ask.length ca, .slice Ab t.tell.length cb, .int .i64 t.later] b best Ak mk ck asked) ∧ Hid (Inv n (i + 1) regs seen W chosen) ∧ Hid (Asked n b t.want regs asked best v) ∧ Hid (BestZ t.want regs asked best v)) (fun _ _ v15 _ => t.ask.length - (intOf v15).toNat)
                  case atStart => exact ⟨0, none, 0, 0, regs, seen2, [], ⟨0, 0⟩, t.want, Nat.zero_le _, Nat.le_refl _, rfl, rfl, rfl, HO5, HI4, HA5, HZ5⟩
                  case round =>
                    clear HO5 HI4 HA5 HZ5
                    obtain ⟨j, Ak, mk, ck, regs, seen, asked, best, v, hj, hmj, rfl, rfl, rfl, HO, HI, HA, HZ⟩ := hrel
                    by_cases hlt : j < t.ask.length
                    · obtain ⟨ga, oa, hAa, hga, k0⟩ := ver_at (HTA.out.sa.below HO.out.base.bl) hlt
                      obtain rfl := hAa
                      have t2 := HO.out.tr.cell 2 (.slice (some ⟨ga, oa, none⟩) t.ask.length ca) rfl
                      have HJ := hid_ (And.intro hlt hmj)
                      have hbd := HAT.out.1
                      have y1 : (j : Int) < (t.ask.length : Int) := by omega
                      have y2 : (0 : Int) ≤ (j : Int) := by omega
                      generalize t.ask[j] = z at *
                      clear hlt hga hmj
                      by_cases hz1 : z < 0
                      · as_aux_lemma =>
                        have e1 : decide (z < 0) = true := decide_eq_true hz1
                        clear hz1
                        go_wp2_with fail
                        go_roundw
                        case rel => exact ⟨j + 1, Ak, mk, ck, regs, seen, asked, best, v, by have := HJ.out; omega, by have := HJ.out; omega, by go_num, rfl, rfl, HO, HI, HA, HZ⟩
                        case measure => have := HJ.out; simp [intOf]; omega
                      have e1 : decide (z < 0) = false := decide_eq_false hz1
                      by_cases hz2 : (n : Int) ≤ z
                      · as_aux_lemma =>
                        have e2 : decide (z ≥ (n : Int)) = true := decide_eq_true hz2
                        have e3 : decide ((n : Int) ≤ z) = true := decide_eq_true hz2
                        clear hz1 hz2
                        go_wp2_with fail
                        go_roundw
                        case rel => exact ⟨j + 1, Ak, mk, ck, regs, seen, asked, best, v, by have := HJ.out; omega, by have := HJ.out; omega, by go_num, rfl, rfl, HO, HI, HA, HZ⟩
                        case measure => have := HJ.out; simp [intOf]; omega
                      obtain ⟨x, rfl⟩ : ∃ x : Nat, z = (x : Int) := ⟨z.toNat, by omega⟩
                      have e2 : decide ((x : Int) ≥ (n : Int)) = false := decide_eq_false hz2
                      have e3 : decide ((n : Int) ≤ (x : Int)) = false := decide_eq_false hz2
                      have e4 : decide (n ≤ x) = false := decide_eq_false (by omega)
                      have HXn := hid_ (show x < n by omega)
                      have HIn := hid_ (fun (W : World) (h : natE.Row W Ak mk ck asked) => in_any Ak mk ck asked x W h)
                      clear hz1 hz2
                      by_cases hin : x ∈ asked
                      · as_aux_lemma =>
                        rw [decide_eq_true hin] at HIn
                        clear hin
                        go_wp2_with fail
                        (with_reducible refine Calls.mono (HIn.out _ HO.out.ask.row) ?_)
                        rintro e w6 ⟨rfl, hb⟩
                        have HO6 := hid_ (HO.out.later hb)
                        clear hb k0 t2
                        go_wp2_with fail
                        go_roundw
                        case rel => exact ⟨j + 1, Ak, mk, ck, regs, seen, asked, best, v, by have := HJ.out; omega, by have := HJ.out; omega, by go_num, rfl, rfl, HO6, HI, HA, HZ⟩
                        case measure => have := HJ.out; simp [intOf]; omega
                      · rw [decide_eq_false hin] at HIn
                        have HNi := hid_ hin
                        clear hin
                        go_wp2_with fail
                        (with_reducible refine Calls.mono (HIn.out _ HO.out.ask.row) ?_)
                        rintro e w6 ⟨rfl, hb⟩
                        have HO6 := hid_ (HO.out.later hb)
                        clear hb k0 t2 HO e1 e2 e3 e4 y1 y2
                        have hxl : x < regs.length := by rw [HI.out.len]; exact HXn.out
                        have HXl := hid_ hxl
                        have HRg := hid_ (regs_at HO6.out.base.rg hxl)
                        have HPr := hid_ (fun (W : World) => prepare_any (regAt regs x) b W)
                        have y1 : (x : Int) < (n : Int) := by have := HXn.out; omega
                        have y2 : (0 : Int) ≤ (x : Int) := by omega
                        have HIa := hid_ (HI.out.asks HXn.out (b := b) HBi.out.1)
                        have HRr := hid_ (HI.out.right x HXn.out)
                        have HLw := hid_ (HI.out.low x HXn.out)
                        have HMore := hid_ (fun (hok : lateB (regAt regs x) b = false) best' v' hnew => And.intro (HA.out.more HXn.out HI.out.len HNi.out hok best' v' hnew HZ.out HRr.out) (bestZ_more HZ.out hxl HNi.out hok best' v' hnew))
                        obtain ⟨r, hr⟩ : ∃ r, r = regAt regs x := ⟨_, rfl⟩
                        have HR := hid_ hr
                        rw [← hr] at HRg HPr HRr HLw HMore
                        clear hxl hr
                        cases hL : lateB r b
                        · as_aux_lemma =>
                          have hp := prep_yes hL
                          have HOk := hid_ hL
                          rw [hL, hp] at HPr
                          clear hL hp
                          have HAn := hid_ (fun (W : World) => show Calls Try.prog 34 #[.agg (regCells ⟨b, r.t, r.v⟩), .int .u64 1, .agg (balCells b), .bool true, .bool false] W (RetB W.heap.size W (.agg #[.int .i64 5, .int .u64 1, .int .u64 (b.pos : Nat), .int .u64 (b.id : Nat), .int .u64 (r.t.pos : Nat), .int .u64 (r.t.id : Nat), .int .i64 r.v, .bool true, .slice none 0 0, .slice none 0 0, .slice none 0 0])) from answer_any ⟨b, r.t, r.v⟩ 1 b true false W)
                          go_upto_region 24 with (fail)
                          go_cut [17, 18] from 117 to 124 (fun v17 v18 wx => KeptR w6 54 ⟨b, r.t, r.v⟩ true v17 v18 wx)
                          case first => as_aux_lemma =>
                            have S0 : RoIn w6 w.heap.size (x * 5) r gb b w6 := ⟨Below.refl _ _, HRg.out, b2_of HO6.out.bb⟩
                            have HS0 := hid_ S0
                            have HBr := hid_ (Below.refl w6.heap.size w6)
                            go_region_held3 (RoIn w6 w.heap.size (x * 5) r gb b) (first | (with_reducible assumption) | (with_reducible exact roIn_of HS0.out hbv) | (with_reducible exact roIn_of HS0.out (below_set5 hbv (Nat.le_refl _) _ _ _ _ _)) | (with_reducible exact roIn_of HS0.out (Below.alloc hbv (Below.size hbv) _)) | (with_reducible exact roIn_of HS0.out (Below.drew (Below.refl _ _))) | (with_reducible exact roIn_of HS0.out (Below.alloc (Below.drew (Below.refl _ _)) (Nat.le_refl _) _)) | (with_reducible exact roIn_of HS0.out (Below.drew (Below.alloc (Below.refl _ _) (Nat.le_refl _) _))) | (with_reducible exact roIn_of HS0.out (Below.alloc (Below.refl _ _) (Nat.le_refl _) _)) | fail)
                              (first
                                | (go_at_call 25; (with_reducible refine Calls.mono (HPr.out _) ?_); rintro e wp ⟨rfl, hbp⟩; (first | (with_reducible have hbv := chain0 HBr.out hbp) | (with_reducible have hbv := chainD HBr.out hbp) | (with_reducible have hbv := chainA HBr.out hbp; with_reducible have hz2 := whole_past hbp; have n0 := hz2.cell 0 (.int .u64 0) rfl; have n1 := hz2.cell 1 (.int .u64 0) rfl; have n2 := hz2.cell 2 (.int .u64 0) rfl; have n3 := hz2.cell 3 (.int .u64 0) rfl; have n4 := hz2.cell 4 (.int .i64 0) rfl; have f0 := hz2.free 0; have f1 := hz2.free 1; have f2 := hz2.free 2; have f3 := hz2.free 3; have f4 := hz2.free 4) | (with_reducible have hbv := chainAD HBr.out hbp; with_reducible have hz2 := whole_pastD hbp; have n0 := hz2.cell 0 (.int .u64 0) rfl; have n1 := hz2.cell 1 (.int .u64 0) rfl; have n2 := hz2.cell 2 (.int .u64 0) rfl; have n3 := hz2.cell 3 (.int .u64 0) rfl; have n4 := hz2.cell 4 (.int .i64 0) rfl; have f0 := hz2.free 0; have f1 := hz2.free 1; have f2 := hz2.free 2; have f3 := hz2.free 3; have f4 := hz2.free 4) | (with_reducible have hbv := chainDA HBr.out hbp; with_reducible have hz2 := whole_past hbp; have n0 := hz2.cell 0 (.int .u64 0) rfl; have n1 := hz2.cell 1 (.int .u64 0) rfl; have n2 := hz2.cell 2 (.int .u64 0) rfl; have n3 := hz2.cell 3 (.int .u64 0) rfl; have n4 := hz2.cell 4 (.int .i64 0) rfl; have f0 := hz2.free 0; have f1 := hz2.free 1; have f2 := hz2.free 2; have f3 := hz2.free 3; have f4 := hz2.free 4)))
                                | fail)
                            all_goals
                              go_wp2_with fail
                              go_meet
                              first
                                | (with_reducible exact keptR_mk rfl (Below.size hbv) (whole_new _ _ _) (Below.alloc hbv (Below.size hbv) _))
                                | (with_reducible exact keptR_mk rfl (Nat.le_refl _) (whole_set5 hz2 _ _ _ _ _) (below_set5 hbv (Nat.le_refl _) _ _ _ _ _))
                                | fail
                          case rest =>
                            obtain ⟨gr, rfl, rfl, hgr, hwx, hb⟩ := hcut
                            obtain ⟨w7, rfl⟩ : ∃ w7 : World, w7 = wc := ⟨_, rfl⟩
                            have HO7 := hid_ (HO6.out.later hb)
                            have HG7 := hid_ (show B ≤ gr from Nat.le_trans HO6.out.h5 hgr)
                            have HV7 := hid_ hwx
                            clear hb hwx hgr HO6 HRg
                            obtain ⟨p0, p1, p2, p3, p4⟩ := r5_of HV7.out
                            obtain ⟨b0, b1⟩ := b2_of HO7.out.bb
                            go_upto_region 26 with (go_at_call 34; (with_reducible refine Calls.mono (HAn.out _) ?_); rintro e w8 ⟨rfl, hb⟩; have HAx := hid_ hb; clear hb)
                            have HO8 := hid_ (HO7.out.later (HAx.out.alloc HAx.out.size (.cells #[.int .i64 5, .int .u64 1, .int .u64 (b.pos : Nat), .int .u64 (b.id : Nat), .int .u64 (r.t.pos : Nat), .int .u64 (r.t.id : Nat), .int .i64 r.v, .bool true, .slice none 0 0, .slice none 0 0, .slice none 0 0] 70)))
                            have HV8 := hid_ ((HV7.out.below HAx.out HV7.out.lt).alloc (.cells #[.int .i64 5, .int .u64 1, .int .u64 (b.pos : Nat), .int .u64 (b.id : Nat), .int .u64 (r.t.pos : Nat), .int .u64 (r.t.id : Nat), .int .i64 r.v, .bool true, .slice none 0 0, .slice none 0 0, .slice none 0 0] 70))
                            have HP8 := hid_ (whole_new w8 70 #[.int .i64 5, .int .u64 1, .int .u64 (b.pos : Nat), .int .u64 (b.id : Nat), .int .u64 (r.t.pos : Nat), .int .u64 (r.t.id : Nat), .int .i64 r.v, .bool true, .slice none 0 0, .slice none 0 0, .slice none 0 0])
                            have HGP := hid_ (show B ≤ w8.heap.size from Nat.le_trans HO7.out.h5 HAx.out.size)
                            have HGK := hid_ (show ∀ k, (Value.slice Ak mk ck).ownBlock = some k → k < w8.heap.size from fun k hk => Nat.lt_of_lt_of_le (HO7.out.ask.from_ k hk).2 HAx.out.size)
                            clear HAx HO7 HV7 p0 p1 p2 p3 p4 b0 b1
                            generalize w8.heap.size = gp at *
                            generalize (w8.alloc (.cells #[.int .i64 5, .int .u64 1, .int .u64 (b.pos : Nat), .int .u64 (b.id : Nat), .int .u64 (r.t.pos : Nat), .int .u64 (r.t.id : Nat), .int .i64 r.v, .bool true, .slice none 0 0, .slice none 0 0, .slice none 0 0] 70)) = w9 at *
                            obtain ⟨p0, p1, p2, p3, p4⟩ := r5_of HV8.out
                            have hrg := regs_at HO8.out.base.rg HXl.out
                            rw [← HR.out] at hrg
                            obtain ⟨r0, r1, r2, r3, r4⟩ := hrg
                            have fr := fun i => HO8.out.base.rg.free i
                            go_upto_region 27 with (fail)
                            have HO10 := hid_ (show OTry w (((((w9.setCell ⟨w.heap.size, x * 5, none⟩ (.int .u64 (b.pos : Nat))).setCell ⟨w.heap.size, x * 5 + 1, none⟩ (.int .u64 (b.id : Nat))).setCell ⟨w.heap.size, x * 5 + 2, none⟩ (.int .u64 (r.t.pos : Nat))).setCell ⟨w.heap.size, x * 5 + 3, none⟩ (.int .u64 (r.t.id : Nat))).setCell ⟨w.heap.size, x * 5 + 4, none⟩ (.int .i64 r.v)) B gt gb gm (regs.set x ⟨b, r.t, r.v⟩) seen A6 n6 c6 chosen #[.int .u64 (t.node : Nat), .int .i64 t.want, .slice (some ⟨ga, oa, none⟩) t.ask.length ca, .slice Ab t.tell.length cb, .int .i64 t.later] b best Ak mk ck asked from HO8.out.setReg HXl.out ⟨b, r.t, r.v⟩)
                            have HP10 := hid_ (show Whole (((((w9.setCell ⟨w.heap.size, x * 5, none⟩ (.int .u64 (b.pos : Nat))).setCell ⟨w.heap.size, x * 5 + 1, none⟩ (.int .u64 (b.id : Nat))).setCell ⟨w.heap.size, x * 5 + 2, none⟩ (.int .u64 (r.t.pos : Nat))).setCell ⟨w.heap.size, x * 5 + 3, none⟩ (.int .u64 (r.t.id : Nat))).setCell ⟨w.heap.size, x * 5 + 4, none⟩ (.int .i64 r.v)) gp 70 #[.int .i64 5, .int .u64 1, .int .u64 (b.pos : Nat), .int .u64 (b.id : Nat), .int .u64 (r.t.pos : Nat), .int .u64 (r.t.id : Nat), .int .i64 r.v, .bool true, .slice none 0 0, .slice none 0 0, .slice none 0 0] from far5 HP8.out (by have := HO8.out.h1; have := HO8.out.h2; have := HO8.out.h3; have := HO8.out.h4; have := HGP.out; omega) _ _ _ _ _ _)
                            clear p0 p1 p2 p3 p4 r0 r1 r2 r3 r4 fr HO8 HP8 HV8
                            generalize (((((w9.setCell ⟨w.heap.size, x * 5, none⟩ (.int .u64 (b.pos : Nat))).setCell ⟨w.heap.size, x * 5 + 1, none⟩ (.int .u64 (b.id : Nat))).setCell ⟨w.heap.size, x * 5 + 2, none⟩ (.int .u64 (r.t.pos : Nat))).setCell ⟨w.heap.size, x * 5 + 3, none⟩ (.int .u64 (r.t.id : Nat))).setCell ⟨w.heap.size, x * 5 + 4, none⟩ (.int .i64 r.v)) = w10 at *
                            have q4 := HP10.out.cell 4 (.int .u64 (r.t.pos : Nat)) rfl
                            have q5 := HP10.out.cell 5 (.int .u64 (r.t.id : Nat)) rfl
                            have q6 := HP10.out.cell 6 (.int .i64 r.v) rfl
                            have hmo := HMore.out HOk.out
                            rw [prep_yes HOk.out] at hmo
                            have HMo := hid_ hmo
                            have hia := HIa.out
                            rw [← HR.out, prep_yes HOk.out] at hia
                            have HIa2 := hid_ hia
                            clear hmo hia
                            have HLb := hid_ (fun (W : World) => rless_any best r.t W)
                            have hmj := HJ.out.2
                            have hmb : mk ≤ 20 := by have := HJ.out; omega
                            have HOa := hid_ (HO10.out.later ((Below.refl _ _).alloc (Nat.le_refl _) (.cells #[.int .i64 (x : Nat)] 3)))
                            have HPa := hid_ (HP10.out.alloc (.cells #[.int .i64 (x : Nat)] 3))
                            clear HMore
                            by_cases hv : r.v = 0
                            · have e1 : (r.v != 0) = false := by rw [hv]; rfl
                              have HV := hid_ hv
                              clear hv
                              go_wp2_with (first | (at_builtin; refine Enc.wpList_rows (E := natE) (e := 3) rfl (.tmp 140) (.tmp 142) 34 rfl _ 8 Try.underlying34 info_int rfl B Ak mk ck asked rfl HOa.out.ask (some ⟨w10.heap.size, 0, none⟩) 1 1 [x] rfl (Enc.row_new (E := natE) w10 x _ rfl _) (mk + 1) _ rfl rfl (by omega) (by omega) HOa.out.h5 ?_; intro A5 c5 w11 ho5 hb5 hg5 hat5; have HO11 := hid_ (HOa.out.asks ho5 hb5); have HP11 := hid_ (show Whole w11 gp 70 #[.int .i64 5, .int .u64 1, .int .u64 (b.pos : Nat), .int .u64 (b.id : Nat), .int .u64 (r.t.pos : Nat), .int .u64 (r.t.id : Nat), .int .i64 r.v, .bool true, .slice none 0 0, .slice none 0 0, .slice none 0 0] from (hg5.block gp HPa.out.lt (fun e => by have := HGK.out gp e.symm; omega)).trans HPa.out); clear ho5 hb5 hg5 hat5 q4 q5 q6; have q4 := HP11.out.cell 4 (.int .u64 (r.t.pos : Nat)) rfl; have q5 := HP11.out.cell 5 (.int .u64 (r.t.id : Nat)) rfl; have q6 := HP11.out.cell 6 (.int .i64 r.v) rfl; have m0 := HO11.out.bm.cell 0 (.int .u64 (best.pos : Nat)) rfl; have m1 := HO11.out.bm.cell 1 (.int .u64 (best.id : Nat)) rfl) | fail)
                              go_roundw
                              case rel => exact ⟨j + 1, A5, mk + 1, c5, _, seen, asked ++ [x], best, v, by have := HJ.out; omega, by have := HJ.out; omega, by go_num, rfl, rfl, hid_ HO11.out, HIa2, hid_ (HMo.out best v (.inr ⟨.inl HV.out, rfl, rfl⟩)).1, hid_ (HMo.out best v (.inr ⟨.inl HV.out, rfl, rfl⟩)).2⟩
                              case measure => have := HJ.out; simp [intOf]; omega
                            · have e1 : (r.v != 0) = true := by rw [bne_iff_ne]; exact hv
                              have HV := hid_ hv
                              clear hv
                              go_wp2_with (first | (at_builtin; refine Enc.wpList_rows (E := natE) (e := 3) rfl (.tmp 140) (.tmp 142) 34 rfl _ 8 Try.underlying34 info_int rfl B Ak mk ck asked rfl HOa.out.ask (some ⟨w10.heap.size, 0, none⟩) 1 1 [x] rfl (Enc.row_new (E := natE) w10 x _ rfl _) (mk + 1) _ rfl rfl (by omega) (by omega) HOa.out.h5 ?_; intro A5 c5 w11 ho5 hb5 hg5 hat5; have HO11 := hid_ (HOa.out.asks ho5 hb5); have HP11 := hid_ (show Whole w11 gp 70 #[.int .i64 5, .int .u64 1, .int .u64 (b.pos : Nat), .int .u64 (b.id : Nat), .int .u64 (r.t.pos : Nat), .int .u64 (r.t.id : Nat), .int .i64 r.v, .bool true, .slice none 0 0, .slice none 0 0, .slice none 0 0] from (hg5.block gp HPa.out.lt (fun e => by have := HGK.out gp e.symm; omega)).trans HPa.out); clear ho5 hb5 hg5 hat5 q4 q5 q6; have q4 := HP11.out.cell 4 (.int .u64 (r.t.pos : Nat)) rfl; have q5 := HP11.out.cell 5 (.int .u64 (r.t.id : Nat)) rfl; have q6 := HP11.out.cell 6 (.int .i64 r.v) rfl; have m0 := HO11.out.bm.cell 0 (.int .u64 (best.pos : Nat)) rfl; have m1 := HO11.out.bm.cell 1 (.int .u64 (best.id : Nat)) rfl) | fail)
                              (with_reducible refine Calls.mono (HLb.out _) ?_)
                              rintro e w12 ⟨rfl, hb⟩
                              have HO12 := hid_ (HO11.out.later hb)
                              have HP12 := hid_ (HP11.out.below hb HP11.out.lt)
                              clear hb q4 q5 q6 m0 m1 HO11 HP11
                              cases hlb : lessB best r.t
                              · have HL := hid_ hlb
                                clear hlb
                                go_wp2_with fail
                                go_roundw
                                case rel => exact ⟨j + 1, A5, mk + 1, c5, _, seen, asked ++ [x], best, v, by have := HJ.out; omega, by have := HJ.out; omega, by go_num, rfl, rfl, hid_ HO12.out, HIa2, hid_ (HMo.out best v (.inr ⟨.inr HL.out, rfl, rfl⟩)).1, hid_ (HMo.out best v (.inr ⟨.inr HL.out, rfl, rfl⟩)).2⟩
                                case measure => have := HJ.out; simp [intOf]; omega
                              · have HL := hid_ hlb
                                clear hlb
                                have q4 := HP12.out.cell 4 (.int .u64 (r.t.pos : Nat)) rfl
                                have q5 := HP12.out.cell 5 (.int .u64 (r.t.id : Nat)) rfl
                                have q6 := HP12.out.cell 6 (.int .i64 r.v) rfl
                                obtain ⟨m0, m1⟩ := b2_of HO12.out.bm
                                have f0 := HO12.out.bm.free 0
                                have f1 := HO12.out.bm.free 1
                                go_wp2_with fail
                                go_region
                                go_wp2_with fail
                                go_roundw
                                case rel => exact ⟨j + 1, A5, mk + 1, c5, _, seen, asked ++ [x], r.t, r.v, by have := HJ.out; omega, by have := HJ.out; omega, by go_num, rfl, rfl, hid_ ((HO12.out.setBest r.t).drewN 1), HIa2, hid_ (HMo.out r.t r.v (.inl ⟨HV.out, HL.out, rfl, rfl⟩)).1, hid_ (HMo.out r.t r.v (.inl ⟨HV.out, HL.out, rfl, rfl⟩)).2⟩
                                case measure => have := HJ.out; simp [intOf]; omega
                        · as_aux_lemma =>
                          have hp := prep_no hL
                          have HOk := hid_ hL
                          rw [hL, hp] at HPr
                          clear hL hp
                          have HAn := hid_ (fun (W : World) => show Calls Try.prog 34 #[.agg (regCells r), .int .u64 1, .agg (balCells b), .bool false, .bool false] W (RetB W.heap.size W (.agg #[.int .i64 5, .int .u64 1, .int .u64 (b.pos : Nat), .int .u64 (b.id : Nat), .int .u64 (r.p.pos : Nat), .int .u64 (r.p.id : Nat), .int .i64 0, .bool false, .slice none 0 0, .slice none 0 0, .slice none 0 0])) from answer_any r 1 b false false W)
                          go_upto_region 24 with (fail)
                          go_cut [17, 18] from 117 to 124 (fun v17 v18 wx => KeptR w6 54 r false v17 v18 wx)
                          case first => as_aux_lemma =>
                            have S0 : RoIn w6 w.heap.size (x * 5) r gb b w6 := ⟨Below.refl _ _, HRg.out, b2_of HO6.out.bb⟩
                            have HS0 := hid_ S0
                            have HBr := hid_ (Below.refl w6.heap.size w6)
                            go_region_held3 (RoIn w6 w.heap.size (x * 5) r gb b) (first | (with_reducible assumption) | (with_reducible exact roIn_of HS0.out hbv) | (with_reducible exact roIn_of HS0.out (below_set5 hbv (Nat.le_refl _) _ _ _ _ _)) | (with_reducible exact roIn_of HS0.out (Below.alloc hbv (Below.size hbv) _)) | (with_reducible exact roIn_of HS0.out (Below.drew (Below.refl _ _))) | (with_reducible exact roIn_of HS0.out (Below.alloc (Below.drew (Below.refl _ _)) (Nat.le_refl _) _)) | (with_reducible exact roIn_of HS0.out (Below.drew (Below.alloc (Below.refl _ _) (Nat.le_refl _) _))) | (with_reducible exact roIn_of HS0.out (Below.alloc (Below.refl _ _) (Nat.le_refl _) _)) | fail)
                              (first
                                | (go_at_call 25; (with_reducible refine Calls.mono (HPr.out _) ?_); rintro e wp ⟨rfl, hbp⟩; (first | (with_reducible have hbv := chain0 HBr.out hbp) | (with_reducible have hbv := chainD HBr.out hbp) | (with_reducible have hbv := chainA HBr.out hbp; with_reducible have hz2 := whole_past hbp; have n0 := hz2.cell 0 (.int .u64 0) rfl; have n1 := hz2.cell 1 (.int .u64 0) rfl; have n2 := hz2.cell 2 (.int .u64 0) rfl; have n3 := hz2.cell 3 (.int .u64 0) rfl; have n4 := hz2.cell 4 (.int .i64 0) rfl; have f0 := hz2.free 0; have f1 := hz2.free 1; have f2 := hz2.free 2; have f3 := hz2.free 3; have f4 := hz2.free 4) | (with_reducible have hbv := chainAD HBr.out hbp; with_reducible have hz2 := whole_pastD hbp; have n0 := hz2.cell 0 (.int .u64 0) rfl; have n1 := hz2.cell 1 (.int .u64 0) rfl; have n2 := hz2.cell 2 (.int .u64 0) rfl; have n3 := hz2.cell 3 (.int .u64 0) rfl; have n4 := hz2.cell 4 (.int .i64 0) rfl; have f0 := hz2.free 0; have f1 := hz2.free 1; have f2 := hz2.free 2; have f3 := hz2.free 3; have f4 := hz2.free 4) | (with_reducible have hbv := chainDA HBr.out hbp; with_reducible have hz2 := whole_past hbp; have n0 := hz2.cell 0 (.int .u64 0) rfl; have n1 := hz2.cell 1 (.int .u64 0) rfl; have n2 := hz2.cell 2 (.int .u64 0) rfl; have n3 := hz2.cell 3 (.int .u64 0) rfl; have n4 := hz2.cell 4 (.int .i64 0) rfl; have f0 := hz2.free 0; have f1 := hz2.free 1; have f2 := hz2.free 2; have f3 := hz2.free 3; have f4 := hz2.free 4)))
                                | fail)
                            all_goals
                              go_wp2_with fail
                              go_meet
                              first
                                | (with_reducible exact keptR_mk rfl (Below.size hbv) (whole_new _ _ _) (Below.alloc hbv (Below.size hbv) _))
                                | (with_reducible exact keptR_mk rfl (Nat.le_refl _) (whole_set5 hz2 _ _ _ _ _) (below_set5 hbv (Nat.le_refl _) _ _ _ _ _))
                                | fail
                          case rest =>
                            obtain ⟨gr, rfl, rfl, hgr, hwx, hb⟩ := hcut
                            obtain ⟨w7, rfl⟩ : ∃ w7 : World, w7 = wc := ⟨_, rfl⟩
                            have HO7 := hid_ (HO6.out.later hb)
                            have HG7 := hid_ (show B ≤ gr from Nat.le_trans HO6.out.h5 hgr)
                            have HV7 := hid_ hwx
                            clear hb hwx hgr HO6 HRg
                            obtain ⟨p0, p1, p2, p3, p4⟩ := r5_of HV7.out
                            obtain ⟨b0, b1⟩ := b2_of HO7.out.bb
                            go_upto_region 26 with (go_at_call 34; (with_reducible refine Calls.mono (HAn.out _) ?_); rintro e w8 ⟨rfl, hb⟩; have HAx := hid_ hb; clear hb)
                            have HO8 := hid_ (HO7.out.later (HAx.out.alloc HAx.out.size (.cells #[.int .i64 5, .int .u64 1, .int .u64 (b.pos : Nat), .int .u64 (b.id : Nat), .int .u64 (r.p.pos : Nat), .int .u64 (r.p.id : Nat), .int .i64 0, .bool false, .slice none 0 0, .slice none 0 0, .slice none 0 0] 70)))
                            have HV8 := hid_ ((HV7.out.below HAx.out HV7.out.lt).alloc (.cells #[.int .i64 5, .int .u64 1, .int .u64 (b.pos : Nat), .int .u64 (b.id : Nat), .int .u64 (r.p.pos : Nat), .int .u64 (r.p.id : Nat), .int .i64 0, .bool false, .slice none 0 0, .slice none 0 0, .slice none 0 0] 70))
                            have HP8 := hid_ (whole_new w8 70 #[.int .i64 5, .int .u64 1, .int .u64 (b.pos : Nat), .int .u64 (b.id : Nat), .int .u64 (r.p.pos : Nat), .int .u64 (r.p.id : Nat), .int .i64 0, .bool false, .slice none 0 0, .slice none 0 0, .slice none 0 0])
                            have HGP := hid_ (show B ≤ w8.heap.size from Nat.le_trans HO7.out.h5 HAx.out.size)
                            have HGK := hid_ (show ∀ k, (Value.slice Ak mk ck).ownBlock = some k → k < w8.heap.size from fun k hk => Nat.lt_of_lt_of_le (HO7.out.ask.from_ k hk).2 HAx.out.size)
                            clear HAx HO7 HV7 p0 p1 p2 p3 p4 b0 b1
                            generalize w8.heap.size = gp at *
                            generalize (w8.alloc (.cells #[.int .i64 5, .int .u64 1, .int .u64 (b.pos : Nat), .int .u64 (b.id : Nat), .int .u64 (r.p.pos : Nat), .int .u64 (r.p.id : Nat), .int .i64 0, .bool false, .slice none 0 0, .slice none 0 0, .slice none 0 0] 70)) = w9 at *
                            obtain ⟨p0, p1, p2, p3, p4⟩ := r5_of HV8.out
                            have hrg := regs_at HO8.out.base.rg HXl.out
                            rw [← HR.out] at hrg
                            obtain ⟨r0, r1, r2, r3, r4⟩ := hrg
                            have fr := fun i => HO8.out.base.rg.free i
                            go_upto_region 27 with (fail)
                            have HO10 := hid_ (show OTry w (((((w9.setCell ⟨w.heap.size, x * 5, none⟩ (.int .u64 (r.p.pos : Nat))).setCell ⟨w.heap.size, x * 5 + 1, none⟩ (.int .u64 (r.p.id : Nat))).setCell ⟨w.heap.size, x * 5 + 2, none⟩ (.int .u64 (r.t.pos : Nat))).setCell ⟨w.heap.size, x * 5 + 3, none⟩ (.int .u64 (r.t.id : Nat))).setCell ⟨w.heap.size, x * 5 + 4, none⟩ (.int .i64 r.v)) B gt gb gm regs seen A6 n6 c6 chosen #[.int .u64 (t.node : Nat), .int .i64 t.want, .slice (some ⟨ga, oa, none⟩) t.ask.length ca, .slice Ab t.tell.length cb, .int .i64 t.later] b best Ak mk ck asked from by have h := HO8.out.setReg HXl.out r; rwa [show regs.set x r = regs by rw [HR.out, at_mem HXl.out, List.set_getElem_self]] at h)
                            have HP10 := hid_ (show Whole (((((w9.setCell ⟨w.heap.size, x * 5, none⟩ (.int .u64 (r.p.pos : Nat))).setCell ⟨w.heap.size, x * 5 + 1, none⟩ (.int .u64 (r.p.id : Nat))).setCell ⟨w.heap.size, x * 5 + 2, none⟩ (.int .u64 (r.t.pos : Nat))).setCell ⟨w.heap.size, x * 5 + 3, none⟩ (.int .u64 (r.t.id : Nat))).setCell ⟨w.heap.size, x * 5 + 4, none⟩ (.int .i64 r.v)) gp 70 #[.int .i64 5, .int .u64 1, .int .u64 (b.pos : Nat), .int .u64 (b.id : Nat), .int .u64 (r.p.pos : Nat), .int .u64 (r.p.id : Nat), .int .i64 0, .bool false, .slice none 0 0, .slice none 0 0, .slice none 0 0] from far5 HP8.out (by have := HO8.out.h1; have := HO8.out.h2; have := HO8.out.h3; have := HO8.out.h4; have := HGP.out; omega) _ _ _ _ _ _)
                            clear p0 p1 p2 p3 p4 r0 r1 r2 r3 r4 fr HO8 HP8 HV8
                            generalize (((((w9.setCell ⟨w.heap.size, x * 5, none⟩ (.int .u64 (r.p.pos : Nat))).setCell ⟨w.heap.size, x * 5 + 1, none⟩ (.int .u64 (r.p.id : Nat))).setCell ⟨w.heap.size, x * 5 + 2, none⟩ (.int .u64 (r.t.pos : Nat))).setCell ⟨w.heap.size, x * 5 + 3, none⟩ (.int .u64 (r.t.id : Nat))).setCell ⟨w.heap.size, x * 5 + 4, none⟩ (.int .i64 r.v)) = w10 at *
                            have q4 := HP10.out.cell 4 (.int .u64 (r.p.pos : Nat)) rfl
                            have q5 := HP10.out.cell 5 (.int .u64 (r.p.id : Nat)) rfl
                            obtain ⟨s0, s1⟩ := b2_of HO10.out.base.sn
                            have HMx := hid_ (fun (A : Option Addr) (W : World) (h : ptE.Row W A 2 2 [seen, r.p]) => rmax_any A 2 2 [seen, r.p] W h)
                            have HMp := hid_ (show (maxF [seen, r.p]).pos ≤ i + 1 from Nat.le_trans (max_two _ _) (by have := HI.out.lows; have := HLw.out; omega))
                            generalize maxF [seen, r.p] = m at *
                            go_wp2_with fail
                            (with_reducible refine Calls.mono (HMx.out _ _ (bal_lit2 _ _ _ _ _ rfl)) ?_)
                            rintro e w11 ⟨rfl, hb⟩
                            have HO11 := hid_ (HO10.out.later (((Below.refl _ _).alloc (Nat.le_refl _) (.cells #[.int .u64 (seen.pos : Nat), .int .u64 (seen.id : Nat), .int .u64 (r.p.pos : Nat), .int .u64 (r.p.id : Nat)] 50)).trans (hb.mono (by simp))))
                            clear hb s0 s1 q4 q5 HO10 HP10
                            obtain ⟨s0, s1⟩ := b2_of HO11.out.base.sn
                            have f0 := HO11.out.base.sn.free 0
                            have f1 := HO11.out.base.sn.free 1
                            go_wp2_with fail
                            go_roundw
                            case rel => exact ⟨j + 1, Ak, mk, ck, regs, m, asked, best, v, by have := HJ.out; omega, by have := HJ.out; omega, by go_num, rfl, rfl, hid_ (HO11.out.setSeen m), hid_ (HI.out.sees HMp.out), HA, HZ⟩
                            case measure => have := HJ.out; simp [intOf]; omega
                    · obtain rfl : j = t.ask.length := by omega
                      have HAk := hid_ HO.out.ask.len
                      have HMj := hid_ hmj
                      have hn7 := HN.out.2
                      have hbd := HAT.out.1
                      have hbd2 := HAT.out.2
                      have hwm : IntKind.i64.wrap (2 * (mk : Int)) = 2 * (mk : Int) := IntWalk.i64_in _ (by omega)
                      have t2 := HO.out.tr.cell 2 (.slice Aa t.ask.length ca) rfl
                      have t3 := HO.out.tr.cell 3 (.slice Ab t.tell.length cb) rfl
                      obtain ⟨b0, b1⟩ := b2_of HO.out.bb
                      by_cases hq : 2 * mk ≤ n
                      · as_aux_lemma =>
                        have e1 : decide (2 * (mk : Int) ≤ (n : Int)) = true := decide_eq_true (by omega)
                        clear hq hmj
                        go_wp2_with fail
                        go_quiet (fail)
                        go_wp2_with fail
                        go_roundw
                        case rel => first | exact ⟨i + 1, A6, n6, c6, regs, seen, chosen, W, by have := HK.out; omega, by have := HK.out; omega, by go_num, rfl, hid_ (HO.out.base.later (below_drewN (Below.refl _ _) _)), HI⟩ | ((repeat apply Exists.intro); exact ⟨⟨i + 1, A6, n6, c6, regs, seen, chosen, W, by have := HK.out; omega, by have := HK.out; omega, by go_num, rfl, hid_ (HO.out.base.later (below_drewN (Below.refl _ _) _)), HI⟩, rfl⟩)
                        case measure => have := HK.out; simp [intOf]; omega
                      · as_aux_lemma =>
                        have e1 : decide (2 * (mk : Int) ≤ (n : Int)) = false := decide_eq_false (by omega)
                        have HBig := hid_ (show n < 2 * asked.length by rw [HAk.out]; omega)
                        have hi1 := HK.out.1
                        have hi2 : (i : Int) ≤ (c1 : Int) := by have := HT.out.cap; omega
                        have hi3 : (0 : Int) ≤ (i : Int) := by omega
                        have hi4 : i ≤ c1 := by omega
                        have hi5 : i ≤ 1000 := by have := HN1.out; omega
                        clear hq hmj
                        go_wp2_with fail
                        obtain ⟨wr, hwr⟩ : ∃ w9 : World, w9 = wr := ⟨_, rfl⟩
                        subst hwr
                        have S0 : BIn wr gb b wr := ⟨Below.refl _ _, b0, b1⟩
                        have HS0 := hid_ S0
                        have HBr := hid_ (Below.refl wr.heap.size wr)
                        have HUs := hid_ (fun (W : World) (hb : Below wr.heap.size wr W) => used_any (some ⟨g1, o1, none⟩) i c1 (by omega) (some ⟨w.heap.size, 0, none⟩) n n regs b W (regs_row (HO.out.base.rg.below hb HO.out.base.rg.lt) HI.out.len (by omega)))
                        clear b0 b1
                        go_region_held3 (BIn wr gb b) (first | (with_reducible assumption) | (with_reducible exact bIn_of HS0.out hbv) | (with_reducible exact bIn_of HS0.out (Below.drew (Below.refl _ _))) | fail)
                          (first
                            | (go_at_call 42; (with_reducible refine Calls.mono (HUs.out _ ?_) ?_); (first | exact Below.drew (Below.refl _ _) | exact Below.refl _ _); rintro e wp ⟨u, rfl, hu, hbp⟩; (first | (with_reducible have hbv := chain0 HBr.out hbp) | (with_reducible have hbv := chainD HBr.out hbp)))
                            | fail)
                        obtain ⟨w10, hw10⟩ : ∃ w10 : World, w10 = wp := ⟨_, rfl⟩
                        subst hw10
                        have HOu := hid_ (HO.out.later hbv)
                        have HU := hid_ hu
                        clear hu hbp hbv t2 t3
                        cases u
                        · have HTe := hid_ (tells_of HI.out HA.out HW.out HBi.out.2 HBig.out (fun x hx => by
                            have hxl : x < regs.length := by rw [HI.out.len]; exact hx
                            rw [at_mem hxl]
                            exact HU.out rfl _ (List.getElem_mem hxl)))
                          have t3 := HOu.out.tr.cell 3 (.slice Ab t.tell.length cb) rfl
                          go_wp2_with fail
                          clear t3
                          go_loopw [20] (fun v20 wr => ∃ (j : Nat) (regs : List RegD) (W2 : Nat → BalD → Int → Prop), j ≤ t.tell.length ∧ v20 = .int .i64 (j : Nat) ∧ Hid (OTry w wr B gt gb gm regs seen A6 n6 c6 chosen #[.int .u64 (t.node : Nat), .int .i64 t.want, .slice Aa t.ask.length ca, .slice Ab t.tell.length cb, .int .i64 t.later] b best Ak mk ck asked) ∧ Hid (Inv n (i + 1) regs seen W2 chosen) ∧ Hid (Tells n b v regs W2)) (fun v20 _ => t.tell.length - (intOf v20).toNat)
                          case atStart => exact ⟨0, regs, W, Nat.zero_le _, rfl, HOu, HI, HTe⟩
                          case round =>
                            clear HO HOu HI HTe HA HZ HU HBig hwm e1
                            obtain ⟨j, regs, W2, hj, rfl, HO, HI, HTe⟩ := hrel
                            have hbd3 := HAT.out.2
                            by_cases hlt : j < t.tell.length
                            · obtain ⟨ga, oa, hAb, hga, k0⟩ := ver_at (HTA.out.sb.below HO.out.base.bl) hlt
                              obtain rfl := hAb
                              have t3 := HO.out.tr.cell 3 (.slice (some ⟨ga, oa, none⟩) t.tell.length cb) rfl
                              have HJ := hid_ hlt
                              have y1 : (j : Int) < (t.tell.length : Int) := by omega
                              have y2 : (0 : Int) ≤ (j : Int) := by omega
                              generalize t.tell[j] = z at *
                              clear hlt hga
                              by_cases hz1 : z < 0
                              · as_aux_lemma =>
                                have e1 : decide (z ≥ 0) = false := decide_eq_false (by omega)
                                have e2 : decide (0 ≤ z) = false := decide_eq_false (by omega)
                                clear hz1
                                go_wp2_with fail
                                go_roundw
                                case rel => exact ⟨j + 1, regs, W2, by have := HJ.out; omega, by go_num, HO, HI, HTe⟩
                                case measure => have := HJ.out; simp [intOf]; omega
                              have e1 : decide (z ≥ 0) = true := decide_eq_true (by omega)
                              have e2 : decide (0 ≤ z) = true := decide_eq_true (by omega)
                              by_cases hz2 : (n : Int) ≤ z
                              · as_aux_lemma =>
                                have e3 : decide (z < (n : Int)) = false := decide_eq_false (by omega)
                                clear hz1 hz2
                                go_wp2_with fail
                                go_roundw
                                case rel => exact ⟨j + 1, regs, W2, by have := HJ.out; omega, by go_num, HO, HI, HTe⟩
                                case measure => have := HJ.out; simp [intOf]; omega
                              obtain ⟨x, rfl⟩ : ∃ x : Nat, z = (x : Int) := ⟨z.toNat, by omega⟩
                              have e3 : decide ((x : Int) < (n : Int)) = true := decide_eq_true (by omega)
                              have e4 : decide (x < n) = true := decide_eq_true (by omega)
                              have HXn := hid_ (show x < n by omega)
                              have y3 : (x : Int) < (n : Int) := by omega
                              have y4 : (0 : Int) ≤ (x : Int) := by omega
                              clear hz1 hz2
                              have hxl : x < regs.length := by rw [HI.out.len]; exact HXn.out
                              have HXl := hid_ hxl
                              obtain ⟨w6, hw6⟩ : ∃ w6 : World, w6 = wr := ⟨_, rfl⟩
                              subst hw6
                              have HRg := hid_ (regs_at HO.out.base.rg hxl)
                              have HAc := hid_ (fun (W : World) => accept_any (regAt regs x) b v W)
                              obtain ⟨W3, hi3, ht3⟩ := HI.out.tells HTe.out HBi.out.1 HXn.out
                              have HI3 := hid_ hi3
                              have HT3 := hid_ ht3
                              obtain ⟨r, hr⟩ : ∃ r, r = regAt regs x := ⟨_, rfl⟩
                              have HR := hid_ hr
                              rw [← hr] at HRg HAc HI3 HT3
                              clear hxl hr hi3 ht3
                              generalize accD r b v = y at *
                              generalize takesB r b v = k at *
                              go_upto_region 38 with (fail)
                              go_cut [22, 23] from 190 to 198 (fun v17 v18 wx => KeptR w6 54 y k v17 v18 wx)
                              case first => as_aux_lemma =>
                                have S0 : RoIn w6 w.heap.size (x * 5) r gb b w6 := ⟨Below.refl _ _, HRg.out, b2_of HO.out.bb⟩
                                have HS0 := hid_ S0
                                have HBr := hid_ (Below.refl w6.heap.size w6)
                                go_region_held3 (RoIn w6 w.heap.size (x * 5) r gb b) (first | (with_reducible assumption) | (with_reducible exact roIn_of HS0.out hbv) | (with_reducible exact roIn_of HS0.out (below_set5 hbv (Nat.le_refl _) _ _ _ _ _)) | (with_reducible exact roIn_of HS0.out (Below.alloc hbv (Below.size hbv) _)) | (with_reducible exact roIn_of HS0.out (Below.drew (Below.refl _ _))) | (with_reducible exact roIn_of HS0.out (Below.alloc (Below.drew (Below.refl _ _)) (Nat.le_refl _) _)) | (with_reducible exact roIn_of HS0.out (Below.drew (Below.alloc (Below.refl _ _) (Nat.le_refl _) _))) | (with_reducible exact roIn_of HS0.out (Below.alloc (Below.refl _ _) (Nat.le_refl _) _)) | fail)
                                  (first
                                    | (go_at_call 28; (with_reducible refine Calls.mono (HAc.out _) ?_); rintro e wp ⟨rfl, hbp⟩; (first | (with_reducible have hbv := chain0 HBr.out hbp) | (with_reducible have hbv := chainD HBr.out hbp) | (with_reducible have hbv := chainA HBr.out hbp; with_reducible have hz2 := whole_past hbp; have n0 := hz2.cell 0 (.int .u64 0) rfl; have n1 := hz2.cell 1 (.int .u64 0) rfl; have n2 := hz2.cell 2 (.int .u64 0) rfl; have n3 := hz2.cell 3 (.int .u64 0) rfl; have n4 := hz2.cell 4 (.int .i64 0) rfl; have f0 := hz2.free 0; have f1 := hz2.free 1; have f2 := hz2.free 2; have f3 := hz2.free 3; have f4 := hz2.free 4) | (with_reducible have hbv := chainAD HBr.out hbp; with_reducible have hz2 := whole_pastD hbp; have n0 := hz2.cell 0 (.int .u64 0) rfl; have n1 := hz2.cell 1 (.int .u64 0) rfl; have n2 := hz2.cell 2 (.int .u64 0) rfl; have n3 := hz2.cell 3 (.int .u64 0) rfl; have n4 := hz2.cell 4 (.int .i64 0) rfl; have f0 := hz2.free 0; have f1 := hz2.free 1; have f2 := hz2.free 2; have f3 := hz2.free 3; have f4 := hz2.free 4) | (with_reducible have hbv := chainDA HBr.out hbp; with_reducible have hz2 := whole_past hbp; have n0 := hz2.cell 0 (.int .u64 0) rfl; have n1 := hz2.cell 1 (.int .u64 0) rfl; have n2 := hz2.cell 2 (.int .u64 0) rfl; have n3 := hz2.cell 3 (.int .u64 0) rfl; have n4 := hz2.cell 4 (.int .i64 0) rfl; have f0 := hz2.free 0; have f1 := hz2.free 1; have f2 := hz2.free 2; have f3 := hz2.free 3; have f4 := hz2.free 4)))
                                    | fail)
                                all_goals
                                  go_wp2_with fail
                                  go_meet
                                  first
                                    | (with_reducible exact keptR_mk rfl (Below.size hbv) (whole_new _ _ _) (Below.alloc hbv (Below.size hbv) _))
                                    | (with_reducible exact keptR_mk rfl (Nat.le_refl _) (whole_set5 hz2 _ _ _ _ _) (below_set5 hbv (Nat.le_refl _) _ _ _ _ _))
                                    | fail
                              case rest => as_aux_lemma =>
                                obtain ⟨gr, rfl, rfl, hgr, hwx, hb⟩ := hcut
                                obtain ⟨w7, rfl⟩ : ∃ w7 : World, w7 = wc := ⟨_, rfl⟩
                                have HO7 := hid_ (HO.out.later hb)
                                have HV7 := hid_ hwx
                                clear hb hwx hgr HRg
                                obtain ⟨p0, p1, p2, p3, p4⟩ := r5_of HV7.out
                                have hrg := regs_at HO7.out.base.rg HXl.out
                                rw [← HR.out] at hrg
                                obtain ⟨r0, r1, r2, r3, r4⟩ := hrg
                                have fr := fun i => HO7.out.base.rg.free i
                                go_wp2_with fail
                                go_roundw
                                case rel => exact ⟨j + 1, regs.set x y, W3, by have := HJ.out; omega, by go_num, hid_ (HO7.out.setReg HXl.out y), HI3, HT3⟩
                                case measure => have := HJ.out; simp [intOf]; omega
                            · obtain rfl : j = t.tell.length := by omega
                              have t3 := HO.out.tr.cell 3 (.slice Ab t.tell.length cb) rfl
                              have hn7 := HN.out.2
                              have HMs := hid_ (fun (W : World) (hb : Below wr.heap.size wr W) => most_any (some ⟨w.heap.size, 0, none⟩) n n (by omega) regs W (regs_row (HO.out.base.rg.below hb HO.out.base.rg.lt) HI.out.len (by omega)))
                              go_wp2_with fail
                              (with_reducible refine Calls.mono (HMs.out _ (Below.refl _ _)) ?_)
                              rintro e w12 ⟨c, rfl, hc, hb⟩
                              have HOz := hid_ (HO.out.base.later hb)
                              have HC := hid_ hc
                              clear hb hc t3 HMs HO
                              by_cases hc0 : c = 0
                              · have e1 : (c != 0) = false := by rw [hc0]; rfl
                                have HNi := hid_ HK.out.2
                                have HCl := hid_ HOz.out.cho.len
                                clear hc0 HC
                                go_wp2_with fail
                                as_aux_lemma =>
                                  go_loopw [25] (fun v25 wr => ∃ j : Nat, 1 ≤ j ∧ j ≤ n6 + 1 ∧ v25 = .int .i64 (j : Nat) ∧ Hid (OBase w wr regs seen A6 n6 c6 (chosen))) (fun v25 _ => n6 + 1 - (intOf v25).toNat)
                                  case atStart => exact ⟨1, Nat.le_refl _, by omega, rfl, HOz⟩
                                  case round =>
                                    obtain ⟨j, hj1, hj, rfl, HOw⟩ := hrel
                                    have hni := HNi.out
                                    have hn1 := HN1.out
                                    have hk1 := HK.out
                                    by_cases hlt : j < n6
                                    · have hjl : j < (chosen).length := by rw [HCl.out]; exact hlt
                                      have h0l : 0 < (chosen).length := by omega
                                      obtain ⟨g, off, hgA, hgl, k0⟩ := ver_at HOw.out.cho.row hjl
                                      obtain ⟨g', off', hgA', hgl', k1⟩ := ver_at HOw.out.cho.row h0l
                                      have hgg := hgA.symm.trans hgA'
                                      injection hgg with hgg
                                      injection hgg with hgg1 hgg2
                                      subst hgg1 hgg2
                                      have hsame : (chosen)[j] = (chosen)[0] := HI.out.one (List.getElem_mem hjl) (List.getElem_mem h0l)
                                      rw [hsame] at k0
                                      rw [Nat.add_zero] at k1
                                      have HJ := hid_ (And.intro hlt hj1)
                                      have y1 : (j : Int) < (n6 : Int) := by omega
                                      have y2 : (0 : Int) ≤ (j : Int) := by omega
                                      have y3 : (0 : Int) < (n6 : Int) := by omega
                                      have y5 : 0 < n6 := by omega
                                      have y6 : decide (j < n6) = true := decide_eq_true hlt
                                      generalize (chosen)[0] = c0 at *
                                      have hc0 : (c0 != c0) = false := by simp
                                      clear hlt hjl h0l hgl hgl' hsame hgA'
                                      subst hgA
                                      go_wp2_with fail
                                      go_quiet (fail)
                                      go_wp2_with fail
                                      go_roundw
                                      case rel => exact ⟨j + 1, by omega, by have := HJ.out; omega, by go_num, hid_ (HOw.out.later (below_drewN (Below.refl _ _) _))⟩
                                      case measure => have := HJ.out; simp [intOf]; omega
                                    · have y1 : decide ((j : Int) < (n6 : Int)) = false := decide_eq_false (by omega)
                                      have y2 : decide (j < n6) = false := decide_eq_false hlt
                                      clear hlt
                                      go_wp2_with fail
                                      go_roundw
                                      case rel => first | exact ⟨i + 1, A6, n6, c6, regs, seen, chosen, W2, by have := HK.out; omega, by have := HNi.out; omega, by go_num, rfl, HOw, HI⟩ | ((repeat apply Exists.intro); exact ⟨⟨i + 1, A6, n6, c6, regs, seen, chosen, W2, by have := HK.out; omega, by have := HNi.out; omega, by go_num, rfl, HOw, HI⟩, rfl⟩)
                                      case measure => have := HK.out; simp [intOf]; omega
                              · have e1 : (c != 0) = true := by rw [bne_iff_ne]; exact hc0
                                have HI5 := hid_ (by obtain ⟨t5, M5, hM5, hm5⟩ := HC.out hc0; exact HI.out.takes hM5 hm5 : Inv n (i + 1) regs seen W2 (chosen ++ [c]))
                                have hk1 := HK.out
                                have hn1 := HN1.out
                                have HOa := hid_ (HOz.out.later ((Below.refl _ _).alloc (Nat.le_refl _) (.cells #[.int .i64 c] 51)))
                                clear hc0 HC HI
                                go_wp2_with (first | (at_builtin; refine Enc.wpList_rows (E := verE) (e := 51) rfl (.tmp 207) (.tmp 209) 80 rfl _ 8 Try.underlying80 info_ver rfl (w.heap.size + 2) A6 n6 c6 chosen rfl HOa.out.cho (some ⟨w12.heap.size, 0, none⟩) 1 1 [c] rfl (Enc.row_new (E := verE) w12 c _ rfl _) (n6 + 1) _ rfl rfl (by omega) (by omega) (by have := HOa.out.sn.lt; omega) ?_; intro A7 c7 w13 ho5 hb5 hg5 hat5; have HO13 := hid_ (show OBase w w13 regs seen A7 (n6 + 1) c7 (chosen ++ [c]) from ⟨HOa.out.bl.trans (hb5.mono (by omega)), HOa.out.rg.below hb5 (by omega), HOa.out.sn.below hb5 (by omega), ho5⟩); clear ho5 hb5 hg5 hat5) | fail)
                                have HNi := hid_ (show n6 + 1 ≤ i + 1 by omega)
                                have HCl := hid_ HO13.out.cho.len
                                clear HOa HOz hk1 hn1
                                as_aux_lemma =>
                                  go_loopw [25] (fun v25 wr => ∃ j : Nat, 1 ≤ j ∧ j ≤ (n6 + 1) + 1 ∧ v25 = .int .i64 (j : Nat) ∧ Hid (OBase w wr regs seen A7 (n6 + 1) c7 (chosen ++ [c]))) (fun v25 _ => (n6 + 1) + 1 - (intOf v25).toNat)
                                  case atStart => exact ⟨1, Nat.le_refl _, by omega, rfl, HO13⟩
                                  case round =>
                                    obtain ⟨j, hj1, hj, rfl, HOw⟩ := hrel
                                    have hni := HNi.out
                                    have hn1 := HN1.out
                                    have hk1 := HK.out
                                    by_cases hlt : j < (n6 + 1)
                                    · have hjl : j < (chosen ++ [c]).length := by rw [HCl.out]; exact hlt
                                      have h0l : 0 < (chosen ++ [c]).length := by omega
                                      obtain ⟨g, off, hgA, hgl, k0⟩ := ver_at HOw.out.cho.row hjl
                                      obtain ⟨g', off', hgA', hgl', k1⟩ := ver_at HOw.out.cho.row h0l
                                      have hgg := hgA.symm.trans hgA'
                                      injection hgg with hgg
                                      injection hgg with hgg1 hgg2
                                      subst hgg1 hgg2
                                      have hsame : (chosen ++ [c])[j] = (chosen ++ [c])[0] := HI5.out.one (List.getElem_mem hjl) (List.getElem_mem h0l)
                                      rw [hsame] at k0
                                      rw [Nat.add_zero] at k1
                                      have HJ := hid_ (And.intro hlt hj1)
                                      have y1 : (j : Int) < ((n6 + 1) : Int) := by omega
                                      have y2 : (0 : Int) ≤ (j : Int) := by omega
                                      have y3 : (0 : Int) < ((n6 + 1) : Int) := by omega
                                      have y5 : 0 < (n6 + 1) := by omega
                                      have y6 : decide (j < (n6 + 1)) = true := decide_eq_true hlt
                                      generalize (chosen ++ [c])[0] = c0 at *
                                      have hc0 : (c0 != c0) = false := by simp
                                      clear hlt hjl h0l hgl hgl' hsame hgA'
                                      subst hgA
                                      go_wp2_with fail
                                      go_quiet (fail)
                                      go_wp2_with fail
                                      go_roundw
                                      case rel => exact ⟨j + 1, by omega, by have := HJ.out; omega, by go_num, hid_ (HOw.out.later (below_drewN (Below.refl _ _) _))⟩
                                      case measure => have := HJ.out; simp [intOf]; omega
                                    · have y1 : decide ((j : Int) < ((n6 + 1) : Int)) = false := decide_eq_false (by omega)
                                      have y2 : decide (j < (n6 + 1)) = false := decide_eq_false hlt
                                      clear hlt
                                      go_wp2_with fail
                                      go_roundw
                                      case rel => first | exact ⟨i + 1, A7, (n6 + 1), c7, regs, seen, chosen ++ [c], W2, by have := HK.out; omega, by have := HNi.out; omega, by go_num, rfl, HOw, HI5⟩ | ((repeat apply Exists.intro); exact ⟨⟨i + 1, A7, (n6 + 1), c7, regs, seen, chosen ++ [c], W2, by have := HK.out; omega, by have := HNi.out; omega, by go_num, rfl, HOw, HI5⟩, rfl⟩)
                                      case measure => have := HK.out; simp [intOf]; omega
                        · skip
                          go_wp2_with fail
                          go_roundw
                          case rel => first | exact ⟨i + 1, A6, n6, c6, regs, seen, chosen, W, by have := HK.out; omega, by have := HK.out; omega, by go_num, rfl, hid_ HOu.out.base, HI⟩ | ((repeat apply Exists.intro); exact ⟨⟨i + 1, A6, n6, c6, regs, seen, chosen, W, by have := HK.out; omega, by have := HK.out; omega, by go_num, rfl, hid_ HOu.out.base, HI⟩, rfl⟩)
                          case measure => have := HK.out; simp [intOf]; omega
    · obtain rfl : i = n1 := by omega
      go_wp2_with fail
      (with_reducible refine Calls.mono (HAl.out _) ?_)
      rintro e wz ⟨rfl, hbz⟩
      have HBz := hid_ (HB.out.bl.trans (hbz.mono HB.out.bl.size))
      clear hbz
      go_wp2_with fail
      go_ret
      exact ⟨rfl, HBz.out⟩

set_option maxRecDepth 100000 in
theorem lifted (os : Os) (started : os.Started) (H : Type) (enc : TypeId × Value → H) :
    ReturnsInHanded {} Try.checked os 9 .any (Rows.registerOnceSpec.pre6 enc Try.prog Try.f9 Rows.registerOnceRow.domain false) (Rows.registerOnceSpec.post enc Try.prog Try.f9 false true false false) := by
  refine returnsInHanded_of_change (C := Try.checked) own started (by kernel_rfl) Try.func9
    (ChangeSpec.witness6 (enc := enc) (C := Try.checked) false ⟨#[], #[.int .i64 0, .slice none 0 0], []⟩ 8 (by kernel_rfl) (by kernel_rfl) (by kernel_rfl) (by kernel_rfl)) ?_
  intro W base args ds gs before hval0 hW hcnd _
  have hval : ∀ (j : Nat) t v, Try.f9.params[j]? = some t → args[j]? = some v → Value.okWide Try.prog W .any base t v := hval0
  have hW' := hW
  obtain ⟨p, q, hA0, hV, rfl, hfz, hnd⟩ := hW
  have hA : DataW.TrodAll enc Try.prog W 0 (fun _ => true) true Try.f9.params.toList args.toList ds p := hA0
  rw [Try.params9] at hA hval
  obtain ⟨v0, vs0, d0, ds0, p0, q0, hargs, rfl, rfl, h0, r0⟩ := trodAll_cons hA
  obtain ⟨v1, vs1, d1, ds1, p1, q1, rfl, rfl, rfl, h1, r1⟩ := trodAll_cons r0
  obtain ⟨rfl, rfl, rfl⟩ := trodAll_nil r1
  obtain rfl : args = #[v0, v1] := by cases args; simp_all
  obtain ⟨rfl, rfl⟩ := trodVars_none hV
  obtain ⟨a0, rfl, rfl, rfl, w0⟩ := open_int Try.underlying3 (hval 0 3 v0 rfl rfl) h0
  have k1 := h1
  have lt1 : ∀ x ∈ p1, x.block < W.heap.size := by obtain ⟨m, hm⟩ := k1; exact DataW.trod_lt m _ _ _ hm
  have w1 : Re.TriesV W v1 := Re.open_triesV (hval 1 78 v1 rfl rfl) h1
  clear hA0 hval0
  refine (walk a0 v1 W w0 w1).mono fun e W' ⟨he, bel⟩ => ?_
  subst he
  exact ⟨_, rfl, _, _, _, [], _, [], hW', trodAll_mk1 (shut_bool Try.underlying4 _), (trodAll_cons_mk (shut_int Try.underlying3 w0) (trodAll_cons_mk (Below.trod laidOut (by kernel_rfl) (of_decide_eq_true (by kernel_rfl)) k1 bel lt1) trodAll_mk0)), rfl, bel.frame _, fun h => by cases h⟩

theorem over : Rows.registerOnceRow.holds Try.pinned (OpenSpec.ofChange Rows.registerOnceSpec) :=
  OpenClaim.holds_of_wide 9 Try.f9 rfl rfl rfl rfl rfl rfl rfl ⟨rfl, rfl, rfl, rfl, rfl⟩ rfl rfl rfl rfl rfl (by kernel_rfl) Try.func9 (by kernel_rfl)
    (of_decide_eq_true (by kernel_rfl)) (by unfold Func.isWrapper; first | (rw [if_pos (by decide +kernel)]; kernel_rfl) | (rw [if_neg (by decide +kernel)]; exact ⟨rfl, rfl⟩))
    (fun os started H enc _ => lifted os started H enc)

theorem proved : Rows.RegisterOnceSaid := over
#print axioms proved
end Go.Proofs.Ytljlhaillmeedaa.registerOnce
