/-
  RingMoves: between whatever two rings (lists of at most 100 points that rise; of others only the chapter's example is asked) the arcs that move are the document's; no condition on the input.
  The frame round the walk is written by the guide's own program for this statement.
-/
import Derived.Test.YtgmeggilojcoeaaZGRF
import Derived.Test.YtgmeggilojcoeaaZRefMoved
import Derived.Test.YtgmeggilojcoeaaRows
import Derived.WalkKit
import Derived.ProofKit
import Derived.OpenShut
import Derived.ShutString
import Derived.ChangeOld
import Derived.Below
namespace Go.Proofs.Ytgmeggilojcoeaa.ringMoves
set_option linter.unusedSimpArgs false
set_option linter.unusedVariables false
open Go.ChangeShapes Go.WideShapes Go.ChangeAt Go.RowKit
open Go.ChangeMaps (open_string shut_string)
set_option linter.unusedVariables false

theorem own : ownKnob Try.prog.godebug = none := by kernel_rfl
theorem laidOut : laidOutB Try.prog = true := by kernel_rfl

/-- WHAT THE WALK IS TOLD OF A SLICE OF INTEGERS THAT CAME IN: it is nil; or it leads to a row of 'cap' cells, the numbers 'zs' (the first 'len' are its elements, the rest its spare room), each fitting its kind. -/
def IsRow (k : IntKind) (w : World) (a : Option Addr) (len cap : Nat) (zs : List Int) : Prop :=
  (a = none ∧ len = 0 ∧ cap = 0 ∧ zs = []) ∨
  ∃ x, a = some x ∧ len ≤ cap ∧ cap ≤ maxLen ∧ zs.length = cap ∧ (∀ i, i < zs.length → w.cell? (x.add i) = some (.int k (zs.getD i 0))) ∧ ∀ n ∈ zs, (Lit.int k n).wf = true

open Rg
theorem moved_same {w1 w2 : World} {a b : List PtD} {l l' : List Nat} {r r' : List ArcD} (h1 : Rg.Ends 18446744073709551616 a b l) (h2 : movedF 18446744073709551616 (ownF a) (ownF b) 0 l [] = r) (h3 : Rg.Ends 18446744073709551616 a b l') (h4 : movedF 18446744073709551616 (ownF a) (ownF b) 0 l' [] = r') : r = r' := by
  rw [← h2, ← h4, ends_uniq h1 h3]
set_option maxRecDepth 100000 in
set_option maxHeartbeats 16000000 in
theorem walk (v0 : Value) (v1 : Value) (w : World) (w0 : Rg.PtsV w v0) (w1 : Rg.PtsV w v1) :
    Calls Try.prog 7 #[v0, v1] w fun e w' => e = .returned (.bool true) ∧ Below w.heap.size w w' := by
  obtain ⟨A, n, c, a, rfl, ha, hwa⟩ := w0
  obtain ⟨A', n', c', b, rfl, hb, hwb⟩ := w1
  have HA := hid_ ha
  have HB := hid_ hb
  have hle1 := ha.le
  have hle2 := hb.le
  have HWA := hid_ (fun p hp => (hwa p hp).1)
  have HWB := hid_ (fun p hp => (hwb p hp).1)
  clear ha hb hwa hwb
  by_cases h1 : 100 < n
  · have q0 : decide ((n : Int) > 100) = true := decide_eq_true (by omega)
    have r0 : decide ((100 : Int) < (n : Int)) = true := decide_eq_true (by omega)
    have s0 : decide (100 < n) = true := decide_eq_true h1
    clear h1
    go_enter Try.func7, Try.ntmps7
    go_wp2_with fail
    (with_reducible refine Calls.mono (alive_any _) ?_)
    rintro e wz ⟨rfl, hbz⟩
    have HBz := hid_ ((Below.refl w.heap.size w).trans (hbz.mono (Below.refl w.heap.size w).size))
    clear hbz
    go_wp2_with fail
    go_ret
    exact ⟨rfl, HBz.out⟩
  have q0 : decide ((n : Int) > 100) = false := decide_eq_false (by omega)
  have r0 : decide ((100 : Int) < (n : Int)) = false := decide_eq_false (by omega)
  have s0 : decide (100 < n) = false := decide_eq_false h1
  by_cases h2 : 100 < n'
  · have q1 : decide ((n' : Int) > 100) = true := decide_eq_true (by omega)
    have r1 : decide ((100 : Int) < (n' : Int)) = true := decide_eq_true (by omega)
    have s1 : decide (100 < n') = true := decide_eq_true h2
    clear h1 h2
    go_enter Try.func7, Try.ntmps7
    go_wp2_with fail
    (with_reducible refine Calls.mono (alive_any _) ?_)
    rintro e wz ⟨rfl, hbz⟩
    have HBz := hid_ ((Below.refl w.heap.size w).trans (hbz.mono (Below.refl w.heap.size w).size))
    clear hbz
    go_wp2_with fail
    go_ret
    exact ⟨rfl, HBz.out⟩
  have q1 : decide ((n' : Int) > 100) = false := decide_eq_false (by omega)
  have r1 : decide ((100 : Int) < (n' : Int)) = false := decide_eq_false (by omega)
  have s1 : decide (100 < n') = false := decide_eq_false h2
  have HN := hid_ (And.intro h1 h2)
  clear h1 h2
  have HRa := hid_ (rises_any A n c a w HA.out)
  go_enter Try.func7, Try.ntmps7
  go_wp2_with fail
  (with_reducible refine Calls.mono HRa.out ?_)
  rintro e w1 ⟨z, rfl, hs, hb1⟩
  have HS := hid_ hs
  have HB1 := hid_ hb1
  clear hs hb1
  cases z
  · skip
    go_wp2_with fail
    (with_reducible refine Calls.mono (alive_any _) ?_)
    rintro e wz ⟨rfl, hbz⟩
    have HBz := hid_ (HB1.out.trans (hbz.mono HB1.out.size))
    clear hbz
    go_wp2_with fail
    go_ret
    exact ⟨rfl, HBz.out⟩
  have HSa := hid_ (HS.out rfl)
  clear HS
  have HRb := hid_ (rises_any A' n' c' b w1 (HB.out.below HB1.out))
  go_wp2_with fail
  (with_reducible refine Calls.mono HRb.out ?_)
  rintro e w2 ⟨z, rfl, hs, hb2⟩
  have HS := hid_ hs
  have HB2 := hid_ (HB1.out.trans (hb2.mono HB1.out.size))
  clear hs hb2
  cases z
  · skip
    go_wp2_with fail
    (with_reducible refine Calls.mono (alive_any _) ?_)
    rintro e wz ⟨rfl, hbz⟩
    have HBz := hid_ (HB2.out.trans (hbz.mono HB2.out.size))
    clear hbz
    go_wp2_with fail
    go_ret
    exact ⟨rfl, HBz.out⟩
  have HSb := hid_ (HS.out rfl)
  clear HS
  have HOa := hid_ (own_any A n c a w2 (HA.out.below HB2.out) (by have := HN.out; omega))
  go_wp2_with fail
  (with_reducible refine Calls.mono HOa.out ?_)
  rintro e w3 ⟨A3, n3, c3, rfl, hr3, hb3⟩
  have hn3 : n3 = n := by rw [← hr3.len, HA.out.len]
  subst hn3
  have HR3 := hid_ hr3
  have HB3 := hid_ (HB2.out.trans (hb3.mono HB2.out.size))
  clear hr3 hb3
  have HOb := hid_ (own_any A' n' c' b w3 (HB.out.below HB3.out) (by have := HN.out; omega))
  go_wp2_with fail
  (with_reducible refine Calls.mono HOb.out ?_)
  rintro e w4 ⟨A4, n4, c4, rfl, hr4, hb4⟩
  have hn4 : n4 = n' := by rw [← hr4.len, HB.out.len]
  subst hn4
  have HR4 := hid_ hr4
  have HR34 := hid_ (HR3.out.below hb4)
  have HB4 := hid_ (HB3.out.trans (hb4.mono HB3.out.size))
  clear hr4 hb4
  have HM := hid_ (moved_any A3 A4 n3 n4 c3 c4 a b w4 HR34.out HR4.out (by have := HN.out; omega) (by have := HN.out; omega) HSa.out HSb.out)
  go_wp2_with fail
  (with_reducible refine Calls.mono HM.out ?_)
  rintro e w5 ⟨l, r, A5, n5, c5, rfl, hr5, hb5, he5, hm5, -⟩
  have HB5 := hid_ (HB4.out.trans (hb5.mono HB4.out.size))
  have HR5 := hid_ hr5
  have HE5 := hid_ (And.intro he5 hm5)
  clear hr5 hb5 he5 hm5
  have HMr := hid_ (rmoved_any A A' n3 n4 c c' a b w5 (HA.out.below HB5.out) (HB.out.below HB5.out) (by have := HN.out; omega) (by have := HN.out; omega) HWA.out HWB.out)
  go_wp2_with fail
  (with_reducible refine Calls.mono HMr.out ?_)
  rintro e w6 ⟨l', r', A6, n6, c6, rfl, hr6, hb6, he6, hm6⟩
  have HB6 := hid_ (HB5.out.trans (hb6.mono HB5.out.size))
  obtain rfl : r = r' := moved_same (w1 := w5) (w2 := w6) HE5.out.1 HE5.out.2 he6 hm6
  have HR6 := hid_ hr6
  have HR56 := hid_ (HR5.out.below hb6)
  have hn : n6 = n5 := by rw [← hr6.len, HR5.out.len]
  subst hn
  have hle5 := hr6.le
  have HL6 := hid_ hr6.len
  clear hr6 hb6 he6 hm6 HE5 HM HMr HOa HOb HRa HRb HR3 HR34 HR4 HR5 HSa HSb HWA HWB HA HB
  have e0 : ((n6 : Int) != (n6 : Int)) = false := by simp
  have e0' : (n6 != n6) = false := by simp
  go_wp2_with fail
  go_loopw [7] (fun vi wr => ∃ k : Nat, k ≤ n6 ∧ vi = .int .i64 (k : Nat) ∧ Hid (Below w6.heap.size w6 wr)) (fun vi _ => n6 - (intOf vi).toNat)
  case atStart => exact ⟨0, Nat.zero_le _, rfl, hid_ (Below.refl _ _)⟩
  case round =>
    obtain ⟨k, hk, rfl, HBr⟩ := hrel
    by_cases hlt : k < n6
    · have hkl : k < r.length := by rw [HL6.out]; exact hlt
      obtain ⟨g1, o1, rfl, -, c0, c1, c2, c3⟩ := arc_at (HR56.out.below HBr.out) hkl
      obtain ⟨g2, o2, rfl, -, d0, d1, d2, d3⟩ := arc_at (HR6.out.below HBr.out) hkl
      generalize r[k] = y at *
      have x1 : (k : Int) < (n6 : Int) := by omega
      have x2 : (0 : Int) ≤ (k : Int) := by omega
      have HK := hid_ hlt
      have f1 : (y.lo != y.lo) = false := by simp
      have f2 : (y.hi != y.hi) = false := by simp
      have f3 : (y.old != y.old) = false := by simp
      have f4 : (y.new != y.new) = false := by simp
      clear hlt hkl
      go_wp2_with fail
      go_quiet (fail)
      have HBq := hid_ (below_drewN HBr.out nq)
      go_wp2_with fail
      go_roundw
      case rel => exact ⟨k + 1, by have := HK.out; omega, by go_num, HBq⟩
      case measure => have := HK.out; simp [intOf]; omega
    · obtain rfl : k = n6 := by omega
      have HB7 := hid_ (HB6.out.trans (HBr.out.mono HB6.out.size))
      clear hlt
      go_wp2_with fail
      (with_reducible refine Calls.mono (alive_any _) ?_)
      rintro e wz ⟨rfl, hbz⟩
      have HBz := hid_ (HB7.out.trans (hbz.mono HB7.out.size))
      clear hbz
      go_wp2_with fail
      go_ret
      exact ⟨rfl, HBz.out⟩

set_option maxRecDepth 100000 in
theorem lifted (os : Os) (started : os.Started) (H : Type) (enc : TypeId × Value → H) :
    ReturnsInHanded {} Try.checked os 7 .any (Rows.ringMovesSpec.pre6 enc Try.prog Try.f7 Rows.ringMovesRow.domain false) (Rows.ringMovesSpec.post enc Try.prog Try.f7 false true false false) := by
  refine returnsInHanded_of_change (C := Try.checked) own started (by kernel_rfl) Try.func7
    (ChangeSpec.witness6 (enc := enc) (C := Try.checked) false ⟨#[], #[.slice none 0 0, .slice none 0 0], []⟩ 8 (by kernel_rfl) (by kernel_rfl) (by kernel_rfl) (by kernel_rfl)) ?_
  intro W base args ds gs before hval0 hW hcnd _
  have hval : ∀ (j : Nat) t v, Try.f7.params[j]? = some t → args[j]? = some v → Value.okWide Try.prog W .any base t v := hval0
  have hW' := hW
  obtain ⟨p, q, hA0, hV, rfl, hfz, hnd⟩ := hW
  have hA : DataW.TrodAll enc Try.prog W 0 (fun _ => true) true Try.f7.params.toList args.toList ds p := hA0
  rw [Try.params7] at hA hval
  obtain ⟨v0, vs0, d0, ds0, p0, q0, hargs, rfl, rfl, h0, r0⟩ := trodAll_cons hA
  obtain ⟨v1, vs1, d1, ds1, p1, q1, rfl, rfl, rfl, h1, r1⟩ := trodAll_cons r0
  obtain ⟨rfl, rfl, rfl⟩ := trodAll_nil r1
  obtain rfl : args = #[v0, v1] := by cases args; simp_all
  obtain ⟨rfl, rfl⟩ := trodVars_none hV
  have k0 := h0
  have lt0 : ∀ x ∈ p0, x.block < W.heap.size := by obtain ⟨m, hm⟩ := k0; exact DataW.trod_lt m _ _ _ hm
  have w0 : Rg.PtsV W v0 := Rg.open_ptsV (hval 0 52 v0 rfl rfl) h0
  have k1 := h1
  have lt1 : ∀ x ∈ p1, x.block < W.heap.size := by obtain ⟨m, hm⟩ := k1; exact DataW.trod_lt m _ _ _ hm
  have w1 : Rg.PtsV W v1 := Rg.open_ptsV (hval 1 52 v1 rfl rfl) h1
  clear hA0 hval0
  refine (walk v0 v1 W w0 w1).mono fun e W' ⟨he, bel⟩ => ?_
  subst he
  exact ⟨_, rfl, _, _, _, [], _, [], hW', trodAll_mk1 (shut_bool Try.underlying4 _), (trodAll_cons_mk (Below.trod laidOut (by kernel_rfl) (of_decide_eq_true (by kernel_rfl)) k0 bel lt0) (trodAll_cons_mk (Below.trod laidOut (by kernel_rfl) (of_decide_eq_true (by kernel_rfl)) k1 bel lt1) trodAll_mk0)), rfl, bel.frame _, fun h => by cases h⟩

theorem over : Rows.ringMovesRow.holds Try.pinned (OpenSpec.ofChange Rows.ringMovesSpec) :=
  OpenClaim.holds_of_wide 7 Try.f7 rfl rfl rfl rfl rfl rfl rfl ⟨rfl, rfl, rfl, rfl, rfl⟩ rfl rfl rfl rfl rfl (by kernel_rfl) Try.func7 (by kernel_rfl)
    (of_decide_eq_true (by kernel_rfl)) (by unfold Func.isWrapper; first | (rw [if_pos (by decide +kernel)]; kernel_rfl) | (rw [if_neg (by decide +kernel)]; exact ⟨rfl, rfl⟩))
    (fun os started H enc _ => lifted os started H enc)

theorem proved : Rows.RingMovesSaid := over
#print axioms proved
end Go.Proofs.Ytgmeggilojcoeaa.ringMoves
