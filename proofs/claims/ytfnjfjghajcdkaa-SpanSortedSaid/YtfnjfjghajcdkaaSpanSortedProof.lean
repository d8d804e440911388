/-
  SpanSorted: of any list of at most 100 spans (above it nothing is asked), what is sorted rises, and has what was there, as often; no condition on the input.
  The frame round the walk is written by the guide's own program for this statement.
-/
import Derived.Test.YtfnjfjghajcdkaaRows
import Derived.Test.YtfnjfjghajcdkaaSpAlive
import Derived.Test.YtfnjfjghajcdkaaSpanOpen
import Derived.Test.YtfnjfjghajcdkaaSpSort
import Derived.Test.YtfnjfjghajcdkaaSymAll
import Derived.Test.YtfnjfjghajcdkaaCountMath
import Derived.WalkKit
import Derived.ProofKit
import Derived.OpenShut
import Derived.ShutString
import Derived.ChangeOld
import Derived.Below
namespace Go.Proofs.Ytfnjfjghajcdkaa.spanSorted
open Go.ChangeShapes Go.WideShapes Go.ChangeAt Go.RowKit
open Go.ChangeMaps (open_string shut_string)
set_option linter.unusedVariables false

theorem own : ownKnob Try.prog.godebug = none := by kernel_rfl
theorem laidOut : laidOutB Try.prog = true := by kernel_rfl

/-- WHAT THE WALK IS TOLD OF A SLICE OF INTEGERS THAT CAME IN: it is nil; or it leads to a row of 'cap' cells, the numbers 'zs' (the first 'len' are its elements, the rest its spare room), each fitting its kind. -/
def IsRow (k : IntKind) (w : World) (a : Option Addr) (len cap : Nat) (zs : List Int) : Prop :=
  (a = none ∧ len = 0 ∧ cap = 0 ∧ zs = []) ∨
  ∃ x, a = some x ∧ len ≤ cap ∧ cap ≤ maxLen ∧ zs.length = cap ∧ (∀ i, i < zs.length → w.cell? (x.add i) = some (.int k (zs.getD i 0))) ∧ ∀ n ∈ zs, (Lit.int k n).wf = true

open Ru
attribute [local go_sem ↓] Go.wp_at_zero Go.wp_at_succ
set_option maxRecDepth 100000 in
set_option maxHeartbeats 8000000 in
theorem walk (v0 : Value) (w : World) (w0 : SpansV w v0) :
    Calls Try.prog 9 #[v0] w fun e w' => e = .returned (.bool true) ∧ Below w.heap.size w w' := by
  obtain ⟨A, n, c, ss, rfl, hss, _⟩ := w0
  have H0 := hid_ hss
  have Hlen := hid_ hss.len
  have ha := hid_ (fun W => alive_any W)
  have kn := fun (a b : SpanD) (w : World) => span_eql a b w
  have hnc := hss.cap
  have hcm := hss.max
  by_cases hb0 : 100 < n
  · have e1 : decide ((100 : Int) < (n : Int)) = true := by simp; omega
    clear hss
    go_enter Try.func9, Try.ntmps9
    go_wp2_with fail
    refine (ha.out _).mono ?_
    rintro e w' ⟨rfl, hbel⟩
    go_wp2_with fail
    go_ret
    exact ⟨rfl, hbel⟩
  have e1 : decide ((100 : Int) < (n : Int)) = false := by simp; omega
  have Hc := hid_ (sort_any merge_upto A n c ss w hss (by omega))
  have enn : ((n : Int) != (n : Int)) = false := by simp
  clear hss
  go_enter Try.func9, Try.ntmps9
  go_wp2_with fail
  refine Calls.mono Hc.out ?_
  rintro e w1 ⟨A1, c1, t, rfl, hrow, hso, hal, hb⟩
  have Hrow := hid_ hrow
  have Hso := hid_ hso
  have Hal := hid_ hal
  have Hb := hid_ hb
  have Htl := hid_ hrow.len
  have hc1 := hrow.cap
  have hc2 := hrow.max
  clear hrow hso hal hb Hc
  go_wp2_with fail
  go_loopw [4] (fun vi wr => ∃ i : Nat, vi = .int .i64 (i : Nat) ∧ 1 ≤ i ∧ i ≤ n + 1 ∧ Below w1.heap.size w1 wr) (fun vi _ => n + 1 - (intOf vi).toNat)
  case atStart => exact ⟨1, rfl, by omega, by omega, Below.refl _ _⟩
  case round =>
    obtain ⟨i, rfl, hi1, hin, hbr⟩ := hrel
    have Hbr := hid_ hbr
    clear hbr
    by_cases hlt : i < n
    · obtain ⟨ip, rfl⟩ : ∃ ip, i = ip + 1 := ⟨i - 1, by omega⟩
      have hk1 : ip < t.length := by rw [Htl.out]; omega
      have hk2 : ip + 1 < t.length := by rw [Htl.out]; omega
      have Hr1 := hid_ (Hrow.out.below Hbr.out)
      obtain ⟨b, off, hA1, s1⟩ := Hr1.out.at_ hk1
      obtain ⟨_, _, hA2, s2⟩ := Hr1.out.at_ hk2
      rw [hA1] at hA2
      cases hA2
      subst hA1
      have hlv : lessF t[ip + 1] t[ip] = false := less_no.2 (by
        have h := sorted_get Hso.out (show ip ≤ ip + 1 by omega) hk2
        rwa [List.getD_eq_getElem?_getD, List.getD_eq_getElem?_getD, List.getElem?_eq_getElem hk1, List.getElem?_eq_getElem hk2] at h)
      have Hl := hid_ (fun W => less_any t[ip + 1] t[ip] W)
      rw [hlv] at Hl
      have hS := pairIn_of (Below.refl wr.heap.size wr) s2 s1
      generalize t[ip + 1] = x at *
      generalize t[ip] = y at *
      have hwp : IntKind.i64.wrap (ip : Int) = (ip : Int) := by rw [IntKind.wrap_i64]; omega
      have n1 : (ip : Int) + 1 < (n : Int) := by omega
      have n2 : (ip : Int) < (n : Int) := by omega
      have n3 : (0 : Int) ≤ (ip : Int) + 1 := by omega
      have n4 : (0 : Int) ≤ (ip : Int) := by omega
      clear hlv s1 s2 hk1 hk2
      go_wp2_with fail
      go_region_held3 (PairIn wr b (off + (ip + 1) * 8) (off + ip * 8) x y) (first | assumption | (refine pairIn_keep (by assumption) (by assumption)) | (refine pairIn_keep (by assumption) (Below.drew (Below.refl _ _))))
        (first | (go_at_call 22; (with_reducible refine Calls.mono (Hl.out _) ?_); rintro e w' ⟨rfl, hb'⟩))
      go_wp2_with fail
      go_roundw
      case rel =>
        refine ⟨ip + 1 + 1, by go_num, by omega, by omega, Below.trans Hbr.out (Below.mono ?_ Hbr.out.size)⟩
        exact And.left (by assumption)
      case measure => simp [intOf]; omega
    · have e3 : decide (i < n) = false := decide_eq_false hlt
      clear hi1 hin
      go_wp2_with fail
      go_loopw [5] (fun vi wr => ∃ i : Nat, vi = .int .i64 (i : Nat) ∧ i ≤ n ∧ Below w1.heap.size w1 wr) (fun vi _ => n - (intOf vi).toNat)
      case atStart => exact ⟨0, rfl, by omega, Hbr.out⟩
      case round =>
        clear e3 hlt
        obtain ⟨i, rfl, hin, hbr⟩ := hrel
        have Hbr := hid_ hbr
        clear hbr
        by_cases hlt : i < n
        · have hil : i < ss.length := by rw [Hlen.out]; exact hlt
          have Hend := hid_ (cn_alike Hal.out ss[i] Hlen.out Htl.out)
          have Hl1 := hid_ (fun k (h : k < ss.length) => cn_succ ss[i] ss h)
          have Ht1 := hid_ (fun k (h : k < t.length) => cn_succ ss[i] t h)
          have Hil := hid_ (fun W (h : Below w.heap.size w W) => (H0.out.below h).at_ hil)
          generalize ss[i] = x at *
          obtain ⟨wo, rfl⟩ : ∃ wo : World, wo = wr := ⟨_, rfl⟩
          go_wp2_with fail
          go_loopw [6, 7] (fun vz vk wr => ∃ (k : Nat) (z : Int), vk = .int .i64 (k : Nat) ∧ vz = .int .i64 z ∧ k ≤ n ∧ -200 ≤ z ∧ z ≤ 200 ∧ Hid (z = (cn x ss k : Int) - (cn x t k : Int)) ∧ Below w1.heap.size w1 wr) (fun _ vk _ => n - (intOf vk).toNat)
          case atStart => exact ⟨0, 0, rfl, rfl, by omega, by omega, by omega, hid_ (by rw [cn_zero, cn_zero]; rfl), Hbr.out⟩
          case round =>
            obtain ⟨k, z, rfl, rfl, hkn, hz1, hz2, HZ, hb2⟩ := hrel
            have Hb2 := hid_ hb2
            clear hb2
            by_cases hlk : k < n
            · have hks : k < ss.length := by rw [Hlen.out]; exact hlk
              have hkt : k < t.length := by rw [Htl.out]; exact hlk
              have Hbw := hid_ (Hb.out.trans (Hb2.out.mono Hb.out.size))
              obtain ⟨b, off, hA, ⟨x0, x1, x2, x3, x4, x5, x6, x7⟩⟩ := Hil.out wr Hbw.out
              obtain ⟨_, _, hA2, ⟨y0, y1, y2, y3, y4, y5, y6, y7⟩⟩ := (H0.out.below Hbw.out).at_ hks
              rw [hA] at hA2
              cases hA2
              subst hA
              obtain ⟨b2, off2, hA3, ⟨u0, u1, u2, u3, u4, u5, u6, u7⟩⟩ := (Hrow.out.below Hb2.out).at_ hkt
              subst hA3
              have Hs1 := hid_ (Hl1.out k hks)
              have Hs2 := hid_ (Ht1.out k hkt)
              have Bk := hid_ (cn_le x ss (k + 1))
              have Bk2 := hid_ (cn_le x t (k + 1))
              generalize ss[k] = y at *
              generalize t[k] = v at *
              have n1 : (k : Int) < (n : Int) := by omega
              have n2 : (i : Int) < (n : Int) := by omega
              clear hks hkt
              cases hq1 : sameF y x
              all_goals
                cases hq2 : sameF v x
                all_goals
                  rw [hq1] at Hs1
                  rw [hq2] at Hs2
                  go_wp2_with fail
                  go_quiet (fail)
                  go_wp2_with fail
                  go_quiet (fail)
                  go_wp2_with fail
                  go_roundw
                  case rel =>
                    refine ⟨k + 1, _, by go_num, rfl, by omega, ?_, ?_, hid_ ?_, below_drewN Hb2.out _⟩
                    · have := HZ.out; have := Hs1.out; have := Hs2.out; have := Bk.out; have := Bk2.out
                      simp at *
                      omega
                    · have := HZ.out; have := Hs1.out; have := Hs2.out; have := Bk.out; have := Bk2.out
                      simp at *
                      omega
                    · have := HZ.out; have := Hs1.out; have := Hs2.out
                      simp at *
                      omega
                  case measure => simp [intOf]; omega
            · obtain rfl : k = n := by omega
              have hz0 : z = 0 := by rw [HZ.out, Hend.out]; omega
              subst hz0
              go_wp2_with fail
              go_roundw
              case rel => exact ⟨i + 1, by go_num, by omega, Hb2.out⟩
              case measure => simp [intOf]; omega
        · have e4 : decide (i < n) = false := decide_eq_false hlt
          have Hbw := hid_ (Hb.out.trans (Hbr.out.mono Hb.out.size))
          go_wp2_with fail
          refine (ha.out _).mono ?_
          rintro e w' ⟨rfl, hbel⟩
          go_wp2_with fail
          go_ret
          exact ⟨rfl, Hbw.out.trans (hbel.mono Hbw.out.size)⟩

set_option maxRecDepth 100000 in
theorem lifted (os : Os) (started : os.Started) (H : Type) (enc : TypeId × Value → H) :
    ReturnsInHanded {} Try.checked os 9 .any (Rows.spanSortedSpec.pre6 enc Try.prog Try.f9 Rows.spanSortedRow.domain false) (Rows.spanSortedSpec.post enc Try.prog Try.f9 false true false false) := by
  refine returnsInHanded_of_change (C := Try.checked) own started (by kernel_rfl) Try.func9
    (ChangeSpec.witness6 (enc := enc) (C := Try.checked) false ⟨#[], #[.slice none 0 0], []⟩ 8 (by kernel_rfl) (by kernel_rfl) (by kernel_rfl) (by kernel_rfl)) ?_
  intro W base args ds gs before hval0 hW hcnd _
  have hval : ∀ (j : Nat) t v, Try.f9.params[j]? = some t → args[j]? = some v → Value.okWide Try.prog W .any base t v := hval0
  have hW' := hW
  obtain ⟨p, q, hA0, hV, rfl, hfz, hnd⟩ := hW
  have hA : DataW.TrodAll enc Try.prog W 0 (fun _ => true) true Try.f9.params.toList args.toList ds p := hA0
  rw [Try.params9] at hA hval
  obtain ⟨v0, vs0, d0, ds0, p0, q0, hargs, rfl, rfl, h0, r0⟩ := trodAll_cons hA
  obtain ⟨rfl, rfl, rfl⟩ := trodAll_nil r0
  obtain rfl : args = #[v0] := by cases args; simp_all
  obtain ⟨rfl, rfl⟩ := trodVars_none hV
  have k0 := h0
  have lt0 : ∀ x ∈ p0, x.block < W.heap.size := by obtain ⟨m, hm⟩ := k0; exact DataW.trod_lt m _ _ _ hm
  have w0 : SpansV W v0 := open_spansV (hval 0 39 v0 rfl rfl) h0
  clear hA0 hval0
  refine (walk v0 W w0).mono fun e W' ⟨he, bel⟩ => ?_
  subst he
  exact ⟨_, rfl, _, _, _, [], _, [], hW', trodAll_mk1 (shut_bool Try.underlying4 _), (trodAll_cons_mk (Below.trod laidOut (by kernel_rfl) (of_decide_eq_true (by kernel_rfl)) k0 bel lt0) trodAll_mk0), rfl, bel.frame _, fun h => by cases h⟩

theorem over : Rows.spanSortedRow.holds Try.pinned (OpenSpec.ofChange Rows.spanSortedSpec) :=
  OpenClaim.holds_of_wide 9 Try.f9 rfl rfl rfl rfl rfl rfl rfl ⟨rfl, rfl, rfl, rfl, rfl⟩ rfl rfl rfl rfl rfl (by kernel_rfl) Try.func9 (by kernel_rfl)
    (of_decide_eq_true (by kernel_rfl)) (by unfold Func.isWrapper; first | (rw [if_pos (by decide +kernel)]; kernel_rfl) | (rw [if_neg (by decide +kernel)]; exact ⟨rfl, rfl⟩))
    (fun os started H enc _ => lifted os started H enc)

theorem proved : Rows.SpanSortedSaid := over
#print axioms proved
end Go.Proofs.Ytfnjfjghajcdkaa.spanSorted
