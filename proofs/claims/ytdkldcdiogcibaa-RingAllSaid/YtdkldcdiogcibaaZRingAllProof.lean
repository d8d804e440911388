/-
  RingAll: each trace is owned by one of the members, a single member's ring owns all, and the points of a ring stand in the order of their places; no condition on the input (where the ids are not right, or none, or more than 16, or the points not 1 to 20, only the chapter's example is asked).
  The frame round the walk is written by the guide's own program for this statement.
-/
import Derived.Test.YtdkldcdiogcibaaZGRD
import Derived.Test.YtdkldcdiogcibaaRows
import Derived.WalkKit
import Derived.ProofKit
import Derived.OpenShut
import Derived.ShutString
import Derived.ChangeOld
import Derived.Below
namespace Go.Proofs.Ytdkldcdiogcibaa.ringAll
set_option linter.unusedSimpArgs false
set_option linter.unusedVariables false
open Go.ChangeShapes Go.WideShapes Go.ChangeAt Go.RowKit
open Go.ChangeMaps (open_string shut_string)
set_option linter.unusedVariables false

theorem own : ownKnob Try.prog.godebug = none := by kernel_rfl
theorem laidOut : laidOutB Try.prog = true := by kernel_rfl

/-- WHAT THE WALK IS TOLD OF A SLICE OF INTEGERS THAT CAME IN: it is nil; or it leads to a row of 'cap' cells, the numbers 'zs' (the first 'len' are its elements, the rest its spare room), each fitting its kind. -/
def IsRow (k : IntKind) (w : World) (a : Option Addr) (len cap : Nat) (zs : List Int) : Prop :=
  (a = none ∧ len = 0 ∧ cap = 0 ∧ zs = []) ∨
  ∃ x, a = some x ∧ len ≤ cap ∧ cap ≤ maxLen ∧ zs.length = cap ∧ (∀ i, i < zs.length → w.cell? (x.add i) = some (.int k (zs.getD i 0))) ∧ ∀ n ∈ zs, (Lit.int k n).wf = true

open Rg
set_option maxRecDepth 100000 in
set_option maxHeartbeats 16000000 in
theorem walk (a0 : Option Addr) (len0 cap0 : Nat) (z0 : List Int) (a1 : Int) (a2 : Int) (w : World) (w0 : IsRow .u64 w a0 len0 cap0 z0) (w1 : (Lit.int .i64 a1).wf = true) (w2 : (Lit.int .u64 a2).wf = true) :
    Calls Try.prog 11 #[.slice a0 len0 cap0, .int .i64 a1, .int .u64 a2] w fun e w' => e = .returned (.bool true) ∧ Below w.heap.size w w' := by
  obtain ⟨ids, hids, hbd, hpl⟩ := nums_of w0
  have hl := hids.len
  have hle := hids.le
  have HRt := hid_ (right_any a0 len0 cap0 ids w hids)
  by_cases hq0 : riseF 0 ids = false
  · rw [hq0] at HRt
    clear w0 w1 w2
    have HQ := hid_ hq0
    clear hq0
    go_enter Try.func11, Try.ntmps11
    go_wp2_with fail
    refine Calls.mono HRt.out ?_
    rintro e w1 ⟨rfl, q, rfl⟩
    go_wp2_with fail
    refine Calls.mono (alive_any _) ?_
    rintro e w2 ⟨rfl, hb⟩
    go_wp2_with fail
    go_ret
    exact ⟨rfl, (below_drewN (Below.refl _ _) q).trans hb⟩
  have hrs : riseF 0 ids = true := by simpa using hq0
  rw [hrs] at HRt
  clear hq0
  by_cases hq1 : (16 : Int) < (len0 : Int)
  · have e1a : decide ((len0 : Int) > (16 : Int)) = true := decide_eq_true (by omega)
    have e1b : decide ((16 : Int) < (len0 : Int)) = true := decide_eq_true (by omega)
    clear w0 w1 w2
    have HQ := hid_ hq1
    clear hq1
    go_enter Try.func11, Try.ntmps11
    go_wp2_with fail
    refine Calls.mono HRt.out ?_
    rintro e w1 ⟨rfl, q, rfl⟩
    go_wp2_with fail
    refine Calls.mono (alive_any _) ?_
    rintro e w2 ⟨rfl, hb⟩
    go_wp2_with fail
    go_ret
    exact ⟨rfl, (below_drewN (Below.refl _ _) q).trans hb⟩
  have e1a : decide ((len0 : Int) > (16 : Int)) = false := decide_eq_false (by omega)
  have e1b : decide ((16 : Int) < (len0 : Int)) = false := decide_eq_false (by omega)
  by_cases hq2 : a1 < (1 : Int)
  · have e2a : decide (a1 < (1 : Int)) = true := decide_eq_true (by omega)
    clear w0 w1 w2
    have HQ := hid_ hq2
    clear hq2
    go_enter Try.func11, Try.ntmps11
    go_wp2_with fail
    refine Calls.mono HRt.out ?_
    rintro e w1 ⟨rfl, q, rfl⟩
    go_wp2_with fail
    refine Calls.mono (alive_any _) ?_
    rintro e w2 ⟨rfl, hb⟩
    go_wp2_with fail
    go_ret
    exact ⟨rfl, (below_drewN (Below.refl _ _) q).trans hb⟩
  have e2a : decide (a1 < (1 : Int)) = false := decide_eq_false (by omega)
  by_cases hq3 : (20 : Int) < a1
  · have e3a : decide (a1 > (20 : Int)) = true := decide_eq_true (by omega)
    have e3b : decide ((20 : Int) < a1) = true := decide_eq_true (by omega)
    clear w0 w1 w2
    have HQ := hid_ hq3
    clear hq3
    go_enter Try.func11, Try.ntmps11
    go_wp2_with fail
    refine Calls.mono HRt.out ?_
    rintro e w1 ⟨rfl, q, rfl⟩
    go_wp2_with fail
    refine Calls.mono (alive_any _) ?_
    rintro e w2 ⟨rfl, hb⟩
    go_wp2_with fail
    go_ret
    exact ⟨rfl, (below_drewN (Below.refl _ _) q).trans hb⟩
  have e3a : decide (a1 > (20 : Int)) = false := decide_eq_false (by omega)
  have e3b : decide ((20 : Int) < a1) = false := decide_eq_false (by omega)
  by_cases hq4 : len0 = 0
  · have e4a : ((len0 : Int) == 0) = true := by simp [hq4]
    clear w0 w1 w2
    have HQ := hid_ hq4
    clear hq4
    go_enter Try.func11, Try.ntmps11
    go_wp2_with fail
    refine Calls.mono HRt.out ?_
    rintro e w1 ⟨rfl, q, rfl⟩
    go_wp2_with fail
    refine Calls.mono (alive_any _) ?_
    rintro e w2 ⟨rfl, hb⟩
    go_wp2_with fail
    go_ret
    exact ⟨rfl, (below_drewN (Below.refl _ _) q).trans hb⟩
  have e4a : ((len0 : Int) == 0) = false := by simp; omega
  obtain ⟨p, rfl⟩ : ∃ p : Nat, a1 = (p : Int) := ⟨a1.toNat, by omega⟩
  obtain ⟨t, rfl, ht⟩ := u64_of w2
  have hcap := hids.cap
  have hmax := hids.max
  have hp1 : 1 ≤ p := by omega
  have hp2 : p ≤ 20 := by omega
  have hl1 : len0 ≤ 16 := by omega
  have hl2 : 1 ≤ len0 := by omega
  obtain ⟨b, off, rfl⟩ : ∃ b off, a0 = some ⟨b, off, none⟩ := by
    rcases hpl with h | h
    · omega
    · exact h
  have Hids := hid_ hids
  have HL := hid_ hl
  have Hrs := hid_ hrs
  have HM := hid_ hmax
  have HT := hid_ ht
  have hlp : len0 * p ≤ 320 := Nat.mul_le_mul hl1 hp2
  have HQ4 := hid_ hq4
  clear hids w0 hbd hrs hl w1 w2 hle hmax ht hpl hq4
  go_enter Try.func11, Try.ntmps11
  go_wp2_with fail
  refine Calls.mono HRt.out ?_
  rintro e w1 ⟨rfl, q, rfl⟩
  have Hb1 := hid_ (below_drewN (Below.refl w.heap.size w) q)
  generalize w.drewN q = w1 at *
  go_wp2_with fail
  refine Calls.mono (make_any _ len0 cap0 ids p w1 (Hids.out.below Hb1.out) Hrs.out (by omega) (by omega) (by omega)) ?_
  rintro e w2 ⟨A2, N2, c2, r2, rfl, row2, s2, p2, hb2⟩
  have hN : N2 = len0 * p := by rw [← row2.len, p2.length_eq, pts_length, HL.out]
  have R2 := hid_ (And.intro row2 (And.intro s2 p2))
  have Hb2 := hid_ (Hb1.out.trans (hb2.mono Hb1.out.size))
  have Hc2 := hid_ hb2
  clear row2 s2 p2 hb2
  have hNle : N2 ≤ 320 := by omega
  have hN1 : 1 ≤ N2 := by rw [hN]; exact Nat.mul_pos hl2 hp1
  have k1 : ((N2 : Int) != (len0 : Int) * (p : Int)) = false := by rw [hN]; simp
  have k2 : (N2 != len0 * p) = false := by rw [hN]; simp
  have k3 : (len0 : Int) * (p : Int) ≤ 320 := by rw [← Int.natCast_mul]; omega
  have k4 : (0 : Int) ≤ (len0 : Int) * (p : Int) := by rw [← Int.natCast_mul]; omega
  have k5 : IntKind.i64.wrap ((len0 : Int) * (p : Int)) = (len0 : Int) * (p : Int) := IntWalk.i64_in _ (by omega)
  have HN := hid_ hN
  clear hN hlp
  have Ho2 := hid_ (Owner_any A2 N2 c2 r2 t w2 R2.out.1 R2.out.2.1 (by omega))
  have Hom := hid_ (own_member R2.out.2.1 R2.out.2.2 (by have := HL.out; rintro rfl; simp at this; omega) (by omega) (mixN t))
  generalize ownF r2 (mixN t) = o at *
  have HMX := hid_ hp1
  go_wp2_with fail
  refine Calls.mono Ho2.out ?_
  rintro e w3 ⟨rfl, hb3⟩
  have Hb3 := hid_ (Hb2.out.trans (hb3.mono Hb2.out.size))
  have Hc3 := hid_ hb3
  clear hb3
  have HIN := hid_ (show inF ids o len0 = true by unfold inF; rw [← HL.out, List.take_length]; exact decide_eq_true Hom.out)
  go_wp2_with fail
  go_loopw [9, 11] (fun v9 v11 wr => ∃ (k : Nat) (z : Bool), k ≤ len0 ∧ v11 = .int .i64 k ∧ v9 = .bool z ∧ Hid (z = inF ids o k) ∧ Hid (Below w3.heap.size w3 wr)) (fun _ v11 _ => len0 - (intOf v11).toNat)
  case atStart => exact ⟨0, false, by omega, rfl, rfl, hid_ (by unfold inF; simp), hid_ (Below.refl _ _)⟩
  case round =>
    obtain ⟨k, z, hk, rfl, rfl, HZ, HW⟩ := hrel
    by_cases hlt : k < len0
    · have hkl : k < ids.length := by rw [HL.out]; exact hlt
      have Hw3 := hid_ (Hb3.out.trans (HW.out.mono Hb3.out.size))
      have hcell := (num_at (Hids.out.below Hw3.out) hkl)
      obtain ⟨b', off', he, hblk, hc⟩ := hcell
      cases he
      have hone : (ids.drop k).take 1 = [ids[k]] := by rw [List.drop_eq_getElem_cons hkl]; rfl
      have hck : ¬ cap0 = k := by omega
      have Hrow1 := hid_ (show numE.Row w (some ⟨b, off + k, none⟩) 1 (cap0 - k) [ids[k]] from by rw [← hone]; exact (num_from Hids.out k (by omega) hck).upto 1 (by omega))
      have Hsucc := hid_ (inF_succ hkl o)
      have hxpos : riseF 0 [ids[k]] = true := by
        have := rise_pos Hrs.out _ (List.getElem_mem hkl)
        simp [riseF]
        omega
      have HXP := hid_ hxpos
      clear hone hxpos
      generalize ids[k] = x at *
      have key : (z || x == o) = inF ids o (k + 1) := by rw [Hsucc.out, HZ.out]
      have HK := hid_ key
      clear key
      have j1 : (0 : Int) ≤ (k : Int) := by omega
      have j2 : (k : Int) < (len0 : Int) := by omega
      have hxx : (x != x) = false := by simp
      have HLT := hid_ hlt
      obtain ⟨y, hy1, hy2, HY⟩ : ∃ y : Bool, (x == o) = y ∧ ((x : Int) == (o : Int)) = y ∧ Hid ((z || y) = inF ids o (k + 1)) := by
        refine ⟨x == o, rfl, ?_, HK⟩
        by_cases h : x = o
        · subst h; simp
        · rw [beq_eq_false_iff_ne.2 h, beq_eq_false_iff_ne.2 (by omega)]
      cases z
      all_goals
        go_wp2_with fail
        refine Calls.mono (make_any (some ⟨b, off + k, none⟩) 1 (cap0 - k) [x] p _ (Hrow1.out.below Hw3.out) HXP.out hp1 (by omega) (by omega)) ?_
        rintro e w4 ⟨A4, N4, c4, r4, rfl, row4, s4, p4, hb4⟩
        have hx4 : ownF r4 (mixN t) = x := by simpa using own_member s4 p4 (by simp) (by omega) (mixN t)
        have hO4 := (fun (W : World) (hw : Below w4.heap.size w4 W) => Owner_any A4 N4 c4 r4 t W (row4.below hw) s4 (ring_small row4 p4 (by simp) (by omega)))
        rw [hx4] at hO4
        have Ho4 := hid_ hO4
        have Hb4 := hid_ (HW.out.trans (hb4.mono HW.out.size))
        have Hc4 := hid_ (show w4.cell? ⟨b, off + k, none⟩ = some (.int .u64 (x : Nat)) by rw [hb4.cell hblk]; exact hc)
        clear row4 s4 p4 hb4 hx4 hO4 hc
        go_wp2_with fail
        have hc := Hc4.out
        go_region_held3 (NumIn w4 b (off + k) x) (first | assumption | exact ⟨Below.refl _ _, hc⟩ | exact ⟨Below.drew (Below.refl _ _), hc⟩ | refine numIn_keep (by assumption) (by assumption) | refine numIn_keep (by assumption) (Below.drew (Below.refl _ _)))
          (first | (go_at_call 36; (with_reducible refine Calls.mono (Ho4.out _ (by first | exact Below.refl _ _ | exact Below.drew (Below.refl _ _))) ?_); rintro e w5 ⟨rfl, hb5⟩) | fail)
        go_wp2_with fail
        go_roundw
        case rel => exact ⟨k + 1, _, by have := HLT.out; omega, by go_num, rfl, HY, hid_ (Hb4.out.trans (Below.mono (And.left (by assumption)) Hb4.out.size))⟩
        case measure => have := HLT.out; simp [intOf]; omega
    · obtain rfl : k = len0 := by omega
      have hz : z = true := by rw [HZ.out, HIN.out]
      subst hz
      have Hw3 := hid_ (Hb3.out.trans (HW.out.mono Hb3.out.size))
      have Hrow := hid_ (show ptE.Row wr A2 N2 c2 r2 from R2.out.1.below (Hc3.out.trans (HW.out.mono Hc3.out.size)))
      go_wp2_with fail
      obtain ⟨wz, hwz⟩ : ∃ wz : World, wz = wr := ⟨_, rfl⟩
      subst hwz
      go_loopw [14] (fun v14 wi => ∃ (j q : Nat), 1 ≤ j ∧ j ≤ N2 ∧ v14 = .int .i64 j ∧ wi = wz.drewN q) (fun v14 _ => N2 - (intOf v14).toNat)
      case atStart => exact ⟨1, 0, by omega, hN1, rfl, rfl⟩
      case round =>
        obtain ⟨j, q2, hj1, hj2, rfl, rfl⟩ := hrel
        by_cases hjn : j < N2
        · have hjl : j < r2.length := by rw [Hrow.out.len]; exact hjn
          have hjl' : j - 1 < r2.length := by omega
          have hsp := sorted_pair R2.out.2.1 hj1 hjl
          obtain ⟨g, o1, rfl, hg, d1, -⟩ := pt_at Hrow.out hjl
          obtain ⟨g', o1', he, -, d2, -⟩ := pt_at Hrow.out hjl'
          cases he
          generalize r2[j].pos = y1 at *
          generalize (r2[j - 1]'hjl').pos = y0 at *
          have m1 : decide (y1 < y0) = false := decide_eq_false (by omega)
          have m2 : (0 : Int) ≤ (j : Int) := by omega
          have m3 : (j : Int) < (N2 : Int) := by omega
          have m4 : (0 : Int) ≤ (j : Int) - 1 := by omega
          have m5 : (j : Int) - 1 < (N2 : Int) := by omega
          have m6 : ((j : Int) - 1).toNat = j - 1 := by omega
          have m7 : (1 : Int) ≤ (j : Int) := by omega
          have HJ := hid_ hjn
          have HSP := hid_ hsp
          clear hsp
          go_wp2_with fail
          go_quiet (fail)
          go_wp2_with fail
          go_roundw
          case rel => exact ⟨j + 1, q2 + nq, by omega, by have := HJ.out; omega, by go_num, rfl⟩
          case measure => have := HJ.out; simp [intOf]; omega
        · obtain rfl : j = N2 := by omega
          go_wp2_with fail
          refine Calls.mono (alive_any _) ?_
          rintro e w8 ⟨rfl, hb8⟩
          have Hb8 := hid_ ((below_drewN Hw3.out q2).trans (hb8.mono (below_drewN Hw3.out q2).size))
          clear hb8
          go_wp2_with fail
          go_ret
          exact ⟨rfl, Hb8.out⟩

set_option maxRecDepth 100000 in
theorem lifted (os : Os) (started : os.Started) (H : Type) (enc : TypeId × Value → H) :
    ReturnsInHanded {} Try.checked os 11 .any (Rows.ringAllSpec.pre6 enc Try.prog Try.f11 Rows.ringAllRow.domain false) (Rows.ringAllSpec.post enc Try.prog Try.f11 false true false false) := by
  refine returnsInHanded_of_change (C := Try.checked) own started (by kernel_rfl) Try.func11
    (ChangeSpec.witness6 (enc := enc) (C := Try.checked) false ⟨#[], #[.slice none 0 0, .int .i64 0, .int .u64 0], []⟩ 8 (by kernel_rfl) (by kernel_rfl) (by kernel_rfl) (by kernel_rfl)) ?_
  intro W base args ds gs before hval0 hW hcnd _
  have hval : ∀ (j : Nat) t v, Try.f11.params[j]? = some t → args[j]? = some v → Value.okWide Try.prog W .any base t v := hval0
  have hW' := hW
  obtain ⟨p, q, hA0, hV, rfl, hfz, hnd⟩ := hW
  have hA : DataW.TrodAll enc Try.prog W 0 (fun _ => true) true Try.f11.params.toList args.toList ds p := hA0
  rw [Try.params11] at hA hval
  obtain ⟨v0, vs0, d0, ds0, p0, q0, hargs, rfl, rfl, h0, r0⟩ := trodAll_cons hA
  obtain ⟨v1, vs1, d1, ds1, p1, q1, rfl, rfl, rfl, h1, r1⟩ := trodAll_cons r0
  obtain ⟨v2, vs2, d2, ds2, p2, q2, rfl, rfl, rfl, h2, r2⟩ := trodAll_cons r1
  obtain ⟨rfl, rfl, rfl⟩ := trodAll_nil r2
  obtain rfl : args = #[v0, v1, v2] := by cases args; simp_all
  obtain ⟨rfl, rfl⟩ := trodVars_none hV
  obtain ⟨a0, len0, cap0, rfl⟩ := okWide_slice Try.underlying52 (hval 0 52 v0 rfl rfl)
  have k0 := h0
  have lt0 : ∀ x ∈ p0, x.block < W.heap.size := by obtain ⟨m, hm⟩ := k0; exact DataW.trod_lt m _ _ _ hm
  obtain ⟨z0, w0⟩ : ∃ zs, IsRow .u64 W a0 len0 cap0 zs := by
    obtain ⟨fuel, hf⟩ := h0
    rcases open_ints Try.underlying52 Try.underlying60 (by kernel_rfl) hf with ⟨hcs, _⟩ | ⟨x, l, c, zs, hcs, _, hl, hm, hz, _, hcell, hwz⟩
    · simp [Value.cells] at hcs
      obtain ⟨rfl, rfl, rfl⟩ := hcs
      exact ⟨[], .inl ⟨rfl, rfl, rfl, rfl⟩⟩
    · simp [Value.cells] at hcs
      obtain ⟨rfl, rfl, rfl⟩ := hcs
      exact ⟨zs, .inr ⟨_, rfl, hl, hm, by simpa using hz, hcell, hwz⟩⟩
  obtain ⟨a1, rfl, rfl, rfl, w1⟩ := open_int Try.underlying3 (hval 1 3 v1 rfl rfl) h1
  obtain ⟨a2, rfl, rfl, rfl, w2⟩ := open_int Try.underlying60 (hval 2 60 v2 rfl rfl) h2
  clear hA0 hval0
  refine (walk a0 len0 cap0 z0 a1 a2 W w0 w1 w2).mono fun e W' ⟨he, bel⟩ => ?_
  subst he
  exact ⟨_, rfl, _, _, _, [], _, [], hW', trodAll_mk1 (shut_bool Try.underlying4 _), (trodAll_cons_mk (Below.trod laidOut (by kernel_rfl) (of_decide_eq_true (by kernel_rfl)) k0 bel lt0) (trodAll_cons_mk (shut_int Try.underlying3 w1) (trodAll_cons_mk (shut_int Try.underlying60 w2) trodAll_mk0))), rfl, bel.frame _, fun h => by cases h⟩

theorem over : Rows.ringAllRow.holds Try.pinned (OpenSpec.ofChange Rows.ringAllSpec) :=
  OpenClaim.holds_of_wide 11 Try.f11 rfl rfl rfl rfl rfl rfl rfl ⟨rfl, rfl, rfl, rfl, rfl⟩ rfl rfl rfl rfl rfl (by kernel_rfl) Try.func11 (by kernel_rfl)
    (of_decide_eq_true (by kernel_rfl)) (by unfold Func.isWrapper; first | (rw [if_pos (by decide +kernel)]; kernel_rfl) | (rw [if_neg (by decide +kernel)]; exact ⟨rfl, rfl⟩))
    (fun os started H enc _ => lifted os started H enc)

theorem proved : Rows.RingAllSaid := over
#print axioms proved
end Go.Proofs.Ytdkldcdiogcibaa.ringAll
