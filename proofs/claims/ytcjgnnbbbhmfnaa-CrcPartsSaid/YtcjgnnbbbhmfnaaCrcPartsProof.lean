/-
  CrcParts: bytes (up to 10000) that are parted anywhere have one sum: at once, part behind part, and by their sums; where the place is not such nothing is asked; no condition on the input.
  The frame round the walk is written by the guide's own program for this statement.
-/
import Derived.Test.YtcjgnnbbbhmfnaaRows
import Derived.Test.YtcjgnnbbbhmfnaaCrcRef
import Derived.Test.YtcjgnnbbbhmfnaaCrcJoin
import Derived.WalkKit
import Derived.ProofKit
import Derived.OpenShut
import Derived.ShutString
import Derived.ChangeOld
import Derived.Below
namespace Go.Proofs.Ytcjgnnbbbhmfnaa.crcParts
open Go.ChangeShapes Go.WideShapes Go.ChangeAt Go.RowKit
open Go.ChangeMaps (open_string shut_string)
set_option linter.unusedVariables false

theorem own : ownKnob Try.prog.godebug = none := by kernel_rfl
theorem laidOut : laidOutB Try.prog = true := by kernel_rfl

/-- WHAT THE WALK IS TOLD OF A SLICE OF INTEGERS THAT CAME IN: it is nil; or it leads to a row of 'cap' cells, the numbers 'zs' (the first 'len' are its elements, the rest its spare room), each fitting its kind. -/
def IsRow (k : IntKind) (w : World) (a : Option Addr) (len cap : Nat) (zs : List Int) : Prop :=
  (a = none ∧ len = 0 ∧ cap = 0 ∧ zs = []) ∨
  ∃ x, a = some x ∧ len ≤ cap ∧ cap ≤ maxLen ∧ zs.length = cap ∧ (∀ i, i < zs.length → w.cell? (x.add i) = some (.int k (zs.getD i 0))) ∧ ∀ n ∈ zs, (Lit.int k n).wf = true

open Crc
/-- A contract that leaves the world alone, told from the other side. -/
theorem quiet_flip {P : Program} {f : FuncId} {args : Array Value} {w : World} {v : Value} (h : Calls P f args w fun e w' => e = .returned v ∧ w = w') :
    Calls P f args w fun e w' => e = .returned v ∧ w' = w := h.mono fun _ _ ⟨h1, h2⟩ => ⟨h1, h2.symm⟩
set_option maxHeartbeats 2000000 in
theorem walk (a0 : Option Addr) (len0 cap0 : Nat) (z0 : List Int) (a1 : Int) (w : World) (w0 : IsRow .u8 w a0 len0 cap0 z0) (w1 : (Lit.int .i64 a1).wf = true) :
    Calls Try.prog 5 #[.slice a0 len0 cap0, .int .i64 a1] w fun e w' => e = .returned (.bool true) ∧ Below w.heap.size w w' := by
  obtain ⟨l, hl, hlc, hcap, hA, hnil⟩ := holds_of_row w0
  unfold maxLen at hcap
  have h3 := hid_ (fun W => alive_any W)
  have hat : -9223372036854775808 ≤ a1 ∧ a1 ≤ 9223372036854775807 := by simpa [Lit.wf, IntKind.min, IntKind.max, IntKind.bits, IntKind.signed] using w1
  obtain ⟨hat1, hat2⟩ := hat
  clear w0 w1
  by_cases hb1 : 10000 < len0
  rotate_left
  by_cases hb2 : a1 < 0
  rotate_left
  by_cases hb3 : (len0 : Int) < a1
  rotate_left
  · obtain ⟨n, rfl⟩ := Int.eq_ofNat_of_zero_le (show 0 ≤ a1 by omega)
    have hnl : n ≤ len0 := by omega
    have e1 : decide ((10000 : Int) < (len0 : Int)) = false := by simp; omega
    have e2 : decide ((n : Int) < 0) = false := by simp
    have e3 : decide ((len0 : Int) < (n : Int)) = false := by simp; omega
    have hnc : n ≤ cap0 := by omega
    obtain ⟨m, e5⟩ : ∃ m, len0 - n = m := ⟨_, rfl⟩
    have e4 : ((len0 : Int) - (n : Int)) = (m : Int) := by omega
    have e6 : IntKind.i64.wrap (m : Int) = (m : Int) := IntWalk.i64_in _ (by omega)
    by_cases hcn : cap0 = n
    · obtain rfl : n = cap0 := hcn.symm
      have C1 := hid_ (sum_any a0 len0 n l w hA hl (by omega))
      have hlt : (l.take n).length = n := by rw [List.length_take]; omega
      have hld : (l.drop n).length = m := by rw [List.length_drop]; omega
      have hT : Holds w a0 (bytes (l.take n)) := by rw [← bytes_take]; exact hA.take n
      have hD : Holds w a0 (bytes (l.drop n)) := by
        have h := hA.drop' n n (by rw [bytes_length]; omega)
        rw [bytes_drop] at h
        simpa using h
      have C2 := hid_ (sum_any a0 n n (l.take n) w.drew hT hlt (by omega))
      have C3 := hid_ (sum_any a0 m 0 (l.drop n) w.drew hD hld (by omega))
      have HT := hid_ hT
      have HD := hid_ hD
      have hml : more (more 0#32 (l.take n)) (l.drop n) = more 0#32 l := by rw [← more_append, List.take_append_drop]
      have hmj := more_join (more 0#32 (l.take n)) (l.drop n)
      rw [hld, hml] at hmj
      have C4 := hid_ (fun (W : World) (hW : Below w.heap.size w W) => more_any (more 0#32 (l.take n)) a0 m 0 (l.drop n) W (hD.below hW) hld (by omega))
      have C5 := hid_ (fun (W : World) => join_good (more 0#32 (l.take n)) (more 0#32 (l.drop n)) m W (by omega))
      rw [hml] at C4
      rw [BitVec.xor_comm, ← hmj] at C5
      have C2b := hid_ (fun (W : World) (hW : Below w.heap.size w W) => sum_any a0 n n (l.take n) W (hT.below hW) hlt (by omega))
      clear hml hmj hlt hld hT hD hA hl hnil HT HD
      generalize more 0#32 l = z at *
      generalize more 0#32 (l.take n) = x at *
      generalize more 0#32 (l.drop n) = y at *
      go_enter Try.func5, Try.ntmps5
      go_wp2_with fail
      refine C1.out.mono ?_
      rintro e w' ⟨rfl, rfl⟩
      go_wp2_with fail
      go_region_with (first | ((with_reducible refine Calls.mono C2.out ?_); rintro e w' ⟨rfl, rfl⟩) | ((with_reducible refine Calls.mono C3.out ?_); rintro e w' ⟨rfl, rfl⟩) | ((with_reducible refine Calls.mono (C5.out _) ?_); rintro e w3 ⟨rfl, hb3⟩))
      have hb4 : Below w.heap.size w w3 := (Below.refl _ w).drew.trans hb3
      have D2 := hid_ (C2b.out w3.drew hb4.drew)
      have D4 := hid_ (C4.out w3.drew hb4.drew)
      have Hb4 := hid_ hb4
      clear hb3 hb4
      go_wp2_with fail
      refine wp_region_still_tail 20 (by kernel_rfl) (by kernel_rfl) ?_
      simp only [List.take_succ_cons, List.take_zero, List.drop_succ_cons, List.drop_zero]
      repeat still_step
      still_call (quiet_flip D2.out)
      repeat still_step
      still_call (quiet_flip D4.out)
      repeat still_step
      refine wpStill_nil ?_
      change wpList _ _ _ _ _ w3.drew
      go_wp2_with fail
      refine (h3.out _).mono ?_
      rintro e w5 ⟨rfl, hb5⟩
      go_wp2
      go_ret
      exact ⟨rfl, Hb4.out.drew.trans (hb5.mono Hb4.out.size)⟩
    · have C1 := hid_ (sum_any a0 len0 cap0 l w hA hl (by omega))
      have hlt : (l.take n).length = n := by rw [List.length_take]; omega
      have hld : (l.drop n).length = m := by rw [List.length_drop]; omega
      have hT : Holds w a0 (bytes (l.take n)) := by rw [← bytes_take]; exact hA.take n
      have hD : Holds w (Option.map (fun x => x.add n) a0) (bytes (l.drop n)) := by
        have h := hA.drop' n cap0 (by rw [bytes_length]; omega)
        rw [bytes_drop] at h
        simpa [hcn] using h
      have C2 := hid_ (sum_any a0 n cap0 (l.take n) w.drew hT hlt (by omega))
      have C3 := hid_ (sum_any (Option.map (fun x => x.add n) a0) m (cap0 - n) (l.drop n) w.drew hD hld (by omega))
      have HT := hid_ hT
      have HD := hid_ hD
      have hml : more (more 0#32 (l.take n)) (l.drop n) = more 0#32 l := by rw [← more_append, List.take_append_drop]
      have hmj := more_join (more 0#32 (l.take n)) (l.drop n)
      rw [hld, hml] at hmj
      have C4 := hid_ (fun (W : World) (hW : Below w.heap.size w W) => more_any (more 0#32 (l.take n)) (Option.map (fun x => x.add n) a0) m (cap0 - n) (l.drop n) W (hD.below hW) hld (by omega))
      have C5 := hid_ (fun (W : World) => join_good (more 0#32 (l.take n)) (more 0#32 (l.drop n)) m W (by omega))
      rw [hml] at C4
      rw [BitVec.xor_comm, ← hmj] at C5
      have C2b := hid_ (fun (W : World) (hW : Below w.heap.size w W) => sum_any a0 n cap0 (l.take n) W (hT.below hW) hlt (by omega))
      clear hml hmj hlt hld hT hD hA hl hnil HT HD
      generalize more 0#32 l = z at *
      generalize more 0#32 (l.take n) = x at *
      generalize more 0#32 (l.drop n) = y at *
      go_enter Try.func5, Try.ntmps5
      go_wp2_with fail
      refine C1.out.mono ?_
      rintro e w' ⟨rfl, rfl⟩
      go_wp2_with fail
      go_region_with (first | ((with_reducible refine Calls.mono C2.out ?_); rintro e w' ⟨rfl, rfl⟩) | ((with_reducible refine Calls.mono C3.out ?_); rintro e w' ⟨rfl, rfl⟩) | ((with_reducible refine Calls.mono (C5.out _) ?_); rintro e w3 ⟨rfl, hb3⟩))
      have hb4 : Below w.heap.size w w3 := (Below.refl _ w).drew.trans hb3
      have D2 := hid_ (C2b.out w3.drew hb4.drew)
      have D4 := hid_ (C4.out w3.drew hb4.drew)
      have Hb4 := hid_ hb4
      clear hb3 hb4
      go_wp2_with fail
      refine wp_region_still_tail 20 (by kernel_rfl) (by kernel_rfl) ?_
      simp only [List.take_succ_cons, List.take_zero, List.drop_succ_cons, List.drop_zero]
      repeat still_step
      still_call (quiet_flip D2.out)
      repeat still_step
      still_call (quiet_flip D4.out)
      repeat still_step
      refine wpStill_nil ?_
      change wpList _ _ _ _ _ w3.drew
      go_wp2_with fail
      refine (h3.out _).mono ?_
      rintro e w5 ⟨rfl, hb5⟩
      go_wp2
      go_ret
      exact ⟨rfl, Hb4.out.drew.trans (hb5.mono Hb4.out.size)⟩
  all_goals
    go_enter Try.func5, Try.ntmps5
    go_wp2_with fail
    refine (h3.out _).mono ?_
    rintro e w' ⟨rfl, hbel⟩
    go_wp2
    go_ret
    exact ⟨rfl, hbel⟩

set_option maxRecDepth 100000 in
theorem lifted (os : Os) (started : os.Started) (H : Type) (enc : TypeId × Value → H) :
    ReturnsInHanded {} Try.checked os 5 .any (Rows.crcPartsSpec.pre6 enc Try.prog Try.f5 Rows.crcPartsRow.domain false) (Rows.crcPartsSpec.post enc Try.prog Try.f5 false true false false) := by
  refine returnsInHanded_of_change (C := Try.checked) own started (by kernel_rfl) Try.func5
    (ChangeSpec.witness6 (enc := enc) (C := Try.checked) false ⟨#[], #[.slice none 0 0, .int .i64 0], []⟩ 8 (by kernel_rfl) (by kernel_rfl) (by kernel_rfl) (by kernel_rfl)) ?_
  intro W base args ds gs before hval0 hW hcnd _
  have hval : ∀ (j : Nat) t v, Try.f5.params[j]? = some t → args[j]? = some v → Value.okWide Try.prog W .any base t v := hval0
  have hW' := hW
  obtain ⟨p, q, hA0, hV, rfl, hfz, hnd⟩ := hW
  have hA : DataW.TrodAll enc Try.prog W 0 (fun _ => true) true Try.f5.params.toList args.toList ds p := hA0
  rw [Try.params5] at hA hval
  obtain ⟨v0, vs0, d0, ds0, p0, q0, hargs, rfl, rfl, h0, r0⟩ := trodAll_cons hA
  obtain ⟨v1, vs1, d1, ds1, p1, q1, rfl, rfl, rfl, h1, r1⟩ := trodAll_cons r0
  obtain ⟨rfl, rfl, rfl⟩ := trodAll_nil r1
  obtain rfl : args = #[v0, v1] := by cases args; simp_all
  obtain ⟨rfl, rfl⟩ := trodVars_none hV
  obtain ⟨a0, len0, cap0, rfl⟩ := okWide_slice Try.underlying22 (hval 0 22 v0 rfl rfl)
  have k0 := h0
  have lt0 : ∀ x ∈ p0, x.block < W.heap.size := by obtain ⟨m, hm⟩ := k0; exact DataW.trod_lt m _ _ _ hm
  obtain ⟨z0, w0⟩ : ∃ zs, IsRow .u8 W a0 len0 cap0 zs := by
    obtain ⟨fuel, hf⟩ := h0
    rcases open_ints Try.underlying22 Try.underlying5 (by kernel_rfl) hf with ⟨hcs, _⟩ | ⟨x, l, c, zs, hcs, _, hl, hm, hz, _, hcell, hwz⟩
    · simp [Value.cells] at hcs
      obtain ⟨rfl, rfl, rfl⟩ := hcs
      exact ⟨[], .inl ⟨rfl, rfl, rfl, rfl⟩⟩
    · simp [Value.cells] at hcs
      obtain ⟨rfl, rfl, rfl⟩ := hcs
      exact ⟨zs, .inr ⟨_, rfl, hl, hm, by simpa using hz, hcell, hwz⟩⟩
  obtain ⟨a1, rfl, rfl, rfl, w1⟩ := open_int Try.underlying3 (hval 1 3 v1 rfl rfl) h1
  clear hA0 hval0
  refine (walk a0 len0 cap0 z0 a1 W w0 w1).mono fun e W' ⟨he, bel⟩ => ?_
  subst he
  exact ⟨_, rfl, _, _, _, [], _, [], hW', trodAll_mk1 (shut_bool Try.underlying4 _), (trodAll_cons_mk (Below.trod laidOut (by kernel_rfl) (of_decide_eq_true (by kernel_rfl)) k0 bel lt0) (trodAll_cons_mk (shut_int Try.underlying3 w1) trodAll_mk0)), rfl, bel.frame _, fun h => by cases h⟩

theorem over : Rows.crcPartsRow.holds Try.pinned (OpenSpec.ofChange Rows.crcPartsSpec) :=
  OpenClaim.holds_of_wide 5 Try.f5 rfl rfl rfl rfl rfl rfl rfl ⟨rfl, rfl, rfl, rfl, rfl⟩ rfl rfl rfl rfl rfl (by kernel_rfl) Try.func5 (by kernel_rfl)
    (of_decide_eq_true (by kernel_rfl)) (by unfold Func.isWrapper; first | (rw [if_pos (by decide +kernel)]; kernel_rfl) | (rw [if_neg (by decide +kernel)]; exact ⟨rfl, rfl⟩))
    (fun os started H enc _ => lifted os started H enc)

theorem proved : Rows.CrcPartsSaid := over
#print axioms proved
end Go.Proofs.Ytcjgnnbbbhmfnaa.crcParts
