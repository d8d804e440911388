/-
  CrcBursts: of bytes (up to 2000) any bits that are turned within 32 places, at least one of them, change the sum; where the place or the bits are not such nothing is asked; no condition on the input.
  The frame round the walk is written by the guide's own program for this statement.
-/
import Derived.Test.YtcjgnnbbbhmfnaaRows
import Derived.Test.YtcjgnnbbbhmfnaaCrcRef
import Derived.Test.YtcjgnnbbbhmfnaaApp
import Derived.WalkKit
import Derived.ProofKit
import Derived.OpenShut
import Derived.ShutString
import Derived.ChangeOld
import Derived.Below
namespace Go.Proofs.Ytcjgnnbbbhmfnaa.crcBursts
open Go.ChangeShapes Go.WideShapes Go.ChangeAt Go.RowKit
open Go.ChangeMaps (open_string shut_string)
set_option linter.unusedVariables false

theorem own : ownKnob Try.prog.godebug = none := by kernel_rfl
theorem laidOut : laidOutB Try.prog = true := by kernel_rfl

/-- WHAT THE WALK IS TOLD OF A SLICE OF INTEGERS THAT CAME IN: it is nil; or it leads to a row of 'cap' cells, the numbers 'zs' (the first 'len' are its elements, the rest its spare room), each fitting its kind. -/
def IsRow (k : IntKind) (w : World) (a : Option Addr) (len cap : Nat) (zs : List Int) : Prop :=
  (a = none ∧ len = 0 ∧ cap = 0 ∧ zs = []) ∨
  ∃ x, a = some x ∧ len ≤ cap ∧ cap ≤ maxLen ∧ zs.length = cap ∧ (∀ i, i < zs.length → w.cell? (x.add i) = some (.int k (zs.getD i 0))) ∧ ∀ n ∈ zs, (Lit.int k n).wf = true

open Crc
theorem info_u8 : (Try.prog.info? 5).map (fun i => (i.zero, i.size, i.bytes)) = some (some (.int .u8 0), 1, 1) := by kernel_rfl
set_option maxHeartbeats 2000000 in
theorem walk (a0 : Option Addr) (len0 cap0 : Nat) (z0 : List Int) (a1 : Int) (a2 : Int) (w : World) (w0 : IsRow .u8 w a0 len0 cap0 z0) (w1 : (Lit.int .i64 a1).wf = true) (w2 : (Lit.int .u32 a2).wf = true) :
    Calls Try.prog 6 #[.slice a0 len0 cap0, .int .i64 a1, .int .u32 a2] w fun e w' => e = .returned (.bool true) ∧ Below w.heap.size w w' := by
  obtain ⟨l, hl, hlc, hcap, hA, hnil⟩ := holds_of_row w0
  unfold maxLen at hcap
  have h3 := hid_ (fun W => alive_any W)
  obtain ⟨x, rfl⟩ := reg_of w2
  have hat : -9223372036854775808 ≤ a1 ∧ a1 ≤ 9223372036854775807 := by simpa [Lit.wf, IntKind.min, IntKind.max, IntKind.bits, IntKind.signed] using w1
  obtain ⟨hat1, hat2⟩ := hat
  clear w0 w1 w2
  have hzn : x = 0#32 ∨ x ≠ 0#32 := Classical.em _
  have hz1' : x = 0#32 → ((x.toNat : Int) == 0) = true := fun e => by subst e; rfl
  have hz2' : x ≠ 0#32 → ((x.toNat : Int) == 0) = false := fun e => by
    rw [beq_eq_false_iff_ne]
    intro h
    exact e (BitVec.eq_of_toNat_eq (by simpa using h))
  have hcase : (2000 < len0) ∨ (len0 ≤ 2000 ∧ a1 < 0) ∨ (len0 ≤ 2000 ∧ 0 ≤ a1 ∧ 8 * (len0 : Int) < a1) ∨ (len0 ≤ 2000 ∧ 0 ≤ a1 ∧ a1 ≤ 8 * (len0 : Int) ∧ 8 * (len0 : Int) - a1 < 32) ∨
      (len0 ≤ 2000 ∧ 0 ≤ a1 ∧ a1 ≤ 8 * (len0 : Int) ∧ 32 ≤ 8 * (len0 : Int) - a1 ∧ ((x.toNat : Int) == 0) = true) ∨
      (len0 ≤ 2000 ∧ 0 ≤ a1 ∧ a1 ≤ 8 * (len0 : Int) ∧ 32 ≤ 8 * (len0 : Int) - a1 ∧ Hid (x ≠ 0#32) ∧ ((x.toNat : Int) == 0) = false) := by
    rcases hzn with e | e
    · have := hz1' e
      simp [this]
      omega
    · have := hz2' e
      have e' : Hid (x ≠ 0#32) := e
      simp [this, e']
      omega
  clear hzn hz1' hz2'
  rcases hcase with hb1 | ⟨hb1, hb2⟩ | ⟨hb1, hb2, hb3⟩ | ⟨hb1, hb2, hb3, hb4⟩ | ⟨hb1, hb2, hb3, hb4, hb5⟩ | ⟨hb1, hb2, hb3, hb4, hx, hb5⟩
  rotate_left 5
  · have e1 : decide ((2000 : Int) < (len0 : Int)) = false := by simp; omega
    have e2 : decide (a1 < 0) = false := by simp; omega
    have e3 : decide (8 * (len0 : Int) < a1) = false := by simp; omega
    have e4 : decide (8 * (len0 : Int) - a1 < 32) = false := by simp; omega
    obtain ⟨n, rfl⟩ := Int.eq_ofNat_of_zero_le hb2
    obtain ⟨i0, hi0, hz0, hz1, hz2⟩ := info_parts info_u8
    have K0 := hid_ (World.ownsRow_lit (base := w.heap.size) (e := 5) (size := 1) w #[] 0 (Nat.le_refl _) (by unfold maxLen; omega) rfl)
    have K1 := hid_ (show (bytes l).length = len0 * 1 by rw [bytes_length, hl]; omega)
    have K2 := hid_ (hA.below ((Below.refl _ _).alloc (Nat.le_refl _) (.cells #[] 5)))
    have K3 := hid_ hnil
    have K4 := hid_ (show len0 ≤ maxLen by unfold maxLen; omega)
    have K5 := hid_ (show len0 * 1 ≤ 140737488355328 by omega)
    have K6 := hid_ (show w.heap.size ≤ (w.alloc (.cells #[] 5)).heap.size by simp)
    have Hl := hid_ hl
    have HA := hid_ hA
    clear hA hnil hl
    go_enter Try.func6, Try.ntmps6
    go_wp2_with (at_builtin; go_loud (refine wpList_app _ rfl (.tmp 37) (.tmp 38) _ rfl w.heap.size 5 i0 _ 1 1 Try.underlying22 hi0 hz0 hz1 hz2 rfl (by omega) (.slice (some ⟨w.heap.size, 0, none⟩) 0 0) 0 [] rfl K0.out a0 len0 cap0 (bytes l) rfl K1.out K2.out K3.out (bytes_one l) len0 (bytes l) (by omega) rfl K4.out K5.out K6.out ?_); intro A1 d1 w1 hown1 hg1 hat; have hbw := ((Below.refl w.heap.size w).alloc (Nat.le_refl _) (.cells #[] 5)).grown hg1 (by simp) (by intro k hk; cases hk; exact Nat.le_refl _); clear hg1)
    obtain ⟨g, rfl, hg0, hglt, hd1⟩ := own_place hown1 (by omega)
    go_wp2_with fail
    clear e1 e2 e3 e4
    have HO := hid_ hown1
    have HBel := hid_ hbw
    clear hown1 hbw
    go_loopw [8, 9] (fun i _ wr => ∃ k : Nat, k ≤ 32 ∧ i = .int .i64 k ∧ ∃ c : List UInt8, c.length = len0 ∧ wr.ownsRow w.heap.size 5 1 (.slice (some ⟨g, 0, none⟩) len0 d1) len0 (bytes c) ∧ Below w.heap.size w wr ∧
      Hid (regs (inv 0#32) c = regs (inv 0#32) l ^^^ steps (8 * l.length - n) (lows x k))) (fun i _ _ => 32 - (intOf i).toNat)
    case atStart => exact ⟨0, by omega, rfl, l, Hl.out, HO.out, HBel.out, by show _ = _; rw [lows, steps_zero, BitVec.xor_zero]⟩
    case round =>
      obtain ⟨k, hk, rfl, c, hcl, hown, hbel, hreg⟩ := hrel
      by_cases hlt : k < 32
      · cases hb : x.getLsbD k
        · have hbb := bit_no hb
          have HR := hid_ (turned_not l c _ k x hb hreg.out)
          have HO2 := hid_ hown
          have HB2 := hid_ hbel
          clear hb hown hbel hreg hat
          go_wp2_with fail
          go_roundw
          case rel => exact ⟨k + 1, by omega, by go_num, c, hcl, HO2.out, HB2.out, HR⟩
          case measure => simp [intOf]; omega
        · have hbb := bit_yes hb
          have hp : (n + k) / 8 < c.length := by omega
          have HR := hid_ (turned_step l c n k (n + k) x (by rw [hcl, Hl.out]) (by rw [Hl.out]; omega) hlt rfl hb hreg.out hp)
          have hcc := hown.cellAt ((n + k) / 8) (by omega)
          rw [bytes_get hp] at hcc
          have hs := hown.stored ((n + k) / 8) (.int .u8 ((c[(n + k) / 8] ^^^ bit8 ((n + k) % 8)).toNat : Int))
          rw [bytes_set] at hs
          have HO2 := hid_ hs.1
          have HB2 := hid_ (hbel.setCell (p := ⟨g, (n + k) / 8, none⟩) hg0 (.int .u8 ((c[(n + k) / 8] ^^^ bit8 ((n + k) % 8)).toNat : Int)))
          have hfr := hown.frozenAt ((n + k) / 8)
          have hbt := turn_byte c[(n + k) / 8] ((n + k) % 8)
          have hcl2 := hid_ (show (c.set ((n + k) / 8) (c[(n + k) / 8] ^^^ bit8 ((n + k) % 8))).length = len0 by rw [List.length_set, hcl])
          generalize c.set ((n + k) / 8) (c[(n + k) / 8] ^^^ bit8 ((n + k) % 8)) = c2 at *
          generalize c[(n + k) / 8] ^^^ bit8 ((n + k) % 8) = b2 at *
          generalize c[(n + k) / 8] = b at *
          clear hb hown hbel hreg hat hs
          go_wp2_with fail
          go_roundw
          case rel => exact ⟨k + 1, by omega, by go_num, c2, hcl2.out, HO2.out, HB2.out, HR⟩
          case measure => simp [intOf]; omega
      · obtain rfl : k = 32 := by omega
        have C1 := hid_ (sum_any (some ⟨g, 0, none⟩) len0 d1 c wr (own_holds hown) hcl (by omega))
        have C2 := hid_ (sum_any a0 len0 cap0 l wr (HA.out.below hbel) Hl.out (by omega))
        have hreg2 := hreg.out
        rw [lows_all] at hreg2
        have hne := turned_seen l c _ x hx.out hreg2
        generalize more 0#32 c = y at *
        generalize more 0#32 l = z at *
        have hnb : ((y.toNat : Int) != (z.toNat : Int)) = true := by
          rw [bne_iff_ne]
          intro h
          exact hne (BitVec.eq_of_toNat_eq (by omega))
        have HB2 := hid_ hbel
        clear hne hreg hreg2 hown hbel hat hcl
        go_wp2_with fail
        refine C1.out.mono ?_
        rintro e w' ⟨rfl, rfl⟩
        go_wp2_with fail
        refine C2.out.mono ?_
        rintro e w' ⟨rfl, rfl⟩
        go_wp2_with fail
        refine (h3.out _).mono ?_
        rintro e w' ⟨rfl, hbel⟩
        go_wp2
        go_ret
        exact ⟨rfl, HB2.out.trans (hbel.mono HB2.out.size)⟩
  all_goals
    go_enter Try.func6, Try.ntmps6
    go_wp2_with fail
    refine (h3.out _).mono ?_
    rintro e w' ⟨rfl, hbel⟩
    go_wp2
    go_ret
    exact ⟨rfl, hbel⟩

set_option maxRecDepth 100000 in
theorem lifted (os : Os) (started : os.Started) (H : Type) (enc : TypeId × Value → H) :
    ReturnsInHanded {} Try.checked os 6 .any (Rows.crcBurstsSpec.pre6 enc Try.prog Try.f6 Rows.crcBurstsRow.domain false) (Rows.crcBurstsSpec.post enc Try.prog Try.f6 false true false false) := by
  refine returnsInHanded_of_change (C := Try.checked) own started (by kernel_rfl) Try.func6
    (ChangeSpec.witness6 (enc := enc) (C := Try.checked) false ⟨#[], #[.slice none 0 0, .int .i64 0, .int .u32 0], []⟩ 8 (by kernel_rfl) (by kernel_rfl) (by kernel_rfl) (by kernel_rfl)) ?_
  intro W base args ds gs before hval0 hW hcnd _
  have hval : ∀ (j : Nat) t v, Try.f6.params[j]? = some t → args[j]? = some v → Value.okWide Try.prog W .any base t v := hval0
  have hW' := hW
  obtain ⟨p, q, hA0, hV, rfl, hfz, hnd⟩ := hW
  have hA : DataW.TrodAll enc Try.prog W 0 (fun _ => true) true Try.f6.params.toList args.toList ds p := hA0
  rw [Try.params6] at hA hval
  obtain ⟨v0, vs0, d0, ds0, p0, q0, hargs, rfl, rfl, h0, r0⟩ := trodAll_cons hA
  obtain ⟨v1, vs1, d1, ds1, p1, q1, rfl, rfl, rfl, h1, r1⟩ := trodAll_cons r0
  obtain ⟨v2, vs2, d2, ds2, p2, q2, rfl, rfl, rfl, h2, r2⟩ := trodAll_cons r1
  obtain ⟨rfl, rfl, rfl⟩ := trodAll_nil r2
  obtain rfl : args = #[v0, v1, v2] := by cases args; simp_all
  obtain ⟨rfl, rfl⟩ := trodVars_none hV
  obtain ⟨a0, len0, cap0, rfl⟩ := okWide_slice Try.underlying22 (hval 0 22 v0 rfl rfl)
  have k0 := h0
  have lt0 : ∀ x ∈ p0, x.block < W.heap.size := by obtain ⟨m, hm⟩ := k0; exact DataW.trod_lt m _ _ _ hm
  obtain ⟨z0, w0⟩ : ∃ zs, IsRow .u8 W a0 len0 cap0 zs := by
    obtain ⟨fuel, hf⟩ := h0
    rcases open_ints Try.underlying22 Try.underlying5 (by kernel_rfl) hf with ⟨hcs, _⟩ | ⟨x, l, c, zs, hcs, _, hl, hm, hz, _, hcell, hwz⟩
    · simp [Value.cells] at hcs
      obtain ⟨rfl, rfl, rfl⟩ := hcs
      exact ⟨[], .inl ⟨rfl, rfl, rfl, rfl⟩⟩
    · simp [Value.cells] at hcs
      obtain ⟨rfl, rfl, rfl⟩ := hcs
      exact ⟨zs, .inr ⟨_, rfl, hl, hm, by simpa using hz, hcell, hwz⟩⟩
  obtain ⟨a1, rfl, rfl, rfl, w1⟩ := open_int Try.underlying3 (hval 1 3 v1 rfl rfl) h1
  obtain ⟨a2, rfl, rfl, rfl, w2⟩ := open_int Try.underlying23 (hval 2 23 v2 rfl rfl) h2
  clear hA0 hval0
  refine (walk a0 len0 cap0 z0 a1 a2 W w0 w1 w2).mono fun e W' ⟨he, bel⟩ => ?_
  subst he
  exact ⟨_, rfl, _, _, _, [], _, [], hW', trodAll_mk1 (shut_bool Try.underlying4 _), (trodAll_cons_mk (Below.trod laidOut (by kernel_rfl) (of_decide_eq_true (by kernel_rfl)) k0 bel lt0) (trodAll_cons_mk (shut_int Try.underlying3 w1) (trodAll_cons_mk (shut_int Try.underlying23 w2) trodAll_mk0))), rfl, bel.frame _, fun h => by cases h⟩

theorem over : Rows.crcBurstsRow.holds Try.pinned (OpenSpec.ofChange Rows.crcBurstsSpec) :=
  OpenClaim.holds_of_wide 6 Try.f6 rfl rfl rfl rfl rfl rfl rfl ⟨rfl, rfl, rfl, rfl, rfl⟩ rfl rfl rfl rfl rfl (by kernel_rfl) Try.func6 (by kernel_rfl)
    (of_decide_eq_true (by kernel_rfl)) (by unfold Func.isWrapper; first | (rw [if_pos (by decide +kernel)]; kernel_rfl) | (rw [if_neg (by decide +kernel)]; exact ⟨rfl, rfl⟩))
    (fun os started H enc _ => lifted os started H enc)

theorem proved : Rows.CrcBurstsSaid := over
#print axioms proved
end Go.Proofs.Ytcjgnnbbbhmfnaa.crcBursts
