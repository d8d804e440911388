/-
  CrcLinear: of two texts of one length (up to 2000 bytes; else nothing is asked), their exclusive or, and nothing of that length, the sums are linear; no condition on the input.
  The frame round the walk is written by the guide's own program for this statement.
-/
import Derived.Test.YtcjgnnbbbhmfnaaRows
import Derived.Test.YtcjgnnbbbhmfnaaCrcRef
import Derived.Test.YtcjgnnbbbhmfnaaApp
import Derived.WalkKit
import Derived.ProofKit
import Derived.OpenShut
import Derived.ShutString
import Derived.ChangeOld
import Derived.Below
namespace Go.Proofs.Ytcjgnnbbbhmfnaa.crcLinear
open Go.ChangeShapes Go.WideShapes Go.ChangeAt Go.RowKit
open Go.ChangeMaps (open_string shut_string)
set_option linter.unusedVariables false

theorem own : ownKnob Try.prog.godebug = none := by kernel_rfl
theorem laidOut : laidOutB Try.prog = true := by kernel_rfl

/-- WHAT THE WALK IS TOLD OF A SLICE OF INTEGERS THAT CAME IN: it is nil; or it leads to a row of 'cap' cells, the numbers 'zs' (the first 'len' are its elements, the rest its spare room), each fitting its kind. -/
def IsRow (k : IntKind) (w : World) (a : Option Addr) (len cap : Nat) (zs : List Int) : Prop :=
  (a = none ∧ len = 0 ∧ cap = 0 ∧ zs = []) ∨
  ∃ x, a = some x ∧ len ≤ cap ∧ cap ≤ maxLen ∧ zs.length = cap ∧ (∀ i, i < zs.length → w.cell? (x.add i) = some (.int k (zs.getD i 0))) ∧ ∀ n ∈ zs, (Lit.int k n).wf = true

open Crc
theorem makebytes (n : Nat) (hn : n ≤ 2000) (W : World) :
    (Instr.makeSlice 22 (.int .i64 (n : Int)) (.int .i64 (n : Int))).run Try.prog W = .ok (.slice (some ⟨W.heap.size, 0, none⟩) n n) (W.alloc (.cells (madeCells #[.int .u8 0] n) 5)) := by
  obtain ⟨i0, hi0, hz0, hz1, hz2⟩ := info_parts (P := Try.prog) (e := 5) (z := .int .u8 0) (size := 1) (bytes := 1) (by kernel_rfl)
  have h := run_make (P := Try.prog) W 22 5 i0 _ Try.underlying22 hi0 hz0 .i64 .i64 n n (by omega) (Int.le_refl _) (by rw [hz2]; omega) (by omega)
  rw [hz1, Nat.mul_one, Int.toNat_natCast] at h
  exact h
theorem holds_made (wr : World) (k : Nat) (W : World) (hW : Below (wr.heap.size + 1) (wr.alloc (.cells (madeCells #[.int .u8 0] k) 5)) W) :
    Holds W (some ⟨wr.heap.size, 0, none⟩) (bytes (List.replicate k 0)) := by
  intro _
  refine ⟨wr.heap.size, 0, rfl, fun j u hu => ?_⟩
  rw [hW.cell (p := ⟨wr.heap.size, 0 + j, none⟩) (by simp), World.cell?_alloc_mark, Nat.zero_add, ← hu, ← Array.getElem?_toList, toList_madeCells_one, bytes_replicate]
set_option maxHeartbeats 2000000 in
theorem walk (a0 : Option Addr) (len0 cap0 : Nat) (z0 : List Int) (a1 : Option Addr) (len1 cap1 : Nat) (z1 : List Int) (w : World) (w0 : IsRow .u8 w a0 len0 cap0 z0) (w1 : IsRow .u8 w a1 len1 cap1 z1) :
    Calls Try.prog 7 #[.slice a0 len0 cap0, .slice a1 len1 cap1] w fun e w' => e = .returned (.bool true) ∧ Below w.heap.size w w' := by
  obtain ⟨la, hla, hac, hacap, hA, hnila⟩ := holds_of_row w0
  obtain ⟨lb, hlb, hbc, hbcap, hB, hnilb⟩ := holds_of_row w1
  unfold maxLen at hacap hbcap
  have h3 := hid_ (fun W => alive_any W)
  clear w0 w1
  by_cases hne : len0 = len1
  · by_cases hbig : 2000 < len0
    · subst hne
      go_enter Try.func7, Try.ntmps7
      go_wp2_with fail
      go_ways
      refine (h3.out _).mono ?_
      rintro e w' ⟨rfl, hbel⟩
      go_wp2
      go_ret
      exact ⟨rfl, hbel⟩
    · subst hne
      have hb : ¬ ((2000 : Int) < (len0 : Int)) := by omega
      have hmk := makebytes len0 (by omega)
      have K0 := World.ownsRow_lit (base := w.heap.size) (e := 5) (size := 1) w (madeCells #[.int .u8 0] len0) len0 (Nat.le_refl _) (by unfold maxLen; omega) (by rw [size_madeCells, Nat.mul_one])
      rw [toList_madeCells_one, ← bytes_replicate, ← hla, ← sofar_zero la lb, hla] at K0
      have HK := hid_ K0
      clear K0
      have HA := hid_ hA
      have HB := hid_ hB
      have Hla := hid_ hla
      have Hlb := hid_ hlb
      clear hA hB hnila hnilb hla hlb
      go_enter Try.func7, Try.ntmps7
      go_wp2_with fail
      clear hmk
      go_loopw [6] (fun i wr => ∃ k : Nat, k ≤ len0 ∧ i = .int .i64 k ∧ wr.ownsRow w.heap.size 5 1 (.slice (some ⟨w.heap.size, 0, none⟩) len0 len0) len0 (bytes (sofar la lb k)) ∧ Below w.heap.size w wr) (fun i _ => len0 - (intOf i).toNat)
      case atStart => exact ⟨0, by omega, rfl, HK.out, (Below.refl _ _).alloc (Nat.le_refl _) _⟩
      case round =>
        obtain ⟨k, hk, rfl, hown, hbel⟩ := hrel
        by_cases hlt : k < len0
        · have hka : k < la.length := by rw [Hla.out]; exact hlt
          have hkb : k < lb.length := by rw [Hlb.out]; exact hlt
          obtain ⟨ba, oa, rfl, hca⟩ := (HA.out.below hbel).at_ hka
          obtain ⟨bb, ob, rfl, hcb⟩ := (HB.out.below hbel).at_ hkb
          have hx := byte_xor la[k] lb[k]
          have hlen := sofar_length la lb (by rw [Hla.out, Hlb.out]) k (by omega)
          have hcc := hown.cellAt k (by omega)
          rw [bytes_get (show k < (sofar la lb k).length by omega)] at hcc
          generalize Value.int .u8 (((sofar la lb k)[k]'(by omega)).toNat : Int) = v0 at hcc
          have hfr := hown.frozenAt k
          have hs := hown.stored k (.int .u8 ((la[k] ^^^ lb[k]).toNat : Int))
          rw [bytes_set, sofar_succ la lb (by rw [Hla.out, Hlb.out]) k hka] at hs
          have HO := hid_ hs.1
          have HBel := hid_ (hbel.setCell (p := ⟨w.heap.size, k, none⟩) (Nat.le_refl _) (.int .u8 ((la[k] ^^^ lb[k]).toNat : Int)))
          clear hown hbel hs hlen
          go_wp2_with fail
          go_region
          all_goals
            go_wp2
            go_roundw
            case rel => exact ⟨k + 1, by omega, by go_num, HO.out, HBel.out.drew⟩
            case measure => simp [intOf]; omega
        · obtain rfl : k = len0 := by omega
          have HBel := hid_ hbel
          have C1 := hid_ (fun (W : World) (hW : Below wr.heap.size wr W) => sum_any a0 k cap0 la W (HA.out.below (hbel.trans (hW.mono hbel.size))) Hla.out (by omega))
          have C2 := hid_ (fun (W : World) (hW : Below wr.heap.size wr W) => sum_any a1 k cap1 lb W (HB.out.below (hbel.trans (hW.mono hbel.size))) Hlb.out (by omega))
          have hsl : sofar la lb k = List.zipWith (· ^^^ ·) la lb := by
            have := sofar_all la lb (by rw [Hla.out, Hlb.out])
            rwa [Hla.out] at this
          rw [hsl] at hown
          have C4 := hid_ (fun (W : World) (hW : Below wr.heap.size wr W) => sum_any (some ⟨w.heap.size, 0, none⟩) k k (List.zipWith (· ^^^ ·) la lb) W ((own_holds hown).below hW) (by simp [List.length_zipWith, Hla.out, Hlb.out]) (by omega))
          have C3 := hid_ (fun (W : World) (hW : Below (wr.heap.size + 1) (wr.alloc (.cells (madeCells #[.int .u8 0] k) 5)) W) => sum_any (some ⟨wr.heap.size, 0, none⟩) k k (List.replicate k 0) W (holds_made wr k W hW) (by simp) (by omega))
          have hmk := makebytes k (by omega)
          have hmb := more_both la lb (by rw [Hla.out, Hlb.out])
          rw [Hla.out] at hmb
          clear hown hbel hsl
          generalize more 0#32 la = x at *
          generalize more 0#32 lb = y at *
          generalize more 0#32 (List.replicate k 0) = z at *
          generalize more 0#32 (List.zipWith (· ^^^ ·) la lb) = t at *
          have hx1 := bits_xor x y
          have hx2 := bits_xor (x ^^^ y) z
          rw [hmb] at hx2
          clear hmb
          generalize x ^^^ y = xy at *
          go_wp2_with fail
          go_region_with (first | ((with_reducible refine (C1.out _ (by repeat (first | exact Below.refl _ _ | apply Below.drew | apply below_drewN | refine Below.alloc ?_ (by simp) _))).mono ?_); rintro e w' ⟨rfl, rfl⟩) | ((with_reducible refine (C2.out _ (by repeat (first | exact Below.refl _ _ | apply Below.drew | apply below_drewN | refine Below.alloc ?_ (by simp) _))).mono ?_); rintro e w' ⟨rfl, rfl⟩) | ((with_reducible refine (C3.out _ (by repeat (first | exact Below.refl _ _ | apply Below.drew | apply below_drewN | refine Below.alloc ?_ (by simp) _))).mono ?_); rintro e w' ⟨rfl, rfl⟩) | ((with_reducible refine (C4.out _ (by repeat (first | exact Below.refl _ _ | apply Below.drew | apply below_drewN | refine Below.alloc ?_ (by simp) _))).mono ?_); rintro e w' ⟨rfl, rfl⟩) | ((with_reducible refine (h3.out _).mono ?_); rintro e w' ⟨rfl, hbel⟩))
          all_goals
            go_wp2
            go_ret
            refine ⟨rfl, HBel.out.trans (Below.mono (B := wr.heap.size) ?_ HBel.out.size)⟩
            exact Below.trans (by repeat (first | exact Below.refl _ _ | apply Below.drew | apply below_drewN | refine Below.alloc ?_ (by simp) _)) (hbel.mono (by simp))
  · have hb : ((len0 : Int) != (len1 : Int)) = true := by rw [bne_iff_ne]; omega
    go_enter Try.func7, Try.ntmps7
    go_wp2_with fail
    refine (h3.out _).mono ?_
    rintro e w' ⟨rfl, hbel⟩
    go_wp2
    go_ret
    exact ⟨rfl, hbel⟩

set_option maxRecDepth 100000 in
theorem lifted (os : Os) (started : os.Started) (H : Type) (enc : TypeId × Value → H) :
    ReturnsInHanded {} Try.checked os 7 .any (Rows.crcLinearSpec.pre6 enc Try.prog Try.f7 Rows.crcLinearRow.domain false) (Rows.crcLinearSpec.post enc Try.prog Try.f7 false true false false) := by
  refine returnsInHanded_of_change (C := Try.checked) own started (by kernel_rfl) Try.func7
    (ChangeSpec.witness6 (enc := enc) (C := Try.checked) false ⟨#[], #[.slice none 0 0, .slice none 0 0], []⟩ 8 (by kernel_rfl) (by kernel_rfl) (by kernel_rfl) (by kernel_rfl)) ?_
  intro W base args ds gs before hval0 hW hcnd _
  have hval : ∀ (j : Nat) t v, Try.f7.params[j]? = some t → args[j]? = some v → Value.okWide Try.prog W .any base t v := hval0
  have hW' := hW
  obtain ⟨p, q, hA0, hV, rfl, hfz, hnd⟩ := hW
  have hA : DataW.TrodAll enc Try.prog W 0 (fun _ => true) true Try.f7.params.toList args.toList ds p := hA0
  rw [Try.params7] at hA hval
  obtain ⟨v0, vs0, d0, ds0, p0, q0, hargs, rfl, rfl, h0, r0⟩ := trodAll_cons hA
  obtain ⟨v1, vs1, d1, ds1, p1, q1, rfl, rfl, rfl, h1, r1⟩ := trodAll_cons r0
  obtain ⟨rfl, rfl, rfl⟩ := trodAll_nil r1
  obtain rfl : args = #[v0, v1] := by cases args; simp_all
  obtain ⟨rfl, rfl⟩ := trodVars_none hV
  obtain ⟨a0, len0, cap0, rfl⟩ := okWide_slice Try.underlying22 (hval 0 22 v0 rfl rfl)
  have k0 := h0
  have lt0 : ∀ x ∈ p0, x.block < W.heap.size := by obtain ⟨m, hm⟩ := k0; exact DataW.trod_lt m _ _ _ hm
  obtain ⟨z0, w0⟩ : ∃ zs, IsRow .u8 W a0 len0 cap0 zs := by
    obtain ⟨fuel, hf⟩ := h0
    rcases open_ints Try.underlying22 Try.underlying5 (by kernel_rfl) hf with ⟨hcs, _⟩ | ⟨x, l, c, zs, hcs, _, hl, hm, hz, _, hcell, hwz⟩
    · simp [Value.cells] at hcs
      obtain ⟨rfl, rfl, rfl⟩ := hcs
      exact ⟨[], .inl ⟨rfl, rfl, rfl, rfl⟩⟩
    · simp [Value.cells] at hcs
      obtain ⟨rfl, rfl, rfl⟩ := hcs
      exact ⟨zs, .inr ⟨_, rfl, hl, hm, by simpa using hz, hcell, hwz⟩⟩
  obtain ⟨a1, len1, cap1, rfl⟩ := okWide_slice Try.underlying22 (hval 1 22 v1 rfl rfl)
  have k1 := h1
  have lt1 : ∀ x ∈ p1, x.block < W.heap.size := by obtain ⟨m, hm⟩ := k1; exact DataW.trod_lt m _ _ _ hm
  obtain ⟨z1, w1⟩ : ∃ zs, IsRow .u8 W a1 len1 cap1 zs := by
    obtain ⟨fuel, hf⟩ := h1
    rcases open_ints Try.underlying22 Try.underlying5 (by kernel_rfl) hf with ⟨hcs, _⟩ | ⟨x, l, c, zs, hcs, _, hl, hm, hz, _, hcell, hwz⟩
    · simp [Value.cells] at hcs
      obtain ⟨rfl, rfl, rfl⟩ := hcs
      exact ⟨[], .inl ⟨rfl, rfl, rfl, rfl⟩⟩
    · simp [Value.cells] at hcs
      obtain ⟨rfl, rfl, rfl⟩ := hcs
      exact ⟨zs, .inr ⟨_, rfl, hl, hm, by simpa using hz, hcell, hwz⟩⟩
  clear hA0 hval0
  refine (walk a0 len0 cap0 z0 a1 len1 cap1 z1 W w0 w1).mono fun e W' ⟨he, bel⟩ => ?_
  subst he
  exact ⟨_, rfl, _, _, _, [], _, [], hW', trodAll_mk1 (shut_bool Try.underlying4 _), (trodAll_cons_mk (Below.trod laidOut (by kernel_rfl) (of_decide_eq_true (by kernel_rfl)) k0 bel lt0) (trodAll_cons_mk (Below.trod laidOut (by kernel_rfl) (of_decide_eq_true (by kernel_rfl)) k1 bel lt1) trodAll_mk0)), rfl, bel.frame _, fun h => by cases h⟩

theorem over : Rows.crcLinearRow.holds Try.pinned (OpenSpec.ofChange Rows.crcLinearSpec) :=
  OpenClaim.holds_of_wide 7 Try.f7 rfl rfl rfl rfl rfl rfl rfl ⟨rfl, rfl, rfl, rfl, rfl⟩ rfl rfl rfl rfl rfl (by kernel_rfl) Try.func7 (by kernel_rfl)
    (of_decide_eq_true (by kernel_rfl)) (by unfold Func.isWrapper; first | (rw [if_pos (by decide +kernel)]; kernel_rfl) | (rw [if_neg (by decide +kernel)]; exact ⟨rfl, rfl⟩))
    (fun os started H enc _ => lifted os started H enc)

theorem proved : Rows.CrcLinearSaid := over
#print axioms proved
end Go.Proofs.Ytcjgnnbbbhmfnaa.crcLinear
