/-
  CrcRest: bytes (up to 5000; above it nothing is asked) with their own sum behind them, the lowest byte first, always have the sum 2144df1c; no condition on the input.
  The frame round the walk is written by the guide's own program for this statement.
-/
import Derived.Test.YtcjgnnbbbhmfnaaRows
import Derived.Test.YtcjgnnbbbhmfnaaCrcRef
import Derived.Test.YtcjgnnbbbhmfnaaApp
import Derived.WalkKit
import Derived.ProofKit
import Derived.OpenShut
import Derived.ShutString
import Derived.ChangeOld
import Derived.Below
namespace Go.Proofs.Ytcjgnnbbbhmfnaa.crcRest
open Go.ChangeShapes Go.WideShapes Go.ChangeAt Go.RowKit
open Go.ChangeMaps (open_string shut_string)
set_option linter.unusedVariables false

theorem own : ownKnob Try.prog.godebug = none := by kernel_rfl
theorem laidOut : laidOutB Try.prog = true := by kernel_rfl

/-- WHAT THE WALK IS TOLD OF A SLICE OF INTEGERS THAT CAME IN: it is nil; or it leads to a row of 'cap' cells, the numbers 'zs' (the first 'len' are its elements, the rest its spare room), each fitting its kind. -/
def IsRow (k : IntKind) (w : World) (a : Option Addr) (len cap : Nat) (zs : List Int) : Prop :=
  (a = none ∧ len = 0 ∧ cap = 0 ∧ zs = []) ∨
  ∃ x, a = some x ∧ len ≤ cap ∧ cap ≤ maxLen ∧ zs.length = cap ∧ (∀ i, i < zs.length → w.cell? (x.add i) = some (.int k (zs.getD i 0))) ∧ ∀ n ∈ zs, (Lit.int k n).wf = true

open Crc
theorem info_u8 : (Try.prog.info? 5).map (fun i => (i.zero, i.size, i.bytes)) = some (some (.int .u8 0), 1, 1) := by kernel_rfl
theorem holds_word (w : World) (x : BitVec 32) (c0 c1 c2 : UInt8) (h0 : low x = c0) (h1 : low (x >>> 8) = c1) (h2 : low (x >>> 8 >>> 8) = c2) (T : TypeId) :
    Holds (w.alloc (.cells #[.int .u8 c0.toNat, .int .u8 c1.toNat, .int .u8 c2.toNat, .int .u8 ((x.toNat : Int) / (16777216 : Int))] T)) (some ⟨w.heap.size, 0, none⟩) (bytes (word x)) := by
  subst h0 h1 h2
  intro _
  refine ⟨w.heap.size, 0, rfl, fun k u hu => ?_⟩
  rw [byte3, World.cell?_alloc_mark, Nat.zero_add, ← hu, ← Array.getElem?_toList]
  rfl
theorem walk (a0 : Option Addr) (len0 cap0 : Nat) (z0 : List Int) (w : World) (w0 : IsRow .u8 w a0 len0 cap0 z0) :
    Calls Try.prog 9 #[.slice a0 len0 cap0] w fun e w' => e = .returned (.bool true) ∧ Below w.heap.size w w' := by
  obtain ⟨l, hl, hlc, hcap, hA, hnil⟩ := holds_of_row w0
  unfold maxLen at hcap
  have hlen : len0 ≤ 9223372036854775807 := by omega
  have h1 := hid_ (sum_any a0 len0 cap0 l w hA hl hlen)
  have h3 := hid_ (fun W => alive_any W)
  clear w0
  by_cases hbig : 5000 < len0
  · go_enter Try.func9, Try.ntmps9
    go_wp2_with fail
    refine (h3.out _).mono ?_
    rintro e w' ⟨rfl, hbel⟩
    go_wp2
    go_ret
    exact ⟨rfl, hbel⟩
  · have hb : ¬ ((5000 : Int) < (len0 : Int)) := by omega
    obtain ⟨i0, hi0, hz0, hz1, hz2⟩ := info_parts info_u8
    have K0 := hid_ (World.ownsRow_lit (base := w.heap.size) (e := 5) (size := 1) w #[] 0 (Nat.le_refl _) (by unfold maxLen; omega) rfl)
    have K1 := hid_ (show (bytes l).length = len0 * 1 by rw [bytes_length, hl]; omega)
    have K2 := hid_ (hA.below ((Below.refl _ _).alloc (Nat.le_refl _) (.cells #[] 5)))
    have K3 := hid_ hnil
    have K4 := hid_ (show len0 ≤ maxLen by unfold maxLen; omega)
    have K5 := hid_ (show len0 * 1 ≤ 140737488355328 by omega)
    have K6 := hid_ (show w.heap.size ≤ (w.alloc (.cells #[] 5)).heap.size by simp)
    have L4 := hid_ (show len0 + 4 ≤ maxLen by unfold maxLen; omega)
    have L5 := hid_ (show (len0 + 4) * 1 ≤ 140737488355328 by omega)
    have Hl := hid_ hl
    clear hA hnil hl
    have HR := hid_ (more_rest l)
    generalize more 0#32 l = x at h1 HR
    have b0 := byte0 x
    have b1 := byte1 x
    have b2 := byte2 x
    have HW := hid_ (fun (W : World) => holds_word W x _ _ _ rfl rfl rfl 5)
    generalize low x = c0 at *
    generalize low (x >>> 8) = c1 at *
    generalize low (x >>> 8 >>> 8) = c2 at *
    go_enter Try.func9, Try.ntmps9
    go_wp2_with fail
    refine h1.out.mono ?_
    rintro e w' ⟨rfl, rfl⟩
    have tok : True := trivial
    go_wp2_with (first | (at_builtin; have t1 := tok; clear tok; refine wpList_app _ rfl (.tmp 11) (.tmp 12) _ rfl w.heap.size 5 i0 _ 1 1 Try.underlying22 hi0 hz0 hz1 hz2 rfl (by omega) (.slice (some ⟨w.heap.size, 0, none⟩) 0 0) 0 [] rfl K0.out a0 len0 cap0 (bytes l) rfl K1.out K2.out K3.out (bytes_one l) len0 (bytes l) (by omega) rfl K4.out K5.out K6.out ?_; intro A1 d1 w1 hown1' hg1 hat1'; clear hat1'; have hown1 := hid_ (hown1'.alloc (.cells #[.int .u8 c0.toNat, .int .u8 c1.toNat, .int .u8 c2.toNat, .int .u8 ((x.toNat : Int) / (16777216 : Int))] 5)); clear hown1'; have hz := hid_ hg1.size; have hbw := hid_ (((Below.refl w.heap.size w).alloc (Nat.le_refl _) (.cells #[] 5)).grown hg1 (by simp) (by intro k hk; cases hk; exact Nat.le_refl _)); clear hg1) | (at_builtin; (refine wpList_app _ rfl (.tmp 13) (.tmp 28) _ rfl w.heap.size 5 i0 _ 1 1 Try.underlying22 hi0 hz0 hz1 hz2 rfl (by omega) (.slice A1 len0 d1) len0 (bytes l) rfl hown1.out (some ⟨w1.heap.size, 0, none⟩) 4 4 (bytes (word x)) rfl rfl (HW.out _) (by intro h; cases h) (bytes_one _) (len0 + 4) (bytes (l ++ word x)) rfl (bytes_append _ _).symm L4.out L5.out (Nat.le_trans hbw.out.size (by simp)) ?_); intro A2 d2 w2 hown2 hg2 hat2))
    have hbw2 := hid_ ((hbw.out.alloc hbw.out.size _).grown hg2 (Nat.le_trans hbw.out.size (by simp)) (own_from hown1.out))
    have H2 := hid_ (sum_any A2 (len0 + 4) d2 (l ++ word x) w2 (own_holds hown2) (by rw [List.length_append, Hl.out]; rfl) (by omega))
    have HV := hid_ ((congrArg BitVec.toNat HR.out).trans (show (0x2144df1c#32).toNat = 558161692 from rfl))
    clear hg2 hat2 hown2
    go_wp2_with fail
    refine H2.out.mono ?_
    rintro e w' ⟨rfl, rfl⟩
    rw [HV.out]
    go_wp2_with fail
    refine (h3.out _).mono ?_
    rintro e w' ⟨rfl, hbel⟩
    go_wp2
    go_ret
    exact ⟨rfl, hbw2.out.trans (hbel.mono hbw2.out.size)⟩

set_option maxRecDepth 100000 in
theorem lifted (os : Os) (started : os.Started) (H : Type) (enc : TypeId × Value → H) :
    ReturnsInHanded {} Try.checked os 9 .any (Rows.crcRestSpec.pre6 enc Try.prog Try.f9 Rows.crcRestRow.domain false) (Rows.crcRestSpec.post enc Try.prog Try.f9 false true false false) := by
  refine returnsInHanded_of_change (C := Try.checked) own started (by kernel_rfl) Try.func9
    (ChangeSpec.witness6 (enc := enc) (C := Try.checked) false ⟨#[], #[.slice none 0 0], []⟩ 8 (by kernel_rfl) (by kernel_rfl) (by kernel_rfl) (by kernel_rfl)) ?_
  intro W base args ds gs before hval0 hW hcnd _
  have hval : ∀ (j : Nat) t v, Try.f9.params[j]? = some t → args[j]? = some v → Value.okWide Try.prog W .any base t v := hval0
  have hW' := hW
  obtain ⟨p, q, hA0, hV, rfl, hfz, hnd⟩ := hW
  have hA : DataW.TrodAll enc Try.prog W 0 (fun _ => true) true Try.f9.params.toList args.toList ds p := hA0
  rw [Try.params9] at hA hval
  obtain ⟨v0, vs0, d0, ds0, p0, q0, hargs, rfl, rfl, h0, r0⟩ := trodAll_cons hA
  obtain ⟨rfl, rfl, rfl⟩ := trodAll_nil r0
  obtain rfl : args = #[v0] := by cases args; simp_all
  obtain ⟨rfl, rfl⟩ := trodVars_none hV
  obtain ⟨a0, len0, cap0, rfl⟩ := okWide_slice Try.underlying22 (hval 0 22 v0 rfl rfl)
  have k0 := h0
  have lt0 : ∀ x ∈ p0, x.block < W.heap.size := by obtain ⟨m, hm⟩ := k0; exact DataW.trod_lt m _ _ _ hm
  obtain ⟨z0, w0⟩ : ∃ zs, IsRow .u8 W a0 len0 cap0 zs := by
    obtain ⟨fuel, hf⟩ := h0
    rcases open_ints Try.underlying22 Try.underlying5 (by kernel_rfl) hf with ⟨hcs, _⟩ | ⟨x, l, c, zs, hcs, _, hl, hm, hz, _, hcell, hwz⟩
    · simp [Value.cells] at hcs
      obtain ⟨rfl, rfl, rfl⟩ := hcs
      exact ⟨[], .inl ⟨rfl, rfl, rfl, rfl⟩⟩
    · simp [Value.cells] at hcs
      obtain ⟨rfl, rfl, rfl⟩ := hcs
      exact ⟨zs, .inr ⟨_, rfl, hl, hm, by simpa using hz, hcell, hwz⟩⟩
  clear hA0 hval0
  refine (walk a0 len0 cap0 z0 W w0).mono fun e W' ⟨he, bel⟩ => ?_
  subst he
  exact ⟨_, rfl, _, _, _, [], _, [], hW', trodAll_mk1 (shut_bool Try.underlying4 _), (trodAll_cons_mk (Below.trod laidOut (by kernel_rfl) (of_decide_eq_true (by kernel_rfl)) k0 bel lt0) trodAll_mk0), rfl, bel.frame _, fun h => by cases h⟩

theorem over : Rows.crcRestRow.holds Try.pinned (OpenSpec.ofChange Rows.crcRestSpec) :=
  OpenClaim.holds_of_wide 9 Try.f9 rfl rfl rfl rfl rfl rfl rfl ⟨rfl, rfl, rfl, rfl, rfl⟩ rfl rfl rfl rfl rfl (by kernel_rfl) Try.func9 (by kernel_rfl)
    (of_decide_eq_true (by kernel_rfl)) (by unfold Func.isWrapper; first | (rw [if_pos (by decide +kernel)]; kernel_rfl) | (rw [if_neg (by decide +kernel)]; exact ⟨rfl, rfl⟩))
    (fun os started H enc _ => lifted os started H enc)

theorem proved : Rows.CrcRestSaid := over
#print axioms proved
end Go.Proofs.Ytcjgnnbbbhmfnaa.crcRest
