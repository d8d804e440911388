/-
  FrameBack: of lists of bytes (up to 100 of up to 2000 bytes, 20000 together; above it nothing is asked) what was put is all cut again, and, cut off anywhere, as much as is whole; no condition on the input.
  The frame round the walk is written by the guide's own program for this statement.
-/
import Derived.Test.YtooodafmglhfoaaRows
import Derived.Test.YtooodafmglhfoaaFrameCalls
import Derived.Test.YtooodafmglhfoaaSame
import Derived.Test.YtooodafmglhfoaaFrameAlive
import Derived.Test.YtooodafmglhfoaaFrameBackMath
import Derived.Test.YtooodafmglhfoaaInts
import Derived.WalkKit
import Derived.ProofKit
import Derived.OpenShut
import Derived.ShutString
import Derived.ChangeOld
import Derived.Below
namespace Go.Proofs.Ytooodafmglhfoaa.frameBack
open Go.ChangeShapes Go.WideShapes Go.ChangeAt Go.RowKit
open Go.ChangeMaps (open_string shut_string)
set_option linter.unusedVariables false

theorem own : ownKnob Try.prog.godebug = none := by kernel_rfl
theorem laidOut : laidOutB Try.prog = true := by kernel_rfl

/-- WHAT THE WALK IS TOLD OF A SLICE OF INTEGERS THAT CAME IN: it is nil; or it leads to a row of 'cap' cells, the numbers 'zs' (the first 'len' are its elements, the rest its spare room), each fitting its kind. -/
def IsRow (k : IntKind) (w : World) (a : Option Addr) (len cap : Nat) (zs : List Int) : Prop :=
  (a = none ∧ len = 0 ∧ cap = 0 ∧ zs = []) ∨
  ∃ x, a = some x ∧ len ≤ cap ∧ cap ≤ maxLen ∧ zs.length = cap ∧ (∀ i, i < zs.length → w.cell? (x.add i) = some (.int k (zs.getD i 0))) ∧ ∀ n ∈ zs, (Lit.int k n).wf = true

open Crc Fm
theorem at_new (w : World) (v : Value) (T : TypeId) : (w.alloc (.cells #[v] T)).cell? ⟨w.heap.size, 0, .none⟩ = some v := by rw [World.cell?_alloc_mark]; rfl
set_option maxHeartbeats 2000000 in
theorem walk (v0 : Value) (a1 : Int) (w : World) (w0 : SlsV w v0) (w1 : (Lit.int .i64 a1).wf = true) :
    Calls Try.prog 6 #[v0, .int .i64 a1] w fun e w' => e = .returned (.bool true) ∧ Below w.heap.size w w' := by
  obtain ⟨A, n, c, ls, rfl, hs0⟩ := w0
  have H0 := hid_ hs0
  have Hlen := hid_ hs0.len
  have hle := hs0.le
  have hnc := hs0.cap
  have hcm := hs0.max
  have ha := hid_ (fun W => alive_any W)
  have Hbd := hid_ (bound_any A n c ls w hs0)
  have hat : -9223372036854775808 ≤ a1 ∧ a1 ≤ 9223372036854775807 := by simpa [Lit.wf, IntKind.min, IntKind.max, IntKind.bits, IntKind.signed] using w1
  obtain ⟨hat1, hat2⟩ := hat
  clear hs0 w1
  go_enter Try.func6, Try.ntmps6
  go_wp2_with fail
  refine Hbd.out.mono ?_
  rintro e w' ⟨b, rfl, hgood, rfl⟩
  cases b
  · clear hgood
    go_wp2_with fail
    refine (ha.out _).mono ?_
    rintro e w' ⟨rfl, hbel⟩
    go_wp2
    go_ret
    exact ⟨rfl, hbel⟩
  have Hg := hid_ (hgood rfl)
  clear hgood
  have hn100 : n ≤ 100 := by have := Hg.out.1; have := Hlen.out; omega
  go_wp2_with fail
  go_loopw [5, 6, 7] (fun vb ve vi wr => ∃ k Ab cb Ae ce, k ≤ n ∧ vi = .int .i64 (k : Nat) ∧ vb = .slice Ab (endOf ls k) cb ∧ Sl wr Ab (endOf ls k) cb (frames (ls.take k)) ∧ ve = .slice Ae (k + 1) ce ∧
    OwnI w.heap.size wr Ae (k + 1) ce (endsOf ls k) ∧ Away Ab (frames (ls.take k)) (Value.slice Ae (k + 1) ce).ownBlock ∧ Below w.heap.size w wr) (fun _ _ vi _ => n - (intOf vi).toNat)
  case atStart => exact ⟨0, none, 0, _, 1, by omega, rfl, rfl, Sl.none _, rfl, ownI_lit w _ #[.int .i64 0] rfl 1 rfl (by omega) _ (Nat.le_refl _), fun h => absurd rfl h, (Below.refl _ _).alloc (Nat.le_refl _) _⟩
  case round =>
    obtain ⟨k, Ab, cb, Ae, ce, hk, rfl, rfl, hb, rfl, he, haw, hbel⟩ := hrel
    have Hb := hid_ hb
    have He := hid_ he
    have Haw := hid_ haw
    have Hbel := hid_ hbel
    clear hb he haw hbel
    by_cases hlt : k < n
    · have hkl : k < ls.length := by rw [Hlen.out]; exact hlt
      have H1 := hid_ (H0.out.below Hbel.out)
      obtain ⟨b, off, A', n', c', rfl, hc1, hs1, _⟩ := H1.out.at_ hkl
      have hn' : n' ≤ 2000 := by have := Hg.out.2.1 _ (List.getElem_mem hkl); have := hs1.len; omega
      have hE := endOf_le ls Hg.out k (by omega)
      have Hp := put_any Ab A' (endOf ls k) cb n' c' _ _ wr Hb.out hs1 (by omega) (by omega)
      rw [show endOf ls k + 4 + n' + 4 = endOf ls (k + 1) by rw [endOf_succ ls hkl, hs1.len]; omega, ← frames_take ls hkl] at Hp
      have HP := hid_ Hp
      clear Hp hs1 hE
      go_wp2_with (first
        | (go_at_call 10; (with_reducible refine Calls.mono HP.out ?_); rintro e w1 ⟨A3, c3, rfl, ho', hb'⟩; have Ho3 := hid_ ho'; have Hb3 := hid_ (Below.trans Hbel.out (hb'.mono Hbel.out.size)); have He3 := hid_ (He.out.later hb'); clear ho' hb')
        | (at_builtin; refine wpList_int1 rfl (.tmp 39) (.tmp 42) rfl w.heap.size Ae (k + 1) ce _ rfl (He3.out.later ((Below.refl _ _).alloc (Nat.le_refl _) _)) w1.heap.size _ rfl (at_new _ _ _) (k + 1 + 1) _ rfl (endsOf_snoc ls k) (by omega) (by have := Hb3.out.size; simp; omega) ?_; intro A4 c4 w4 ho' hb' hg' hat'; have He4 := hid_ ho'; have Hb4 := hid_ ((Hb3.out.alloc Hb3.out.size _).trans hb'); have Hs4 := hid_ (Sl.grown (Ho3.out.sl.below ((Below.refl _ _).alloc (Nat.le_refl _) _)) hg' (Ho3.out.away _ (fun g hg => (He.out.from_ g hg).2))); have Haw4 := hid_ (Away.after (Ho3.out.away _ (fun g hg => (He.out.from_ g hg).2)) (Ho3.out.sl.below ((Below.refl _ _).alloc (Nat.le_refl _) _)) hat'); clear ho' hb' hg' hat'))
      go_roundw
      case rel => exact ⟨k + 1, A3, c3, A4, c4, by omega, by go_num, rfl, Hs4.out, rfl, He4.out, Haw4.out, Hb4.out⟩
      case measure => simp [intOf]; omega
    · have hkn : k = n := by omega
      subst hkn
      have Hall := hid_ (show allOf (frames (ls.take k)) = (ls, endOf ls k, 0) by
        rw [show ls.take k = ls from by rw [List.take_of_length_le]; rw [Hlen.out]; omega, all_whole ls (fun d hd => by have := Hg.out.2.1 d hd; omega)]
        unfold endOf
        rw [show ls.take k = ls from by rw [List.take_of_length_le]; rw [Hlen.out]; omega])
      have hE := endOf_le ls Hg.out k (by rw [Hlen.out]; omega)
      have HA := hid_ (all_any Ab (endOf ls k) cb _ wr Hb.out (by omega))
      go_wp2_with fail
      refine HA.out.mono ?_
      rintro e w1 ⟨A1, n1, c1, rfl, hs1, hb1⟩
      rw [Hall.out] at hs1 ⊢
      have hs1' : Sls w1 A1 n1 c1 ls := hs1
      obtain rfl : n1 = k := by rw [← hs1'.len, Hlen.out]
      have Hb1 := hid_ (Below.trans Hbel.out (hb1.mono Hbel.out.size))
      have Hsm := hid_ (sames_below _ _ _ _ _ ls w1 hs1' (H0.out.below Hb1.out))
      have He1 := hid_ (He.out.later hb1)
      have Hsb1 := hid_ (Hb.out.below hb1)
      have Hfl := hid_ (show (frames (ls.take n1)) = frames ls by rw [List.take_of_length_le]; rw [Hlen.out]; omega)
      have Hbc := hid_ (fun cut h => back_cut ls (fun d hd => by have := Hg.out.2.1 d hd; omega) cut h)
      have Hel := hid_ (show (frames ls).length = endOf ls n1 by rw [← Hfl.out]; rfl)
      clear hs1 hs1' hb1
      generalize hEE : endOf ls n1 = E at *
      have HEE := hid_ hEE
      clear hEE
      have heb : ((E : Int) != (E : Int)) = false := by simp
      go_wp2_with fail
      refine Hsm.out.mono ?_
      rintro e w2 ⟨rfl, hb2⟩
      have Hb2 := hid_ (Below.trans Hb1.out (hb2.mono Hb1.out.size))
      have He2 := hid_ (He1.out.later hb2)
      have Hsb2 := hid_ (Hsb1.out.below hb2)
      clear hb2
      by_cases hc0 : a1 < 0
      · have e0 : decide (a1 < 0) = true := by simp; omega
        go_wp2_with fail
        refine (ha.out _).mono ?_
        rintro e w' ⟨rfl, hbel⟩
        go_wp2
        go_ret
        exact ⟨rfl, Hb2.out.trans (hbel.mono Hb2.out.size)⟩
      have e0 : decide (a1 < 0) = false := by simp; omega
      obtain ⟨t, rfl⟩ := Int.eq_ofNat_of_zero_le (show 0 ≤ a1 by omega)
      by_cases hc1 : E < t
      · have e1 : decide ((E : Int) < (t : Int)) = true := by simp; omega
        go_wp2_with fail
        refine (ha.out _).mono ?_
        rintro e w' ⟨rfl, hbel⟩
        go_wp2
        go_ret
        exact ⟨rfl, Hb2.out.trans (hbel.mono Hb2.out.size)⟩
      have e1 : decide ((E : Int) < (t : Int)) = false := by simp; omega
      go_wp2_with fail
      go_loop [13, 14] (fun vh vj => ∃ j h : Nat, vj = .int .i64 j ∧ vh = .int .i64 h ∧ h < j ∧ j ≤ n1 + 1 ∧ endOf ls h ≤ t ∧ Hid (∀ i, h < i → i < j → t < endOf ls i)) (fun _ vj => n1 + 1 - (intOf vj).toNat)
      case atStart => exact ⟨1, 0, rfl, rfl, by omega, by omega, Nat.zero_le _, hid_ (by intro i h1 h2; omega)⟩
      case round =>
        obtain ⟨j, h, rfl, rfl, hhj, hj, hht, Hno⟩ := hrel
        by_cases hjt : j < n1 + 1
        · obtain ⟨b, off, rfl, hcj⟩ := He2.out.at_ (k := j) (by rw [endsOf_length]; exact hjt)
          rw [endsOf_get] at hcj
          by_cases hjc : endOf ls j ≤ t
          · have e3 : decide ((endOf ls j : Int) ≤ (t : Int)) = true := by simp; omega
            go_wp2_with fail
            go_round
            case rel => exact ⟨j + 1, j, by go_num, rfl, by omega, by omega, hjc, hid_ (by intro i h1 h2; omega)⟩
            case measure => simp [intOf]; omega
          · have e3 : decide ((endOf ls j : Int) ≤ (t : Int)) = false := by simp; omega
            go_wp2_with fail
            go_round
            case rel => exact ⟨j + 1, h, by go_num, rfl, by omega, by omega, hht, hid_ (by intro i h1 h2; by_cases e : i = j; (subst e; omega); exact Hno.out i h1 (by omega))⟩
            case measure => simp [intOf]; omega
        · have hjn : j = n1 + 1 := by omega
          subst hjn
          have hbc := Hbc.out t h (by rw [Hel.out]; omega) (by rw [Hlen.out]; omega) hht (fun i h1 h2 => Hno.out i h1 (by have := Hlen.out; omega))
          have hup := Hsb2.out.upto t (by omega)
          rw [Hfl.out] at hup
          have HA2 := hid_ (all_any Ab t cb _ w2 hup (by omega))
          obtain ⟨b, off, rfl, hch⟩ := He2.out.at_ (k := h) (by rw [endsOf_length]; omega)
          rw [endsOf_get] at hch
          have hcap := Hsb2.out.cap
          have Hbc2 := hid_ hbc
          have hht2 : (endOf ls h : Int) ≤ (t : Int) := by omega
          clear hbc hup
          go_wp2_with fail
          refine HA2.out.mono ?_
          rintro e w3 ⟨A4, n4, c4, rfl, hs4, hb4⟩
          rw [Hbc2.out] at hs4 ⊢
          have hs4' : Sls w3 A4 n4 c4 (ls.take h) := hs4
          obtain rfl : n4 = h := by rw [← hs4'.len, List.length_take, Hlen.out]; omega
          have hbb := Below.trans Hb2.out (hb4.mono Hb2.out.size)
          have Hsm2 := hid_ (sames_below _ _ _ _ _ (ls.take n4) w3 hs4' ((H0.out.below hbb).upto n4 (by omega)))
          have Hb4 := hid_ hbb
          have Hw3 := hid_ hb4
          have hch3 : w3.cell? ⟨b, off + n4, .none⟩ = some (.int .i64 (endOf ls n4)) := by rw [hb4.cell (lt_of_cell hch)]; exact hch
          clear hs4 hs4' hb4 hbb hch
          generalize hF : endOf ls n4 = F at *
          have HF := hid_ hF
          clear hF
          have hff : ((F : Int) == (F : Int)) = true := by simp
          by_cases hft : F = t
          · have Hft := hid_ hft
            have hfb : ((F : Int) == (t : Int)) = true := by simp; omega
            rw [if_pos hft]
            clear hft
            go_wp2_with fail
            refine Hsm2.out.mono ?_
            rintro e w5 ⟨rfl, hb5⟩
            have hch5 : w5.cell? ⟨b, off + n4, .none⟩ = some (.int .i64 F) := by rw [hb5.cell (lt_of_cell hch3)]; exact hch3
            have Hb5 := hid_ (Below.trans Hb4.out (hb5.mono Hb4.out.size))
            clear hb5 hch3
            go_wp2_with fail
            refine (ha.out _).mono ?_
            rintro e w' ⟨rfl, hbel⟩
            go_wp2
            go_ret
            exact ⟨rfl, Hb5.out.trans (hbel.mono Hb5.out.size)⟩
          · have hfb : ((F : Int) == (t : Int)) = false := by simp; omega
            rw [if_neg hft]
            clear hft
            go_wp2_with fail
            refine Hsm2.out.mono ?_
            rintro e w5 ⟨rfl, hb5⟩
            have hch5 : w5.cell? ⟨b, off + n4, .none⟩ = some (.int .i64 F) := by rw [hb5.cell (lt_of_cell hch3)]; exact hch3
            have Hb5 := hid_ (Below.trans Hb4.out (hb5.mono Hb4.out.size))
            clear hb5 hch3
            go_wp2_with fail
            refine (ha.out _).mono ?_
            rintro e w' ⟨rfl, hbel⟩
            go_wp2
            go_ret
            exact ⟨rfl, Hb5.out.trans (hbel.mono Hb5.out.size)⟩

set_option maxRecDepth 100000 in
theorem lifted (os : Os) (started : os.Started) (H : Type) (enc : TypeId × Value → H) :
    ReturnsInHanded {} Try.checked os 6 .any (Rows.frameBackSpec.pre6 enc Try.prog Try.f6 Rows.frameBackRow.domain false) (Rows.frameBackSpec.post enc Try.prog Try.f6 false true false false) := by
  refine returnsInHanded_of_change (C := Try.checked) own started (by kernel_rfl) Try.func6
    (ChangeSpec.witness6 (enc := enc) (C := Try.checked) false ⟨#[], #[.slice none 0 0, .int .i64 0], []⟩ 8 (by kernel_rfl) (by kernel_rfl) (by kernel_rfl) (by kernel_rfl)) ?_
  intro W base args ds gs before hval0 hW hcnd _
  have hval : ∀ (j : Nat) t v, Try.f6.params[j]? = some t → args[j]? = some v → Value.okWide Try.prog W .any base t v := hval0
  have hW' := hW
  obtain ⟨p, q, hA0, hV, rfl, hfz, hnd⟩ := hW
  have hA : DataW.TrodAll enc Try.prog W 0 (fun _ => true) true Try.f6.params.toList args.toList ds p := hA0
  rw [Try.params6] at hA hval
  obtain ⟨v0, vs0, d0, ds0, p0, q0, hargs, rfl, rfl, h0, r0⟩ := trodAll_cons hA
  obtain ⟨v1, vs1, d1, ds1, p1, q1, rfl, rfl, rfl, h1, r1⟩ := trodAll_cons r0
  obtain ⟨rfl, rfl, rfl⟩ := trodAll_nil r1
  obtain rfl : args = #[v0, v1] := by cases args; simp_all
  obtain ⟨rfl, rfl⟩ := trodVars_none hV
  have k0 := h0
  have lt0 : ∀ x ∈ p0, x.block < W.heap.size := by obtain ⟨m, hm⟩ := k0; exact DataW.trod_lt m _ _ _ hm
  have w0 : SlsV W v0 := open_slsV (hval 0 31 v0 rfl rfl) h0
  obtain ⟨a1, rfl, rfl, rfl, w1⟩ := open_int Try.underlying3 (hval 1 3 v1 rfl rfl) h1
  clear hA0 hval0
  refine (walk v0 a1 W w0 w1).mono fun e W' ⟨he, bel⟩ => ?_
  subst he
  exact ⟨_, rfl, _, _, _, [], _, [], hW', trodAll_mk1 (shut_bool Try.underlying4 _), (trodAll_cons_mk (Below.trod laidOut (by kernel_rfl) (of_decide_eq_true (by kernel_rfl)) k0 bel lt0) (trodAll_cons_mk (shut_int Try.underlying3 w1) trodAll_mk0)), rfl, bel.frame _, fun h => by cases h⟩

theorem over : Rows.frameBackRow.holds Try.pinned (OpenSpec.ofChange Rows.frameBackSpec) :=
  OpenClaim.holds_of_wide 6 Try.f6 rfl rfl rfl rfl rfl rfl rfl ⟨rfl, rfl, rfl, rfl, rfl⟩ rfl rfl rfl rfl rfl (by kernel_rfl) Try.func6 (by kernel_rfl)
    (of_decide_eq_true (by kernel_rfl)) (by unfold Func.isWrapper; first | (rw [if_pos (by decide +kernel)]; kernel_rfl) | (rw [if_neg (by decide +kernel)]; exact ⟨rfl, rfl⟩))
    (fun os started H enc _ => lifted os started H enc)

theorem proved : Rows.FrameBackSaid := over
#print axioms proved
end Go.Proofs.Ytooodafmglhfoaa.frameBack
