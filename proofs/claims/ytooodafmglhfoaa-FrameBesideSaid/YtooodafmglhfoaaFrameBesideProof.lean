/-
  FrameBeside: of two lists of bytes (up to 100 of up to 2000 bytes, 20000 together; above it nothing is asked) whole frames behind whole frames are all of both, and what is put stands behind what was there, which is left; no condition on the input.
  The frame round the walk is written by the guide's own program for this statement.
-/
import Derived.Test.YtooodafmglhfoaaRows
import Derived.Test.YtooodafmglhfoaaFrameCalls
import Derived.Test.YtooodafmglhfoaaSame
import Derived.Test.YtooodafmglhfoaaFrameAlive
import Derived.Test.YtooodafmglhfoaaFrameBackMath
import Derived.WalkKit
import Derived.ProofKit
import Derived.OpenShut
import Derived.ShutString
import Derived.ChangeOld
import Derived.Below
namespace Go.Proofs.Ytooodafmglhfoaa.frameBeside
open Go.ChangeShapes Go.WideShapes Go.ChangeAt Go.RowKit
open Go.ChangeMaps (open_string shut_string)
set_option linter.unusedVariables false

theorem own : ownKnob Try.prog.godebug = none := by kernel_rfl
theorem laidOut : laidOutB Try.prog = true := by kernel_rfl

/-- WHAT THE WALK IS TOLD OF A SLICE OF INTEGERS THAT CAME IN: it is nil; or it leads to a row of 'cap' cells, the numbers 'zs' (the first 'len' are its elements, the rest its spare room), each fitting its kind. -/
def IsRow (k : IntKind) (w : World) (a : Option Addr) (len cap : Nat) (zs : List Int) : Prop :=
  (a = none ∧ len = 0 ∧ cap = 0 ∧ zs = []) ∨
  ∃ x, a = some x ∧ len ≤ cap ∧ cap ≤ maxLen ∧ zs.length = cap ∧ (∀ i, i < zs.length → w.cell? (x.add i) = some (.int k (zs.getD i 0))) ∧ ∀ n ∈ zs, (Lit.int k n).wf = true

open Crc Fm
set_option maxHeartbeats 2000000 in
theorem walk (v0 : Value) (v1 : Value) (w : World) (w0 : SlsV w v0) (w1 : SlsV w v1) :
    Calls Try.prog 8 #[v0, v1] w fun e w' => e = .returned (.bool true) ∧ Below w.heap.size w w' := by
  obtain ⟨A, n, c, ls, rfl, hs0⟩ := w0
  obtain ⟨A', m, c', ms, rfl, hs1⟩ := w1
  have H0 := hid_ hs0
  have H1 := hid_ hs1
  have Hlen := hid_ hs0.len
  have Hlem := hid_ hs1.len
  have hle := hs0.le
  have hlem := hs1.le
  have ha := hid_ (fun W => alive_any W)
  have Hbd := hid_ (bound_any A n c ls w hs0)
  have Hbe := hid_ (bound_any A' m c' ms w hs1)
  clear hs0 hs1
  go_enter Try.func8, Try.ntmps8
  go_wp2_with fail
  refine Hbd.out.mono ?_
  rintro e w' ⟨b, rfl, hgood, rfl⟩
  cases b
  · clear hgood
    go_wp2_with fail
    refine (ha.out _).mono ?_
    rintro e w' ⟨rfl, hbel⟩
    go_wp2
    go_ret
    exact ⟨rfl, hbel⟩
  have Hg := hid_ (hgood rfl)
  clear hgood
  go_wp2_with fail
  refine Hbe.out.mono ?_
  rintro e w' ⟨b, rfl, hgood, rfl⟩
  cases b
  · clear hgood
    go_wp2_with fail
    refine (ha.out _).mono ?_
    rintro e w' ⟨rfl, hbel⟩
    go_wp2
    go_ret
    exact ⟨rfl, hbel⟩
  have Hh := hid_ (hgood rfl)
  clear hgood
  have hn100 : n ≤ 100 := by have := Hg.out.1; have := Hlen.out; omega
  have hm100 : m ≤ 100 := by have := Hh.out.1; have := Hlem.out; omega
  go_wp2_with fail
  go_loopw [5, 7] (fun vb vi wr => ∃ k Ab cb, k ≤ n ∧ vi = .int .i64 (k : Nat) ∧ vb = .slice Ab (endOf ls k) cb ∧ Sl wr Ab (endOf ls k) cb (frames (ls.take k)) ∧ Below w.heap.size w wr) (fun _ vi _ => n - (intOf vi).toNat)
  case atStart => exact ⟨0, none, 0, by omega, rfl, rfl, Sl.none _, Below.refl _ _⟩
  case round =>
    obtain ⟨k, Ab, cb, hk, rfl, rfl, hb, hbel⟩ := hrel
    have Hb := hid_ hb
    have Hbel := hid_ hbel
    clear hb hbel
    by_cases hlt : k < n
    · have hkl : k < ls.length := by rw [Hlen.out]; exact hlt
      have H1 := hid_ (H0.out.below Hbel.out)
      obtain ⟨b, off, A1, n1, c1, rfl, hc1, hs1, _⟩ := H1.out.at_ hkl
      have hn' : n1 ≤ 2000 := by have := Hg.out.2.1 _ (List.getElem_mem hkl); have := hs1.len; omega
      have hE := endOf_le ls Hg.out k (by omega)
      have Hp := put_any Ab A1 (endOf ls k) cb n1 c1 _ _ wr Hb.out hs1 (by omega) (by omega)
      rw [show endOf ls k + 4 + n1 + 4 = endOf ls (k + 1) by rw [endOf_succ ls hkl, hs1.len]; omega, ← frames_take ls hkl] at Hp
      have HP := hid_ Hp
      clear Hp hs1 hE
      go_wp2_with (go_at_call 10; (with_reducible refine Calls.mono HP.out ?_); rintro e w1 ⟨A3, c3, rfl, ho', hb'⟩; have Ho3 := hid_ ho'; have Hb3 := hid_ (Below.trans Hbel.out (hb'.mono Hbel.out.size)); clear ho' hb')
      go_roundw
      case rel => exact ⟨k + 1, A3, c3, by omega, by go_num, rfl, Ho3.out.sl, Hb3.out⟩
      case measure => simp [intOf]; omega
    · have hkn : k = n := by omega
      subst hkn
      have Hfl := hid_ (show (frames (ls.take k)) = frames ls by rw [List.take_of_length_le]; rw [Hlen.out]; omega)
      have hE := endOf_le ls Hg.out k (by rw [Hlen.out]; omega)
      have Hel := hid_ (show (frames ls).length = endOf ls k by rw [← Hfl.out]; rfl)
      have hb := Hb.out
      rw [Hfl.out] at hb
      generalize hEE : endOf ls k = E at *
      have HEE := hid_ hEE
      have HbE := hid_ hb
      clear hEE hb
      obtain ⟨wo, rfl⟩ : ∃ wo : World, wo = wr := ⟨_, rfl⟩
      go_wp2_with fail
      go_loopw [6, 8] (fun vb vi wr => ∃ q Aq cq, q ≤ m ∧ vi = .int .i64 (q : Nat) ∧ vb = .slice Aq (endOf ms q) cq ∧ Sl wr Aq (endOf ms q) cq (frames (ms.take q)) ∧ Sl wr Ab E cb (frames ls) ∧ Below w.heap.size w wr) (fun _ vi _ => m - (intOf vi).toNat)
      case atStart => exact ⟨0, none, 0, by omega, rfl, rfl, Sl.none _, HbE.out, Hbel.out⟩
      case round =>
        obtain ⟨q, Aq, cq, hq, rfl, rfl, hb, hbE, hbel⟩ := hrel
        have Hq := hid_ hb
        have HqE := hid_ hbE
        have Hqb := hid_ hbel
        clear hb hbE hbel
        by_cases hlt : q < m
        · have hkl : q < ms.length := by rw [Hlem.out]; exact hlt
          have H2 := hid_ (H1.out.below Hqb.out)
          obtain ⟨b, off, A1, n1, c1, rfl, hc1, hs1, _⟩ := H2.out.at_ hkl
          have hn' : n1 ≤ 2000 := by have := Hh.out.2.1 _ (List.getElem_mem hkl); have := hs1.len; omega
          have hF := endOf_le ms Hh.out q (by omega)
          have Hs1 := hid_ hs1
          have HP := hid_ (put_any Ab A1 E cb n1 c1 _ _ wr HqE.out hs1 (by omega) (by omega))
          have Hp := fun W (hW : Below wr.heap.size wr W) => put_any Aq A1 (endOf ms q) cq n1 c1 _ _ W (Hq.out.below hW) (hs1.below hW) (by omega) (by omega)
          rw [show endOf ms q + 4 + n1 + 4 = endOf ms (q + 1) by rw [endOf_succ ms hkl, hs1.len]; omega, ← frames_take ms hkl] at Hp
          have HP2 := hid_ Hp
          clear Hp hs1 hF
          go_wp2_with fail
          refine HP.out.mono ?_
          rintro e w1 ⟨A3, c3, rfl, ho3, hb3⟩
          have Ho3 := hid_ ho3
          have Hb3 := hid_ hb3
          have hc1' : w1.cell? ⟨b, off + q, .none⟩ = some (.slice A1 n1 c1) := by rw [hb3.cell (lt_of_cell hc1)]; exact hc1
          clear ho3 hb3 hc1
          go_wp2_with fail
          refine (HP2.out _ Hb3.out).mono ?_
          rintro e w2 ⟨A4, c4, rfl, ho4, hb4⟩
          have Ho4 := hid_ ho4
          have Hb4 := hid_ (Below.trans Hb3.out (hb4.mono Hb3.out.size))
          have hx := (Ho3.out.sl.below hb4).upto E (by omega)
          rw [List.take_append_of_le_length (by rw [Hel.out]; omega), List.take_of_length_le (by rw [Hel.out]; omega)] at hx
          have Hsm := hid_ (same_below _ _ _ _ _ _ w2 hx (HqE.out.below Hb4.out))
          have hcap3 := Ho3.out.sl.cap
          clear ho4 hb4 hx
          have e5 : decide ((E : Int) + 4 + (n1 : Int) + 4 < (E : Int)) = false := by simp; omega
          go_wp2_with fail
          refine Hsm.out.mono ?_
          rintro e w3 ⟨rfl, hb5⟩
          have Ho5 := hid_ (Ho4.out.sl.below hb5)
          have Hb5 := hid_ (Below.trans Hb4.out (hb5.mono Hb4.out.size))
          clear hb5
          go_wp2_with fail
          go_roundw
          case rel => exact ⟨q + 1, A4, c4, by omega, by go_num, rfl, Ho5.out, HqE.out.below Hb5.out, Hqb.out.trans (Hb5.out.mono Hqb.out.size)⟩
          case measure => simp [intOf]; omega
        · have hqm : q = m := by omega
          subst hqm
          have Hfm := hid_ (show (frames (ms.take q)) = frames ms by rw [List.take_of_length_le]; rw [Hlem.out]; omega)
          have hF := endOf_le ms Hh.out q (by rw [Hlem.out]; omega)
          have Hall := hid_ (show allOf (frames ls ++ frames ms) = (ls ++ ms, E + endOf ms q, 0) by
            rw [← frames_append, all_whole (ls ++ ms) (fun d hd => by
              rcases List.mem_append.1 hd with h | h
              · have := Hg.out.2.1 d h; omega
              · have := Hh.out.2.1 d h; omega), frames_append, List.length_append, Hel.out, ← Hfm.out]
            rfl)
          have hb := Hq.out
          rw [Hfm.out] at hb
          generalize hFF : endOf ms q = F at *
          have Hbm := hid_ hb
          clear hFF hb
          have hub : (((E + F : Nat) : Int) == (E : Int) + (F : Int)) = true := by simp
          go_wp2_with (first
            | (at_builtin; refine wpList_bytes rfl (.tmp 88) (.tmp 89) rfl wr.heap.size _ 0 _ _ rfl (own_lit wr [] #[] rfl 0 rfl (by omega) _ (Nat.le_refl _)) _ _ _ _ rfl (HqE.out.below ((Below.refl _ _).alloc (Nat.le_refl _) _)) E (frames ls) (by omega) rfl (by omega) (by simp) ?_; intro B1 d1 w1 ho' hb'; have Ho1 := hid_ ho'; have Hb1 := hid_ (((Below.refl _ _).alloc (Nat.le_refl _) _).trans hb'); clear ho' hb')
            | (at_builtin; refine wpList_bytes rfl (.tmp 90) (.tmp 91) rfl wr.heap.size _ E _ _ rfl Ho1.out _ _ _ _ rfl (Hbm.out.below Hb1.out) (E + F) _ rfl rfl (by omega) Hb1.out.size ?_; intro B2 d2 w2 ho' hb'; have Ho2 := hid_ ho'; have Hb2 := hid_ (Hb1.out.trans hb'); clear ho' hb')
            | (go_at_call 15; (with_reducible refine Calls.mono (all_any B2 (E + F) d2 _ w2 Ho2.out.sl (by omega)) ?_); rintro e w3 ⟨B3, n3, d3, rfl, hs', hb'⟩; rw [Hall.out] at hs' ⊢; have Hs3 := hid_ (show Sls w3 B3 n3 d3 (ls ++ ms) from hs'); have Hb3 := hid_ (Hb2.out.trans (hb'.mono Hb2.out.size)); clear hs' hb')
            | (at_builtin; refine wpList_slices rfl (.tmp 110) (.tmp 111) rfl w3.heap.size _ 0 _ [] rfl (ownS_new w3 _ (Nat.le_refl _)) _ _ _ _ rfl (((H0.out.below (Hqb.out.trans (Hb3.out.mono Hqb.out.size))).away (fun k hk => (by cases hk; exact Nat.le_refl _))).below ((Below.refl _ _).alloc (Nat.le_refl _) _)) k ls (by omega) rfl (by omega) (by simp) ?_; intro B4 d4 w4 ho' hb' hg'; have Ho4 := hid_ ho'; have Hb4 := hid_ (((Below.refl _ _).alloc (Nat.le_refl _) _).trans hb'); clear ho' hb' hg')
            | (at_builtin; refine wpList_slices rfl (.tmp 112) (.tmp 113) rfl w3.heap.size _ k _ ls rfl Ho4.out _ _ _ _ rfl (((H1.out.below (Hqb.out.trans (Hb3.out.mono Hqb.out.size))).away (fun k hk => (Ho4.out.from_ k hk).1)).below Hb4.out) (k + q) _ rfl rfl (by omega) Hb4.out.size ?_; intro B5 d5 w5 ho' hb' hg'; have Ho5 := hid_ ho'; have Hb5 := hid_ (Hb4.out.trans hb'); clear ho' hb' hg'))
          obtain rfl : n3 = k + q := by rw [← Hs3.out.len, List.length_append, Hlen.out, Hlem.out]
          refine (sames_below _ _ _ _ _ _ w5 (Hs3.out.below Hb5.out) Ho5.out.sls).mono ?_
          rintro e w6 ⟨rfl, hb6⟩
          have Hb6 := hid_ (Below.trans Hb5.out (hb6.mono Hb5.out.size))
          clear hb6
          go_wp2_with fail
          refine (ha.out _).mono ?_
          rintro e w7 ⟨rfl, hb7⟩
          go_wp2
          go_ret
          have h1 := Hb3.out.trans ((Hb6.out.trans (hb7.mono Hb6.out.size)).mono Hb3.out.size)
          exact ⟨rfl, Hqb.out.trans (h1.mono Hqb.out.size)⟩

set_option maxRecDepth 100000 in
theorem lifted (os : Os) (started : os.Started) (H : Type) (enc : TypeId × Value → H) :
    ReturnsInHanded {} Try.checked os 8 .any (Rows.frameBesideSpec.pre6 enc Try.prog Try.f8 Rows.frameBesideRow.domain false) (Rows.frameBesideSpec.post enc Try.prog Try.f8 false true false false) := by
  refine returnsInHanded_of_change (C := Try.checked) own started (by kernel_rfl) Try.func8
    (ChangeSpec.witness6 (enc := enc) (C := Try.checked) false ⟨#[], #[.slice none 0 0, .slice none 0 0], []⟩ 8 (by kernel_rfl) (by kernel_rfl) (by kernel_rfl) (by kernel_rfl)) ?_
  intro W base args ds gs before hval0 hW hcnd _
  have hval : ∀ (j : Nat) t v, Try.f8.params[j]? = some t → args[j]? = some v → Value.okWide Try.prog W .any base t v := hval0
  have hW' := hW
  obtain ⟨p, q, hA0, hV, rfl, hfz, hnd⟩ := hW
  have hA : DataW.TrodAll enc Try.prog W 0 (fun _ => true) true Try.f8.params.toList args.toList ds p := hA0
  rw [Try.params8] at hA hval
  obtain ⟨v0, vs0, d0, ds0, p0, q0, hargs, rfl, rfl, h0, r0⟩ := trodAll_cons hA
  obtain ⟨v1, vs1, d1, ds1, p1, q1, rfl, rfl, rfl, h1, r1⟩ := trodAll_cons r0
  obtain ⟨rfl, rfl, rfl⟩ := trodAll_nil r1
  obtain rfl : args = #[v0, v1] := by cases args; simp_all
  obtain ⟨rfl, rfl⟩ := trodVars_none hV
  have k0 := h0
  have lt0 : ∀ x ∈ p0, x.block < W.heap.size := by obtain ⟨m, hm⟩ := k0; exact DataW.trod_lt m _ _ _ hm
  have w0 : SlsV W v0 := open_slsV (hval 0 31 v0 rfl rfl) h0
  have k1 := h1
  have lt1 : ∀ x ∈ p1, x.block < W.heap.size := by obtain ⟨m, hm⟩ := k1; exact DataW.trod_lt m _ _ _ hm
  have w1 : SlsV W v1 := open_slsV (hval 1 31 v1 rfl rfl) h1
  clear hA0 hval0
  refine (walk v0 v1 W w0 w1).mono fun e W' ⟨he, bel⟩ => ?_
  subst he
  exact ⟨_, rfl, _, _, _, [], _, [], hW', trodAll_mk1 (shut_bool Try.underlying4 _), (trodAll_cons_mk (Below.trod laidOut (by kernel_rfl) (of_decide_eq_true (by kernel_rfl)) k0 bel lt0) (trodAll_cons_mk (Below.trod laidOut (by kernel_rfl) (of_decide_eq_true (by kernel_rfl)) k1 bel lt1) trodAll_mk0)), rfl, bel.frame _, fun h => by cases h⟩

theorem over : Rows.frameBesideRow.holds Try.pinned (OpenSpec.ofChange Rows.frameBesideSpec) :=
  OpenClaim.holds_of_wide 8 Try.f8 rfl rfl rfl rfl rfl rfl rfl ⟨rfl, rfl, rfl, rfl, rfl⟩ rfl rfl rfl rfl rfl (by kernel_rfl) Try.func8 (by kernel_rfl)
    (of_decide_eq_true (by kernel_rfl)) (by unfold Func.isWrapper; first | (rw [if_pos (by decide +kernel)]; kernel_rfl) | (rw [if_neg (by decide +kernel)]; exact ⟨rfl, rfl⟩))
    (fun os started H enc _ => lifted os started H enc)

theorem proved : Rows.FrameBesideSaid := over
#print axioms proved
end Go.Proofs.Ytooodafmglhfoaa.frameBeside
