/-
  The law's Same: both disks read alike.
-/
import Derived.Test.YtalekhafkgepnaaZPlaysOne
namespace Go.Proofs.Ytalekhafkgepnaa
set_option linter.unusedSimpArgs false
set_option linter.unusedVariables false
open Go.RowKit
namespace Dsk
set_option linter.unusedSimpArgs false
set_option linter.unusedVariables false
set_option maxRecDepth 100000 in
set_option maxHeartbeats 2000000 in
theorem one_other (kind : Int) (k0 : kind ≠ 0) (k1 : kind ≠ 1) (k2 : kind ≠ 2) (k3 : kind ≠ 3) (k4 : kind ≠ 4) (k5 : kind ≠ 5) (g r : Nat) (file nn : Int) (vb vk : Value) (w : World) :
    Calls Try.prog 23 #[.pointer (some ⟨g, 0, none⟩), .pointer (some ⟨r, 0, none⟩), .agg #[.int .i64 kind, .int .i64 file, .int .i64 nn, vb, vk]] w (fun e w' => e = .returned (.bool true) ∧ Below w.heap.size w w') := by
  have t0 : (kind == 0) = false := beq_eq_false_iff_ne.2 k0
  have t1 : (kind == 1) = false := beq_eq_false_iff_ne.2 k1
  have t2 : (kind == 2) = false := beq_eq_false_iff_ne.2 k2
  have t3 : (kind == 3) = false := beq_eq_false_iff_ne.2 k3
  have t4 : (kind == 4) = false := beq_eq_false_iff_ne.2 k4
  have t5 : (kind == 5) = false := beq_eq_false_iff_ne.2 k5
  clear k0 k1 k2 k3 k4 k5
  go_enter Try.func23, Try.ntmps23
  go_wp2_with fail
  go_ret
  exact ⟨rfl, (Below.refl _ _).alloc (Nat.le_refl _) _⟩
theorem one_any (P : Nat → Prop) (wa w : World) (g r : Nat) (d : DiskD) (o : OpD) (Ab : Option Addr) (nb cb : Nat) (Ak : Option Addr) (nk ck : Nat) (h : Duo P wa w g r d d)
    (hs : Sl wa Ab nb cb o.b) (hP : ∀ a, Ab = some a → o.b ≠ [] → P a.block) (hk : Row wa Ak nk ck (intVals o.keep)) (hkP : ∀ a, Ak = some a → intVals o.keep ≠ [] → P a.block) (hkb : nb ≤ 140737488355328) (hw : o.Wf) :
    Calls Try.prog 23 #[.pointer (some ⟨g, 0, none⟩), .pointer (some ⟨r, 0, none⟩), .agg #[.int .i64 o.kind, .int .i64 o.file, .int .i64 o.n, .slice Ab nb cb, .slice Ak nk ck]] w (OnePost P wa g r o d) := by
  obtain ⟨kind, file, nn, bs, keep⟩ := o
  obtain ⟨f1, f2, n1, n2⟩ := hw
  simp only at *
  by_cases k0 : kind = 0
  · subst k0; exact one_0 P wa w g r d file nn Ab nb cb bs Ak nk ck keep h hs hP hk hkP hkb f1 f2 n1 n2
  by_cases k1 : kind = 1
  · subst k1; exact one_1 P wa w g r d file nn Ab nb cb bs Ak nk ck keep h hs hP hk hkP hkb f1 f2 n1 n2
  by_cases k2 : kind = 2
  · subst k2; exact one_2 P wa w g r d file nn Ab nb cb bs Ak nk ck keep h hs hP hk hkP hkb f1 f2 n1 n2
  by_cases k3 : kind = 3
  · subst k3; exact one_3 P wa w g r d file nn Ab nb cb bs Ak nk ck keep h hs hP hk hkP hkb f1 f2 n1 n2
  by_cases k4 : kind = 4
  · subst k4; exact one_4 P wa w g r d file nn Ab nb cb bs Ak nk ck keep h hs hP hk hkP hkb f1 f2 n1 n2
  by_cases k5 : kind = 5
  · subst k5; exact one_5 P wa w g r d file nn Ab nb cb bs Ak nk ck keep h hs hP hk hkP hkb f1 f2 n1 n2
  refine Calls.mono (one_other kind k0 k1 k2 k3 k4 k5 g r file nn _ _ w) ?_
  rintro e w' ⟨rfl, hb⟩
  have e1 : opDo ⟨kind, file, nn, bs, keep⟩ d = d := by unfold opDo; simp [k0, k1, k2, k3, k4, k5]
  refine onePost_mk ?_
  rw [e1]
  exact h.later hb
abbrev DownIn (w : World) (r : Nat) (y : Bool) (W : World) : Prop := Below w.heap.size w W ∧ W.cell? ⟨r, 3, none⟩ = some (.bool y)
theorem downIn_keep {w W W' : World} {r : Nat} {y : Bool} (hr : r < w.heap.size) (h : DownIn w r y W) (hb : Below W.heap.size W W') : DownIn w r y W' :=
  ⟨h.1.trans (hb.mono h.1.size), (hb.cell (p := ⟨r, 3, none⟩) (Nat.lt_of_lt_of_le hr h.1.size)).trans h.2⟩
set_option maxRecDepth 100000 in
set_option maxHeartbeats 8000000 in
theorem same_any {P : Nat → Prop} {wa : World} (g r : Nat) (d : DiskD) (w : World) (h : Duo P wa w g r d d) :
    Calls Try.prog 24 #[.pointer (some ⟨g, 0, none⟩), .pointer (some ⟨r, 0, none⟩)] w (fun e w' => e = .returned (.bool true) ∧ Below w.heap.size w w') := by
  obtain ⟨Q, R, h1, h2, -, -, -⟩ := h.ex
  have hok := h1.ok
  have HD := hid_ (fun W (hb : Below w.heap.size w W) => h1.below hb)
  have HR := hid_ (fun W (hb : Below w.heap.size w W) => h2.below hb)
  have hr := h2.qlt r h2.qg
  have c3 : w.cell? ⟨r, 3, none⟩ = some (.bool d.down) := by
    obtain ⟨fb, cs, V, m1, m2⟩ := h2.mem
    exact (rk_facts m1).2.2.2.1
  have hS0 : DownIn w r d.down w := ⟨Below.refl _ _, c3⟩
  have Hf := hid_ (fun W hb => files_any g Q d W (HD.out W hb))
  have Hrf := hid_ (fun W hb => rfiles_any r R d W (HR.out W hb))
  have Hu := hid_ (fun W hb => used_any g Q d W (HD.out W hb))
  have Hru := hid_ (fun W hb => rused_any r R d W (HR.out W hb))
  have Hd := hid_ (fun W hb => down_any g Q d W (HD.out W hb))
  have Hrd := hid_ (fun x h1 h2 W hb => read_any x h1 h2 g Q d W (HD.out W hb))
  have Hrr := hid_ (fun x W hb => rread_any x r R d W (HR.out W hb))
  have hneq : ∀ x : Int, (x != x) = false := fun x => by simp
  have hneb : ∀ x : Bool, (x != x) = false := fun x => by cases x <;> rfl
  clear h h1 h2 hok HD HR c3
  generalize hy : d.down = y at *
  clear hy
  go_enter Try.func24, Try.ntmps24
  go_wp2_with fail
  go_region_held3 (DownIn w r y) (first | assumption | (refine downIn_keep hr (by assumption) (by assumption)) | (refine downIn_keep hr (by assumption) (Below.drew (Below.refl _ _))))
    (first
      | (go_at_call 65; (with_reducible refine Calls.mono (Hf.out _ ?_) ?_); (exact And.left (by assumption)); rintro e w1 ⟨A1, cc1, rfl, ho1, hb1⟩; have HO1 := hid_ (OwnV.row ho1); clear ho1)
      | (go_at_call 66; (with_reducible refine Calls.mono (Hrf.out _ ?_) ?_); (exact And.left (by assumption)); rintro e w2 ⟨A2, cc2, rfl, ho2, hb2⟩; have HO2 := hid_ (OwnV.row ho2); have HO3 := hid_ (Row.below HO1.out (by first | exact hb2 | exact ⟨hb2.os, hb2.tape, hb2.output, hb2.size, hb2.block⟩)); clear ho2)
      | (go_at_call 64; (with_reducible refine Calls.mono (ints_true A1 A2 _ cc1 cc2 (filesF d.F) _ ?_ ?_) ?_); (first | exact HO3.out | exact HO3.out.below (Below.drew (Below.refl _ _))); (first | exact HO2.out | exact HO2.out.below (Below.drew (Below.refl _ _))); rintro e w3 ⟨rfl, hb3⟩)
      | (go_at_call 67; (with_reducible refine Calls.mono (Hu.out _ ?_) ?_); (exact And.left (by assumption)); rintro e w4 ⟨rfl, hb4⟩)
      | (go_at_call 68; (with_reducible refine Calls.mono (Hru.out _ ?_) ?_); (exact And.left (by assumption)); rintro e w5 ⟨rfl, rfl⟩)
      | (go_at_call 28; (with_reducible refine Calls.mono (Hd.out _ ?_) ?_); (exact And.left (by assumption)); rintro e w6 ⟨rfl, rfl⟩)
      | fail)
  have hS9 : DownIn w r y w4 := by assumption
  have HB9 := hid_ hS9.1
  clear hS9
  go_wp2_with fail
  go_loopw [5] (fun v wr => ∃ i : Int, -1 ≤ i ∧ i ≤ 65 ∧ v = .int .i64 i ∧ Hid (Below w.heap.size w wr)) (fun v _ => (65 - intOf v).toNat)
  case atStart => exact ⟨-1, by omega, by omega, rfl, HB9⟩
  case round =>
    obtain ⟨i, hi1, hi2, rfl, HB⟩ := hrel
    by_cases hlt : i ≤ 64
    · have Ha := hid_ (Hrd.out i (by omega) (by omega) _ HB.out)
      have Hb := hid_ (Hrr.out i)
      generalize readB d i = l at *
      generalize askK d i = k at *
      go_wp2_with fail
      refine Calls.mono Ha.out ?_
      rintro e u1 ⟨A3, c3, rfl, ho3, hb3⟩
      have HS3 := hid_ ho3.sl
      have HB3 := hid_ (HB.out.trans (hb3.mono HB.out.size))
      clear ho3 hb3
      go_wp2_with fail
      refine Calls.mono (Hb.out _ HB3.out) ?_
      rintro e u2 ⟨A4, c4, rfl, hs4, rfl⟩
      have HS4 := hid_ hs4
      clear hs4
      go_wp2_with fail
      refine Calls.mono (same_below _ _ _ _ _ l _ HS3.out HS4.out) ?_
      rintro e u3 ⟨rfl, hb4⟩
      have HB4 := hid_ (HB3.out.trans (hb4.mono HB3.out.size))
      clear hb4
      go_wp2_with fail
      go_roundw
      case rel => exact ⟨i + 1, by omega, by omega, by go_num, HB4⟩
      case measure => simp [intOf]; omega
    · have e1 : decide (i ≤ 64) = false := decide_eq_false hlt
      go_wp2_with fail
      go_ret
      exact ⟨rfl, HB.out⟩
end Dsk
end Go.Proofs.Ytalekhafkgepnaa
