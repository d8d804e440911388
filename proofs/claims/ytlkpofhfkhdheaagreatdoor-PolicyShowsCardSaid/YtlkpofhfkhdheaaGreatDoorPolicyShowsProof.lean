/-
  Of any rules Show and Right answer what the reference answers: the text, or why there is none; the chapter's example comes.
  The frame: the row lists tables; the witness's world is the door's own (XLaid).
-/
import Derived.Test.YtlkpofhfkhdheaaGreatDoorLaid
import Derived.Test.YtlkpofhfkhdheaaGreatDoorRefShow2
import Derived.Test.YtlkpofhfkhdheaaGreatDoorPolAlive
import Derived.Test.YtlkpofhfkhdheaaGreatDoorOwn
namespace Go.Proofs.YtlkpofhfkhdheaaGreatDoor.policyShows
open Go.ChangeShapes Go.WideShapes Go.ChangeAt Go.RowKit
open Go.ChangeMaps (open_string shut_string)
set_option linter.unusedVariables false

theorem own : ownKnob Tryz.prog.godebug = none := by kernel_rfl
theorem laidOut : laidOutB Tryz.prog = true := by kernel_rfl
open Ru

set_option maxRecDepth 20000 in
set_option maxHeartbeats 4000000 in
theorem walk (w : World) (v0 : Value) (w0 : RulesV w v0) (htab : PowsB w) (hu : Lib.Utf8Tabs 2 3 w) :
    Calls Tryz.prog 3 #[v0] w fun e w' => e = .returned (.bool true) ∧ Below w.heap.size w w' := by
  obtain ⟨A, n, c, rs, rfl, hr, hrw⟩ := w0
  have HA := hid_ (show ∀ W : World, Below w.heap.size w W → Calls Tryz.prog 6 #[] W (fun e w' => e = .returned (.bool (true)) ∧ Below w.heap.size w w') from fun W hb  => (alive_any W (htab.later hb)).mono fun e w' h => ⟨h.1, hb.trans (h.2.mono hb.size)⟩)
  have HL := hid_ (light_any A n c rs none 0 0 [] w hr ⟨fun h => absurd rfl h, rfl, Nat.le_refl _, by omega, fun _ => rfl⟩ hrw (by simp))
  obtain rfl := hr.len
  cases l1 : lightF rs [] with
  | false =>
    rw [l1] at HL
    go_enter Tryz.func3, Tryz.ntmps3
    go_wp2_with fail
    refine Calls.mono (HL.out) ?_
    rintro e w3 ⟨rfl, b3⟩
    go_wp2_with fail
    refine Calls.mono (HA.out _ b3) ?_
    rintro e wz ⟨rfl, hz⟩
    go_wp2_with fail
    go_ret
    exact ⟨rfl, hz⟩
  | true =>
    rw [l1] at HL
    obtain ⟨z1, -, z3, -⟩ := light_all l1
    have hnc := hr.cap
    have hnm := hr.max
    have Hr := hid_ hr
    have Hrw := hid_ hrw
    have Hsm := hid_ z3
    have HO := hid_ (fun (W : World) (hb : Below w.heap.size w W) => own_any A rs.length c rs W (Hr.out.below hb) Hrw.out (by omega))
    have HS := hid_ (fun (W : World) (hb : Below w.heap.size w W) A' c' (ho : RuleRow W A' rs.length c' rs) => polshow_any A' rs.length c' rs W ho Hrw.out Hsm.out (htab.later hb))
    have HT := hid_ (fun (W : World) (hb : Below w.heap.size w W) => refshow_any A rs.length c rs W (Hr.out.below hb) Hrw.out Hsm.out)
    have HP := hid_ (fun (W : World) A' c' (ho : RuleRow W A' rs.length c' rs) => polright_any A' rs.length c' rs W ho Hrw.out)
    have HQ := hid_ (fun (W : World) (hb : Below w.heap.size w W) => refrightall_any A rs.length c rs W (Hr.out.below hb) Hrw.out)
    have eT : ((showT rs).toList == (showT rs).toList) = true := beq_self_eq_true _
    have eK : (showK rs == showK rs) = true := beq_self_eq_true _
    have eR : (rightK rs == rightK rs) = true := beq_self_eq_true _
    clear hr hrw htab hu z3 l1
    unfold ShowPost at HS HT
    generalize showT rs = tx at *
    generalize showK rs = kk at *
    generalize rightK rs = rk at *
    go_enter Tryz.func3, Tryz.ntmps3
    go_wp2_with fail
    refine Calls.mono (HL.out) ?_
    rintro e w3 ⟨rfl, b3⟩
    go_wp2_with fail
    refine Calls.mono (HO.out _ b3) ?_
    rintro e w4 ⟨A1, c1, rfl, ho, b4'⟩
    have Hown := hid_ ho.row
    have B4 := hid_ (b3.trans (b4'.mono b3.size))
    clear ho b4' b3
    go_wp2_with fail
    refine Calls.mono (HS.out _ B4.out A1 c1 Hown.out) ?_
    rintro e w5 ⟨rfl, b5⟩
    have B5 := hid_ (B4.out.trans (b5.mono B4.out.size))
    clear b5 B4 Hown
    go_wp2_with fail
    refine Calls.mono (HT.out _ B5.out) ?_
    rintro e w6 ⟨rfl, b6⟩
    have B6 := hid_ (B5.out.trans (b6.mono B5.out.size))
    clear b6 B5
    go_wp2_with fail
    refine Calls.mono (HO.out _ B6.out) ?_
    rintro e w7 ⟨A2, c2, rfl, ho, b7'⟩
    have Hown := hid_ ho.row
    have B7 := hid_ (B6.out.trans (b7'.mono B6.out.size))
    clear ho b7' B6
    go_wp2_with fail
    refine Calls.mono (HP.out _ A2 c2 Hown.out) ?_
    rintro e w8 ⟨rfl, b8⟩
    have B8 := hid_ (B7.out.trans (b8.mono B7.out.size))
    clear b8 B7 Hown
    go_wp2_with fail
    refine Calls.mono (HQ.out _ B8.out) ?_
    rintro e w9 ⟨rfl, b9⟩
    have B9 := hid_ (B8.out.trans (b9.mono B8.out.size))
    clear b9 B8
    go_wp2_with fail
    refine Calls.mono (HA.out _ B9.out) ?_
    rintro e wz ⟨rfl, hz⟩
    go_wp2_with fail
    go_ret
    exact ⟨rfl, hz⟩

set_option maxRecDepth 100000 in
theorem lifted (os : Os) (started : os.Started) (H : Type) (enc : TypeId × Value → H) (F : Stop.Interp) :
    ReturnsInHanded {} Tryz.checked os 3 .any ((OpenSpec.ofChange Rows.policyShowsSpec).preRow enc Tryz.prog Tryz.f3 Rows.policyShowsRow.domain false Rows.policyShowsRow.laid) (((OpenSpec.ofChange Rows.policyShowsSpec).at F).post enc Tryz.prog Tryz.f3 false true false false) := by
  have hrow : (OpenSpec.ofChange Rows.policyShowsSpec).preRow enc Tryz.prog Tryz.f3 Rows.policyShowsRow.domain false Rows.policyShowsRow.laid ((laidWorld os).forCall (fun _ _ => 0) ⟨#[], #[.slice none 0 0], []⟩).memory #[.slice none 0 0] := by
    have hw : (DataW.whole enc Tryz.prog ((laidWorld os).forCall (fun _ _ => 0) ⟨#[], #[.slice none 0 0], []⟩).memory Tryz.f3.params.toList Rows.policyShowsSpec.vars false (#[.slice none 0 0] : Array Value).toList 8).map (fun x => (x.1, x.2.1)) = some ([.nil], []) := by kernel_rfl
    obtain ⟨⟨x1, x2, x3⟩, hx, hx1⟩ := Option.map_eq_some_iff.1 hw
    simp only [Prod.mk.injEq] at hx1
    obtain ⟨rfl, rfl⟩ := hx1
    exact OpenSpec.preRow_of_cond 8 hx (by kernel_rfl) (fun k hk => by cases hk) (by kernel_rfl) (laid_met os _)
  refine returnsInHanded_of_row (C := Tryz.checked) (s := OpenSpec.ofChange Rows.policyShowsSpec) own started (by kernel_rfl) Tryz.func3
    (witness_row_atRef (enc := enc) (C := Tryz.checked) false (laidWorld os) #[.slice none 0 0] rfl (by kernel_rfl) (by kernel_rfl) (by kernel_rfl) hrow) ?_
  intro W base args ds gs before hval0 hW _ _ _ hL _ _
  have hval : ∀ (j : Nat) t v, Tryz.f3.params[j]? = some t → args[j]? = some v → Value.okWide Tryz.prog W .any base t v := hval0
  have hW' := hW
  obtain ⟨p, q, hA0, hV, rfl, hfz, hnd⟩ := hW
  have hA : DataW.TrodAll enc Tryz.prog W 0 (fun _ => true) true Tryz.f3.params.toList args.toList ds p := hA0
  rw [Tryz.params3] at hA hval
  obtain ⟨v0, vs0, d0, ds0, p0, q0, hargs, rfl, rfl, h0, r0⟩ := trodAll_cons hA
  obtain ⟨rfl, rfl, rfl⟩ := trodAll_nil r0
  obtain rfl : args = #[v0] := by cases args; simp_all
  obtain ⟨rfl, rfl⟩ := trodVars_none hV
  have lt0 : ∀ x ∈ p0, x.block < W.heap.size := by have k := h0; obtain ⟨m, hm⟩ := k; exact DataW.trod_lt m _ _ _ hm
  have k0 := h0
  have w0 : RulesV W v0 := open_rulesV (hval 0 22 v0 rfl rfl) h0
  clear hA0 hval0
  refine (walk W v0 w0 (pows_laid hL) (u8_laid hL)).mono fun e W' ⟨he, bel⟩ => ?_
  subst he
  exact ⟨_, rfl, _, _, _, [], _, [], hW', trodAll_mk1 (shut_bool Tryz.underlying4 _), (trodAll_cons_mk (Below.trod laidOut (by kernel_rfl) (of_decide_eq_true (by kernel_rfl)) k0 bel lt0) trodAll_mk0), rfl, bel.frame _, fun h => by cases h⟩

theorem said : Rows.PolicyShowsSaid :=
  OpenClaim.holds_of_cond 3 Tryz.f3 rfl rfl rfl rfl rfl rfl rfl ⟨rfl, rfl, rfl, rfl, rfl⟩ rfl rfl rfl rfl rfl (by kernel_rfl) Tryz.func3 (by kernel_rfl)
    (of_decide_eq_true (by kernel_rfl)) (by unfold Func.isWrapper; first | (rw [if_pos (by decide +kernel)]; kernel_rfl) | (rw [if_neg (by decide +kernel)]; exact ⟨rfl, rfl⟩))
    (fun os started H enc _ F => by rw [OpenClaim.pre_eq_preRow]; exact lifted os started H enc F)

theorem plain (f : FuncId) (fn : Func) (hf : Tryz.pinned.checked.prog.funcNamed "winnow/winnowlaw04.PolicyShows" = some f) (hfn : Tryz.pinned.checked.prog.funcs[f]? = some fn) :
    true = Tryz.pinned.checked.prog.looks [] ∧ ∀ (j : Nat) t, fn.params[j]? = some t → Tryz.pinned.checked.prog.wantsStandIn t = false := by
  obtain rfl : f = 3 := Option.some.inj ((show Tryz.prog.funcNamed "winnow/winnowlaw04.PolicyShows" = some 3 by kernel_rfl).symm.trans hf) |>.symm
  obtain rfl : fn = Tryz.f3 := (Option.some.inj (Tryz.func3.symm.trans hfn)).symm
  refine ⟨by kernel_rfl, fun j t ht => ?_⟩
  rw [Tryz.params3] at ht
  have hm : t ∈ [22] := by simpa using Array.mem_of_getElem? ht
  have hall : ([22].all fun u => !Tryz.prog.wantsStandIn u) = true := by kernel_rfl
  exact (show Tryz.prog.wantsStandIn t = false by simpa using List.all_eq_true.1 hall t hm)

theorem proved : Rows.PolicyShowsCardSaid :=
  Claim7.holds_tied_plain_at .later [] _ _ _ _ said (fun _ h => by cases h) (by kernel_rfl) (fun _ h => by cases h) policyShows_row_tie rfl ⟨rfl, rfl⟩ (by kernel_rfl) rfl plain (by kernel_rfl)
#print axioms proved
end Go.Proofs.YtlkpofhfkhdheaaGreatDoor.policyShows
