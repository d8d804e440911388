/-
  Of any rules and right spans Holds and Eval answer what the reference answers; the chapter's example comes.
  The frame: the row lists tables; the witness's world is the door's own (XLaid).
-/
import Derived.Test.YtlkpofhfkhdheaaDoorLaid
import Derived.Test.YtlkpofhfkhdheaaDoorRefEval
import Derived.Test.YtlkpofhfkhdheaaDoorSpStep
import Derived.Test.YtlkpofhfkhdheaaDoorPolAlive
import Derived.Test.YtlkpofhfkhdheaaDoorMatch
namespace Go.Proofs.YtlkpofhfkhdheaaDoor.policyEvals
open Go.ChangeShapes Go.WideShapes Go.ChangeAt Go.RowKit
open Go.ChangeMaps (open_string shut_string)
set_option linter.unusedVariables false

theorem own : ownKnob Tryd.prog.godebug = none := by kernel_rfl
theorem laidOut : laidOutB Tryd.prog = true := by kernel_rfl
open Ru
/-- One rule stands at two places, in whatever world has come of w1 by new blocks. -/
abbrev TwoIn (w1 : World) (g o g2 o2 : Nat) (r : RuleD) (W : World) : Prop :=
  Below w1.heap.size w1 W ∧ W.cell? ⟨g, o, none⟩ = some (.bool r.keep) ∧ W.cell? ⟨g, o + 1, none⟩ = some (.string r.what) ∧ W.cell? ⟨g, o + 2, none⟩ = some (.int .u64 (r.num : Nat)) ∧ W.cell? ⟨g, o + 3, none⟩ = some (.string r.text)
    ∧ W.cell? ⟨g2, o2, none⟩ = some (.bool r.keep) ∧ W.cell? ⟨g2, o2 + 1, none⟩ = some (.string r.what) ∧ W.cell? ⟨g2, o2 + 2, none⟩ = some (.int .u64 (r.num : Nat)) ∧ W.cell? ⟨g2, o2 + 3, none⟩ = some (.string r.text)
theorem twoIn_keep {w1 W W' : World} {g o g2 o2 : Nat} {r : RuleD} (h : TwoIn w1 g o g2 o2 r W) (hb : Below W.heap.size W W') : TwoIn w1 g o g2 o2 r W' := by
  obtain ⟨h0, a0, a1, a2, a3, b0, b1, b2, b3⟩ := h
  obtain ⟨c0, c1, c2, c3⟩ := RuleAt.keep_ ⟨a0, a1, a2, a3⟩ fun p hp => hb.cell hp
  obtain ⟨d0, d1, d2, d3⟩ := RuleAt.keep_ ⟨b0, b1, b2, b3⟩ fun p hp => hb.cell hp
  exact ⟨h0.trans (hb.mono h0.size), c0, c1, c2, c3, d0, d1, d2, d3⟩

set_option maxRecDepth 20000 in
set_option maxHeartbeats 4000000 in
theorem walk (w : World) (v0 : Value) (w0 : RulesV w v0) (v1 : Value) (w1 : SpansV w v1) (htab : PowsB w) (hu : Lib.Utf8Tabs 1 2 w) :
    Calls Tryd.prog 3 #[v0, v1] w fun e w' => e = .returned (.bool true) ∧ Below w.heap.size w w' := by
  obtain ⟨A, n, c, rs, rfl, hr, hrw⟩ := w0
  obtain ⟨B, m, d, ss, rfl, hs, hsw⟩ := w1
  have HA := hid_ (show ∀ W : World, Below w.heap.size w W → Calls Tryd.prog 7 #[] W (fun e w' => e = .returned (.bool (true)) ∧ Below w.heap.size w w') from fun W hb  => (alive_any W (htab.later hb)).mono fun e w' h => ⟨h.1, hb.trans (h.2.mono hb.size)⟩)
  have HL := hid_ (light_any A n c rs B m d ss w hr hs hrw hsw)
  have HR := hid_ (show ∀ W : World, Below w.heap.size w W → Calls Tryd.prog 6 #[.slice B m d] W (fun e w' => e = .returned (.bool (rightAll ss)) ∧ Below w.heap.size w w') from fun W hb  => (rightall_any B m d ss W (hs.below hb) hsw).mono fun e w' h => ⟨h.1, hb.trans (h.2.mono hb.size)⟩)
  obtain rfl := hr.len
  obtain rfl := hs.len
  cases l1 : lightF rs ss with
  | false =>
    rw [l1] at HL
    go_enter Tryd.func3, Tryd.ntmps3
    go_wp2_with fail
    refine Calls.mono (HL.out) ?_
    rintro e w3 ⟨rfl, b3⟩
    go_wp2_with fail
    refine Calls.mono (HA.out _ b3) ?_
    rintro e wz ⟨rfl, hz⟩
    go_wp2_with fail
    go_ret
    exact ⟨rfl, hz⟩
  | true =>
    rw [l1] at HL
    cases l3 : rightAll ss with
    | false =>
      rw [l3] at HR
      go_enter Tryd.func3, Tryd.ntmps3
      go_wp2_with fail
      refine Calls.mono (HL.out) ?_
      rintro e w3 ⟨rfl, b3⟩
      go_wp2_with fail
      refine Calls.mono (HR.out _ b3) ?_
      rintro e w5 ⟨rfl, b5⟩
      go_wp2_with fail
      refine Calls.mono (HA.out _ b5) ?_
      rintro e wz ⟨rfl, hz⟩
      go_wp2_with fail
      go_ret
      exact ⟨rfl, hz⟩
    | true =>
      rw [l3] at HR
      obtain ⟨z1, z2, z3, z4⟩ := light_all l1
      have hok : ∀ s ∈ ss, s.Ok := fun s h => ⟨hsw s h, by have := (z4 s h).1; omega⟩
      have hnc := hr.cap
      have hnm := hr.max
      have Hs := hid_ hs
      have Hr := hid_ hr
      have Hok := hid_ hok
      have Hrw := hid_ hrw
      have Htx := hid_ (show ∀ r ∈ rs, r.text.size ≤ 200 from fun r h => (z3 r h).1)
      have Hmk := hid_ (fun (W : World) (hb : Below w.heap.size w W) r (h : r ∈ rs) => show MatchOk r W from fun _ W' s hb' hs' => ownmatch_any r.text s.name W' (by have := Htx.out r h; omega) (by have := hs'.small; omega) (tabs_later hu (hb.trans (hb'.mono hb.size))))
      have HH := hid_ (fun (W : World) (hb : Below w.heap.size w W) r (h : r ∈ rs) => holds_any r (Hrw.out r h) B ss.length d ss W (Hs.out.below hb) (by omega) Hok.out (Hmk.out W hb r h))
      have HG := hid_ (fun (W : World) (hb : Below w.heap.size w W) r (h : r ∈ rs) => refholds_any r (Hrw.out r h) B ss.length d ss W (Hs.out.below hb) Hok.out (by have := Htx.out r h; omega))
      have HE := hid_ (fun (W : World) (hb : Below w.heap.size w W) A' c' (ho : RuleRow W A' rs.length c' rs) => eval_any A' rs.length c' rs B ss.length d ss W ho Hrw.out (Hs.out.below hb) (by omega) Hok.out (fun r h => Hmk.out W hb r h))
      have HF := hid_ (fun (W : World) (hb : Below w.heap.size w W) => refeval_any A rs.length c rs B ss.length d ss W (Hr.out.below hb) Hrw.out (Hs.out.below hb) Hok.out (fun r h => by have := Htx.out r h; omega))
      have HO := hid_ (fun (W : World) (hb : Below w.heap.size w W) => own_any A rs.length c rs W (Hr.out.below hb) Hrw.out (by omega))
      clear hr hs hrw hsw hok htab hu z3 z4 l1 l3
      go_enter Tryd.func3, Tryd.ntmps3
      go_wp2_with fail
      refine Calls.mono (HL.out) ?_
      rintro e w3 ⟨rfl, b3⟩
      go_wp2_with fail
      refine Calls.mono (HR.out _ b3) ?_
      rintro e w5 ⟨rfl, b5⟩
      go_wp2_with fail
      refine Calls.mono (HO.out _ b5) ?_
      rintro e w6 ⟨A1, c1, rfl, ho, b6'⟩
      have Hown := hid_ ho.row
      have hcap := ho.row.cap
      have hmax := ho.row.max
      have B6 := hid_ (b5.trans (b6'.mono b5.size))
      clear ho b6' b5 b3
      generalize hev : evalF rs ss = ev at *
      clear hev
      go_wp2_with fail
      go_loopw [6] (fun vi wr => ∃ k : Nat, k ≤ rs.length ∧ vi = .int .i64 (k : Nat) ∧ Hid (Below w6.heap.size w6 wr)) (fun vi _ => rs.length - (intOf vi).toNat)
      case atStart => exact ⟨0, Nat.zero_le _, rfl, hid_ (Below.refl _ _)⟩
      case round =>
        obtain ⟨k, hk, rfl, Hw⟩ := hrel
        by_cases hlt : k < rs.length
        · obtain ⟨b, off, rfl, hc⟩ := (Hr.out.below (B6.out.trans (Hw.out.mono B6.out.size))).at_ hlt
          obtain ⟨bO, oO, rfl, hcO⟩ := (Hown.out.below Hw.out).at_ hlt
          obtain ⟨c0, c1', c2, c3⟩ := hc
          obtain ⟨d0, d1, d2, d3⟩ := hcO
          have x1 : (k : Int) < (rs.length : Int) := by omega
          have x2 : (0 : Int) ≤ (k : Int) := by omega
          have HHk := hid_ (fun W hb => HH.out W hb rs[k] (List.getElem_mem hlt))
          have HGk := hid_ (fun W hb => HG.out W hb rs[k] (List.getElem_mem hlt))
          have Bw := hid_ (B6.out.trans (Hw.out.mono B6.out.size))
          generalize holdsF rs[k] ss = x at *
          generalize rs[k] = r at *
          have hIn : TwoIn wr b (off + k * 4) bO (oO + k * 4) r wr := ⟨Below.refl _ _, c0, c1', c2, c3, d0, d1, d2, d3⟩
          clear c0 c1' c2 c3 d0 d1 d2 d3
          cases x
          all_goals
            go_wp2_with fail
            go_region_held3 (TwoIn wr b (off + k * 4) bO (oO + k * 4) r) (first | assumption | (refine twoIn_keep (by assumption) (by assumption)) | (refine twoIn_keep (by assumption) (Below.drew (Below.refl _ _))) | (refine twoIn_keep (by assumption) (Below.alloc (Below.refl _ _) (Nat.le_refl _) _)))
              (first
                | (go_at_call 9; (with_reducible refine Calls.mono (HHk.out _ ?_) ?_); (exact Below.trans Bw.out (Below.mono (And.left (by assumption)) Bw.out.size)); rintro e w13 ⟨rfl, hb13⟩)
                | (go_at_call 10; (with_reducible refine Calls.mono (HGk.out _ ?_) ?_); (exact Below.trans Bw.out (Below.mono (And.left (by assumption)) Bw.out.size)); rintro e w14 ⟨rfl, hb14⟩)
                | fail)
            all_goals
              go_wp2_with fail
              go_roundw
              case rel => exact ⟨k + 1, by omega, by go_num, hid_ (Hw.out.trans (Below.mono (And.left (by assumption)) Hw.out.size))⟩
              case measure => simp [intOf] <;> omega
        · obtain rfl : k = rs.length := by omega
          have Bw := hid_ (B6.out.trans (Hw.out.mono B6.out.size))
          have eE : (ev == ev) = true := beq_self_eq_true _
          go_wp2_with fail
          refine Calls.mono (HE.out _ Bw.out A1 c1 (Hown.out.below Hw.out)) ?_
          rintro e w7 ⟨rfl, hb7⟩
          have B7 := hid_ (Bw.out.trans (hb7.mono Bw.out.size))
          clear hb7
          go_wp2_with fail
          refine Calls.mono (HF.out _ B7.out) ?_
          rintro e w8 ⟨rfl, hb8⟩
          have B8 := hid_ (B7.out.trans (hb8.mono B7.out.size))
          clear hb8
          go_wp2_with fail
          refine Calls.mono (HA.out _ B8.out) ?_
          rintro e wz ⟨rfl, hz⟩
          go_wp2_with fail
          go_ret
          exact ⟨rfl, hz⟩

set_option maxRecDepth 100000 in
theorem lifted (os : Os) (started : os.Started) (H : Type) (enc : TypeId × Value → H) (F : Stop.Interp) :
    ReturnsInHanded {} Tryd.checked os 3 .any ((OpenSpec.ofChange Rows.policyEvalsSpec).preRow enc Tryd.prog Tryd.f3 Rows.policyEvalsRow.domain false Rows.policyEvalsRow.laid) (((OpenSpec.ofChange Rows.policyEvalsSpec).at F).post enc Tryd.prog Tryd.f3 false true false false) := by
  have hrow : (OpenSpec.ofChange Rows.policyEvalsSpec).preRow enc Tryd.prog Tryd.f3 Rows.policyEvalsRow.domain false Rows.policyEvalsRow.laid ((laidWorld os).forCall (fun _ _ => 0) ⟨#[], #[.slice none 0 0, .slice none 0 0], []⟩).memory #[.slice none 0 0, .slice none 0 0] := by
    have hw : (DataW.whole enc Tryd.prog ((laidWorld os).forCall (fun _ _ => 0) ⟨#[], #[.slice none 0 0, .slice none 0 0], []⟩).memory Tryd.f3.params.toList Rows.policyEvalsSpec.vars false (#[.slice none 0 0, .slice none 0 0] : Array Value).toList 8).map (fun x => (x.1, x.2.1)) = some ([.nil, .nil], []) := by kernel_rfl
    obtain ⟨⟨x1, x2, x3⟩, hx, hx1⟩ := Option.map_eq_some_iff.1 hw
    simp only [Prod.mk.injEq] at hx1
    obtain ⟨rfl, rfl⟩ := hx1
    exact OpenSpec.preRow_of_cond 8 hx (by kernel_rfl) (fun k hk => by cases hk) (by kernel_rfl) (laid_met os _)
  refine returnsInHanded_of_row (C := Tryd.checked) (s := OpenSpec.ofChange Rows.policyEvalsSpec) own started (by kernel_rfl) Tryd.func3
    (witness_row_atRef (enc := enc) (C := Tryd.checked) false (laidWorld os) #[.slice none 0 0, .slice none 0 0] rfl (by kernel_rfl) (by kernel_rfl) (by kernel_rfl) hrow) ?_
  intro W base args ds gs before hval0 hW _ _ _ hL _ _
  have hval : ∀ (j : Nat) t v, Tryd.f3.params[j]? = some t → args[j]? = some v → Value.okWide Tryd.prog W .any base t v := hval0
  have hW' := hW
  obtain ⟨p, q, hA0, hV, rfl, hfz, hnd⟩ := hW
  have hA : DataW.TrodAll enc Tryd.prog W 0 (fun _ => true) true Tryd.f3.params.toList args.toList ds p := hA0
  rw [Tryd.params3] at hA hval
  obtain ⟨v0, vs0, d0, ds0, p0, q0, hargs, rfl, rfl, h0, r0⟩ := trodAll_cons hA
  obtain ⟨v1, vs1, d1, ds1, p1, q1, rfl, rfl, rfl, h1, r1⟩ := trodAll_cons r0
  obtain ⟨rfl, rfl, rfl⟩ := trodAll_nil r1
  obtain rfl : args = #[v0, v1] := by cases args; simp_all
  obtain ⟨rfl, rfl⟩ := trodVars_none hV
  have lt0 : ∀ x ∈ p0, x.block < W.heap.size := by have k := h0; obtain ⟨m, hm⟩ := k; exact DataW.trod_lt m _ _ _ hm
  have k0 := h0
  have w0 : RulesV W v0 := open_rulesV (hval 0 22 v0 rfl rfl) h0
  have lt1 : ∀ x ∈ p1, x.block < W.heap.size := by have k := h1; obtain ⟨m, hm⟩ := k; exact DataW.trod_lt m _ _ _ hm
  have k1 := h1
  have w1 : SpansV W v1 := open_spansV (hval 1 23 v1 rfl rfl) h1
  clear hA0 hval0
  refine (walk W v0 w0 v1 w1 (pows_laid hL) (u8_laid hL)).mono fun e W' ⟨he, bel⟩ => ?_
  subst he
  exact ⟨_, rfl, _, _, _, [], _, [], hW', trodAll_mk1 (shut_bool Tryd.underlying4 _), (trodAll_cons_mk (Below.trod laidOut (by kernel_rfl) (of_decide_eq_true (by kernel_rfl)) k0 bel lt0) (trodAll_cons_mk (Below.trod laidOut (by kernel_rfl) (of_decide_eq_true (by kernel_rfl)) k1 bel lt1) trodAll_mk0)), rfl, bel.frame _, fun h => by cases h⟩

theorem said : Rows.PolicyEvalsSaid :=
  OpenClaim.holds_of_cond 3 Tryd.f3 rfl rfl rfl rfl rfl rfl rfl ⟨rfl, rfl, rfl, rfl, rfl⟩ rfl rfl rfl rfl rfl (by kernel_rfl) Tryd.func3 (by kernel_rfl)
    (of_decide_eq_true (by kernel_rfl)) (by unfold Func.isWrapper; first | (rw [if_pos (by decide +kernel)]; kernel_rfl) | (rw [if_neg (by decide +kernel)]; exact ⟨rfl, rfl⟩))
    (fun os started H enc _ F => by rw [OpenClaim.pre_eq_preRow]; exact lifted os started H enc F)

theorem plain (f : FuncId) (fn : Func) (hf : Tryd.pinned.checked.prog.funcNamed "winnow/winnowlaw04.PolicyEvals" = some f) (hfn : Tryd.pinned.checked.prog.funcs[f]? = some fn) :
    true = Tryd.pinned.checked.prog.looks [] ∧ ∀ (j : Nat) t, fn.params[j]? = some t → Tryd.pinned.checked.prog.wantsStandIn t = false := by
  obtain rfl : f = 3 := Option.some.inj ((show Tryd.prog.funcNamed "winnow/winnowlaw04.PolicyEvals" = some 3 by kernel_rfl).symm.trans hf) |>.symm
  obtain rfl : fn = Tryd.f3 := (Option.some.inj (Tryd.func3.symm.trans hfn)).symm
  refine ⟨by kernel_rfl, fun j t ht => ?_⟩
  rw [Tryd.params3] at ht
  have hm : t ∈ [22, 23] := by simpa using Array.mem_of_getElem? ht
  have hall : ([22, 23].all fun u => !Tryd.prog.wantsStandIn u) = true := by kernel_rfl
  exact (show Tryd.prog.wantsStandIn t = false by simpa using List.all_eq_true.1 hall t hm)

theorem proved : Rows.PolicyEvalsCardSaid :=
  Claim7.holds_tied_plain_at .later [] _ _ _ _ said (fun _ h => by cases h) (by kernel_rfl) (fun _ h => by cases h) policyEvals_row_tie rfl ⟨rfl, rfl⟩ (by kernel_rfl) rfl plain (by kernel_rfl)
#print axioms proved
end Go.Proofs.YtlkpofhfkhdheaaDoor.policyEvals
