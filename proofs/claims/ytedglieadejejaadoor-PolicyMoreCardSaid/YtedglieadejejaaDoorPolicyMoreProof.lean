/-
  A rule that holds of spans holds of more; the chapter's example comes.
  The frame: the row lists tables; the witness's world is the door's own (XLaid).
-/
import Derived.Test.YtedglieadejejaaDoorLaid
import Derived.Test.YtedglieadejejaaDoorSpStep
import Derived.Test.YtedglieadejejaaDoorPolAlive
import Derived.Test.YtedglieadejejaaDoorMatch
namespace Go.Proofs.YtedglieadejejaaDoor.policyMore
open Go.ChangeShapes Go.WideShapes Go.ChangeAt Go.RowKit
open Go.ChangeMaps (open_string shut_string)
set_option linter.unusedVariables false

theorem own : ownKnob Tryd.prog.godebug = none := by kernel_rfl
theorem laidOut : laidOutB Tryd.prog = true := by kernel_rfl
open Ru
theorem quest_more {r : RuleD} {k k' : Nat} {s : SpanD} (h : k ≤ k') (hq : questF r k s = true) : questF r k' s = true := by
  unfold questF at hq ⊢
  split at hq <;> simp_all
  omega
theorem holds_sub {r : RuleD} {a b : List SpanD} (hl : a.length ≤ b.length) (hs : ∀ s ∈ a, s ∈ b) (h : holdsF r a = true) : holdsF r b = true := by
  unfold holdsF at h ⊢
  rw [Bool.and_eq_true, List.any_eq_true] at h
  obtain ⟨h1, s, hm, hq⟩ := h
  rw [Bool.and_eq_true, List.any_eq_true]
  exact ⟨h1, s, hs s hm, quest_more hl hq⟩

set_option maxRecDepth 20000 in
set_option maxHeartbeats 2000000 in
theorem walk (w : World) (v0 : Value) (w0 : RuleV w v0) (v1 : Value) (w1 : SpansV w v1) (v2 : Value) (w2 : SpansV w v2) (htab : PowsB w) (hu : Lib.Utf8Tabs 0 1 w) :
    Calls Tryd.prog 8 #[v0, v1, v2] w fun e w' => e = .returned (.bool true) ∧ Below w.heap.size w w' := by
  obtain ⟨r, hr, rfl⟩ := w0
  obtain ⟨A, n, c, ss, rfl, hs, hsw⟩ := w1
  obtain ⟨B, m, d, ms, rfl, hm, hmw⟩ := w2
  go_enter Tryd.func8, Tryd.ntmps8
  go_wp2_with fail
  have R0 : RuleRow ((w.alloc (.cells #[.bool r.keep, .string r.what, .int .u64 (r.num : Nat), .string r.text] 39)).alloc (.cells #[.bool r.keep, .string r.what, .int .u64 (r.num : Nat), .string r.text] 39)) (some ⟨w.heap.size + 1, 0, none⟩) 1 1 [r] := by
    have h := rule_one (w.alloc (.cells #[.bool r.keep, .string r.what, .int .u64 (r.num : Nat), .string r.text] 39)) r 39
    have e : (w.alloc (.cells #[.bool r.keep, .string r.what, .int .u64 (r.num : Nat), .string r.text] 39)).heap.size = w.heap.size + 1 := by simp
    rw [e] at h
    exact h
  have Wr : Whole ((w.alloc (.cells #[.bool r.keep, .string r.what, .int .u64 (r.num : Nat), .string r.text] 39)).alloc (.cells #[.bool r.keep, .string r.what, .int .u64 (r.num : Nat), .string r.text] 39)) w.heap.size 39 (ruleCells r) := (whole_new w 39 (ruleCells r)).alloc _
  have b2 : Below w.heap.size w ((w.alloc (.cells #[.bool r.keep, .string r.what, .int .u64 (r.num : Nat), .string r.text] 39)).alloc (.cells #[.bool r.keep, .string r.what, .int .u64 (r.num : Nat), .string r.text] 39)) := ((Below.refl w.heap.size w).alloc (Nat.le_refl _) _).alloc (by simp) _
  generalize hW2 : ((w.alloc (.cells #[.bool r.keep, .string r.what, .int .u64 (r.num : Nat), .string r.text] 39)).alloc (.cells #[.bool r.keep, .string r.what, .int .u64 (r.num : Nat), .string r.text] 39)) = W2 at *
  clear hW2
  have htab := htab.later b2
  have hu := tabs_later hu b2
  have hs := hs.below b2
  have hm := hm.below b2
  have HA2 := hid_ (fun (W : World) (hb : Below W2.heap.size W2 W) => alive_any W (htab.later hb))
  have HA := hid_ (show ∀ W : World, Below W2.heap.size W2 W → Calls Tryd.prog 12 #[] W (fun e w' => e = .returned (.bool (true)) ∧ Below W2.heap.size W2 w') from fun W hb  => (alive_any W (htab.later hb)).mono fun e w' h => ⟨h.1, hb.trans (h.2.mono hb.size)⟩)
  have HL1 := hid_ (show Calls Tryd.prog 16 #[.slice (some ⟨w.heap.size + 1, 0, none⟩) 1 1, .slice A n c] W2 (BoolIs W2 (lightF [r] ss)) from light_any _ 1 1 [r] A n c ss W2 R0 hs (by simpa using hr) hsw)
  have HL2 := hid_ (show ∀ W : World, Below W2.heap.size W2 W → Calls Tryd.prog 16 #[.slice none 0 0, .slice B m d] W (fun e w' => e = .returned (.bool (lightF [] ms)) ∧ Below W2.heap.size W2 w') from fun W hb  => (light_any none 0 0 [] B m d ms W (RuleRow.none W) (hm.below hb) (by simp) hmw).mono fun e w' h => ⟨h.1, hb.trans (h.2.mono hb.size)⟩)
  have HR1 := hid_ (show ∀ W : World, Below W2.heap.size W2 W → Calls Tryd.prog 17 #[.slice A n c] W (fun e w' => e = .returned (.bool (rightAll ss)) ∧ Below W2.heap.size W2 w') from fun W hb  => (rightall_any A n c ss W (hs.below hb) hsw).mono fun e w' h => ⟨h.1, hb.trans (h.2.mono hb.size)⟩)
  have HR2 := hid_ (show ∀ W : World, Below W2.heap.size W2 W → Calls Tryd.prog 17 #[.slice B m d] W (fun e w' => e = .returned (.bool (rightAll ms)) ∧ Below W2.heap.size W2 w') from fun W hb  => (rightall_any B m d ms W (hm.below hb) hmw).mono fun e w' h => ⟨h.1, hb.trans (h.2.mono hb.size)⟩)
  cases l1 : lightF [r] ss with
  | false =>
    rw [l1] at HL1
    refine Calls.mono (HL1.out) ?_
    rintro e w3 ⟨rfl, b3⟩
    go_wp2_with fail
    refine Calls.mono (HA.out _ b3) ?_
    rintro e wz ⟨rfl, hz⟩
    go_wp2_with fail
    go_ret
    exact ⟨rfl, b2.trans (hz.mono b2.size)⟩
  | true =>
    rw [l1] at HL1
    cases l2 : lightF [] ms with
    | false =>
      rw [l2] at HL2
      refine Calls.mono (HL1.out) ?_
      rintro e w3 ⟨rfl, b3⟩
      go_wp2_with fail
      refine Calls.mono (HL2.out _ b3) ?_
      rintro e w4 ⟨rfl, b4⟩
      go_wp2_with fail
      refine Calls.mono (HA.out _ b4) ?_
      rintro e wz ⟨rfl, hz⟩
      go_wp2_with fail
      go_ret
      exact ⟨rfl, b2.trans (hz.mono b2.size)⟩
    | true =>
      rw [l2] at HL2
      cases l3 : rightAll ss with
      | false =>
        rw [l3] at HR1
        refine Calls.mono (HL1.out) ?_
        rintro e w3 ⟨rfl, b3⟩
        go_wp2_with fail
        refine Calls.mono (HL2.out _ b3) ?_
        rintro e w4 ⟨rfl, b4⟩
        go_wp2_with fail
        refine Calls.mono (HR1.out _ b4) ?_
        rintro e w5 ⟨rfl, b5⟩
        go_wp2_with fail
        refine Calls.mono (HA.out _ b5) ?_
        rintro e wz ⟨rfl, hz⟩
        go_wp2_with fail
        go_ret
        exact ⟨rfl, b2.trans (hz.mono b2.size)⟩
      | true =>
        rw [l3] at HR1
        cases l4 : rightAll ms with
        | false =>
          rw [l4] at HR2
          refine Calls.mono (HL1.out) ?_
          rintro e w3 ⟨rfl, b3⟩
          go_wp2_with fail
          refine Calls.mono (HL2.out _ b3) ?_
          rintro e w4 ⟨rfl, b4⟩
          go_wp2_with fail
          refine Calls.mono (HR1.out _ b4) ?_
          rintro e w5 ⟨rfl, b5⟩
          go_wp2_with fail
          refine Calls.mono (HR2.out _ b5) ?_
          rintro e w6 ⟨rfl, b6⟩
          go_wp2_with fail
          refine Calls.mono (HA.out _ b6) ?_
          rintro e wz ⟨rfl, hz⟩
          go_wp2_with fail
          go_ret
          exact ⟨rfl, b2.trans (hz.mono b2.size)⟩
        | true =>
          rw [l4] at HR2
          refine Calls.mono (HL1.out) ?_
          rintro e w3 ⟨rfl, b3⟩
          go_wp2_with fail
          refine Calls.mono (HL2.out _ b3) ?_
          rintro e w4 ⟨rfl, b4⟩
          go_wp2_with fail
          refine Calls.mono (HR1.out _ b4) ?_
          rintro e w5 ⟨rfl, b5⟩
          go_wp2_with fail
          refine Calls.mono (HR2.out _ b5) ?_
          rintro e w6 ⟨rfl, b6⟩
          have Wr6 := Wr.below b6 Wr.lt
          have q0 := Wr6.cell 0 _ rfl
          have q1 := Wr6.cell 1 _ rfl
          have q2 := Wr6.cell 2 _ rfl
          have q3 := Wr6.cell 3 _ rfl
          go_wp2_with fail
          obtain ⟨_, z1, z2, z3⟩ := light_all l1
          have z4 := (light_all l2).2.1
          have z5 := (light_all l2).2.2.2
          have hn1 : n ≤ 1000000 := by rw [← hs.len]; omega
          have hok1 : ∀ s ∈ ss, s.Ok := fun s h => ⟨hsw s h, by have := (z3 s h).1; omega⟩
          have hok2 : ∀ s ∈ ms, s.Ok := fun s h => ⟨hmw s h, by have := (z5 s h).1; omega⟩
          have htx : r.text.size ≤ 200 := (z2 r (by simp)).1
          have HH := hid_ (fun (W : World) (hb : Below W2.heap.size W2 W) X n' c' (ss' : List SpanD) (hX : SpanRow W X n' c' ss') (hn' : n' ≤ 1000000) (ho' : ∀ s ∈ ss', s.Ok) => holds_any r hr X n' c' ss' W hX hn' ho' (fun _ W' s hb' hs' => ownmatch_any r.text s.name W' (by omega) (by have := hs'.small; omega) (tabs_later hu (hb.trans (hb'.mono hb.size)))))
          have b7 : Below W2.heap.size W2 (w6.alloc (.cells #[.bool r.keep, .string r.what, .int .u64 (r.num : Nat), .string r.text] 39)) := b6.alloc b6.size _
          refine Calls.mono (own_any (some ⟨w6.heap.size, 0, none⟩) 1 1 [r] (w6.alloc (.cells #[.bool r.keep, .string r.what, .int .u64 (r.num : Nat), .string r.text] 39)) (rule_one w6 r _) (by simpa using hr) (by omega)) ?_
          rintro e w8 ⟨A1, c1, rfl, ho8, hb8⟩
          have b8 := b7.trans (hb8.mono b7.size)
          obtain ⟨bR, oR, rfl, hat⟩ := ho8.row.at_ (k := 0) (by simp)
          obtain ⟨y0, y1, y2, y3⟩ := hat
          simp only [Nat.zero_mul, Nat.add_zero, List.getElem_cons_zero] at y0 y1 y2 y3
          go_wp2_with fail
          have Wo := whole_new w8 37 (ruleCells r)
          have b9 : Below W2.heap.size W2 (w8.alloc (.cells #[.bool r.keep, .string r.what, .int .u64 (r.num : Nat), .string r.text] 37)) := b8.alloc b8.size _
          have hat9 := hs.below b9
          generalize hG9 : w8.heap.size = G9 at *
          have Wo : Whole (w8.alloc (.cells #[.bool r.keep, .string r.what, .int .u64 (r.num : Nat), .string r.text] 37)) G9 37 (ruleCells r) := Wo
          generalize hW9 : w8.alloc (.cells #[.bool r.keep, .string r.what, .int .u64 (r.num : Nat), .string r.text] 37) = W9 at *
          refine Calls.mono (HH.out W9 b9 A n c ss hat9 hn1 hok1) ?_
          rintro e w10 ⟨rfl, hb10⟩
          have b10 := b9.trans (hb10.mono b9.size)
          have Wo10 := Wo.below hb10 Wo.lt
          have p0 := Wo10.cell 0 _ rfl
          have p1 := Wo10.cell 1 _ rfl
          have p2 := Wo10.cell 2 _ rfl
          have p3 := Wo10.cell 3 _ rfl
          cases hh : holdsF r ss with
          | false =>
            go_wp2_with fail
            refine Calls.mono (HA.out _ b10) ?_
            rintro e wz ⟨rfl, hz⟩
            go_wp2_with fail
            go_ret
            exact ⟨rfl, b2.trans (hz.mono b2.size)⟩
          | true =>
            have Hs10 := hid_ (hs.below b10)
            have Hm10 := hid_ (hm.below b10)
            have hIn : RuleIn w10 G9 0 r w10 := ⟨Below.refl _ _, p0, p1, p2, p3⟩
            have hG10 := Wo10.lt
            have hl1 := hs.len
            have hl2 := hm.len
            have hn1' : n ≤ 100 := by omega
            have hm1' : m ≤ 100 := by omega
            have Hcat := hid_ (holds_sub (b := ss ++ ms) (by simp) (fun s h => List.mem_append_left _ h) hh)
            have Hcat2 := hid_ (holds_sub (b := ms ++ ss) (by simp) (fun s h => List.mem_append_right _ h) hh)
            have Hok := hid_ (show ∀ s ∈ ss ++ ms, s.Ok from fun s h => (List.mem_append.1 h).elim (hok1 s) (hok2 s))
            have Hok2 := hid_ (show ∀ s ∈ ms ++ ss, s.Ok from fun s h => (List.mem_append.1 h).elim (hok2 s) (hok1 s))
            have Hb10 := hid_ b10
            clear p0 p1 p2 p3 hok1 hok2
            go_wp2_with fail
            go_region_held3 (RuleIn w10 G9 0 r) (first | assumption | (refine ruleIn_keep (by assumption) (by assumption)) | (refine ruleIn_keep (by assumption) (Below.drew (Below.refl _ _))) | (refine ruleIn_keep (by assumption) (Below.alloc (Below.refl _ _) (Nat.le_refl _) _)) | (refine ruleIn_keepB hG10 (by assumption) (by assumption)))
              (first
                | (refine step_spans (by rfl) (.tmp 40) (.tmp 41) (by rfl) w10.heap.size _ 0 0 [] (by rfl) ?_ A n c ss (by rfl) ?_ n ss (by omega) (by rfl) (by omega) ?_ ?_; (first | exact ownSp_empty _ _ rfl _ (by simp) | exact World.ownsRow.alloc (ownSp_empty _ _ rfl _ (by simp)) _ | exact ownSp_empty_at _ _ _ rfl _ (by simp) (by simp)); (exact Hs10.out.below (And.left (by assumption))); (exact Below.size (And.left (by assumption))); (intro A1 c1 w11 ho1 hb1 hg1))
                | (refine step_spans (by rfl) (.tmp 42) (.tmp 43) (by rfl) w10.heap.size A1 n c1 ss (by rfl) ?_ B m d ms (by rfl) ?_ (n + m) (ss ++ ms) (by omega) (by rfl) (by omega) ?_ ?_; (first | exact ho1 | exact World.ownsRow.alloc ho1 _); (exact Hm10.out.below (And.left (by assumption))); (exact Below.size (And.left (by assumption))); (intro A2 c2 w12 ho2 hb2' hg2; have hS12 : Below w10.heap.size w10 w12 := Below.trans (And.left (by assumption)) hb2'))
                | (go_at_call 19; (with_reducible refine Calls.mono (HH.out _ ?_ A2 (n + m) c2 (ss ++ ms) ?_ ?_ Hok.out) ?_); (exact Below.trans Hb10.out (Below.mono (And.left (by assumption)) Hb10.out.size)); (exact ho2.row); omega; rintro e w13 ⟨rfl, hb13⟩; rw [Hcat.out])
                | (refine step_spans (by rfl) (.tmp 48) (.tmp 49) (by rfl) w10.heap.size _ 0 0 [] (by rfl) ?_ B m d ms (by rfl) ?_ m ms (by omega) (by rfl) (by omega) ?_ ?_; (first | exact ownSp_empty _ _ rfl _ (Nat.le_trans (Below.size hS12) hb13.size) | exact (ownSp_empty _ _ rfl _ (Nat.le_trans (Below.size hS12) hb13.size)).later (Below.drew (Below.refl _ _)) | exact ownSp_empty _ _ rfl _ (by have := hb13.size; have := hb2'.size; have := hb1.size; simp at *; omega)); (exact Hm10.out.below (And.left (by assumption))); (exact Below.size (And.left (by assumption))); (intro A3 c3 w14 ho3 hb3' hg3))
                | (refine step_spans (by rfl) (.tmp 50) (.tmp 51) (by rfl) w10.heap.size A3 m c3 ms (by rfl) ?_ A n c ss (by rfl) ?_ (m + n) (ms ++ ss) (by omega) (by rfl) (by omega) ?_ ?_; (first | exact ho3 | exact World.ownsRow.alloc ho3 _); (exact Hs10.out.below (And.left (by assumption))); (exact Below.size (And.left (by assumption))); (intro A4 c4 w15 ho4 hb4' hg4))
                | (go_at_call 19; (with_reducible refine Calls.mono (HH.out _ ?_ A4 (m + n) c4 (ms ++ ss) ?_ ?_ Hok2.out) ?_); (exact Below.trans Hb10.out (Below.mono (And.left (by assumption)) Hb10.out.size)); (exact ho4.row); omega; rintro e w16 ⟨rfl, hb16⟩; rw [Hcat2.out])
                    | (go_at_call 12; (with_reducible refine Calls.mono (HA2.out _ ?_) ?_); (exact Below.trans Hb10.out (Below.mono (And.left (by assumption)) Hb10.out.size)); rintro e wz ⟨rfl, hz⟩)
                | fail)
            all_goals
              go_wp2_with fail
              go_ret
              exact ⟨rfl, b2.trans (Below.mono (Hb10.out.trans (Below.mono (And.left (by assumption)) Hb10.out.size)) b2.size)⟩

set_option maxRecDepth 100000 in
theorem lifted (os : Os) (started : os.Started) (H : Type) (enc : TypeId × Value → H) (F : Stop.Interp) :
    ReturnsInHanded {} Tryd.checked os 8 .any ((OpenSpec.ofChange Rows.policyMoreSpec).preRow enc Tryd.prog Tryd.f8 Rows.policyMoreRow.domain false Rows.policyMoreRow.laid) (((OpenSpec.ofChange Rows.policyMoreSpec).at F).post enc Tryd.prog Tryd.f8 false true false false) := by
  have hrow : (OpenSpec.ofChange Rows.policyMoreSpec).preRow enc Tryd.prog Tryd.f8 Rows.policyMoreRow.domain false Rows.policyMoreRow.laid ((laidWorld os).forCall (fun _ _ => 0) ⟨#[], #[.agg #[.bool false, .string ByteArray.empty, .int .u64 0, .string ByteArray.empty], .slice none 0 0, .slice none 0 0], []⟩).memory #[.agg #[.bool false, .string ByteArray.empty, .int .u64 0, .string ByteArray.empty], .slice none 0 0, .slice none 0 0] := by
    have hw : (DataW.whole enc Tryd.prog ((laidWorld os).forCall (fun _ _ => 0) ⟨#[], #[.agg #[.bool false, .string ByteArray.empty, .int .u64 0, .string ByteArray.empty], .slice none 0 0, .slice none 0 0], []⟩).memory Tryd.f8.params.toList Rows.policyMoreSpec.vars false (#[.agg #[.bool false, .string ByteArray.empty, .int .u64 0, .string ByteArray.empty], .slice none 0 0, .slice none 0 0] : Array Value).toList 8).map (fun x => (x.1, x.2.1)) = some ([.agg [.lit (.bool false), .lit (.string []), .lit (.int .u64 0), .lit (.string [])], .nil, .nil], []) := by kernel_rfl
    obtain ⟨⟨x1, x2, x3⟩, hx, hx1⟩ := Option.map_eq_some_iff.1 hw
    simp only [Prod.mk.injEq] at hx1
    obtain ⟨rfl, rfl⟩ := hx1
    exact OpenSpec.preRow_of_cond 8 hx (by kernel_rfl) (fun k hk => by cases hk) (by kernel_rfl) (laid_met os _)
  refine returnsInHanded_of_row (C := Tryd.checked) (s := OpenSpec.ofChange Rows.policyMoreSpec) own started (by kernel_rfl) Tryd.func8
    (witness_row_atRef (enc := enc) (C := Tryd.checked) false (laidWorld os) #[.agg #[.bool false, .string ByteArray.empty, .int .u64 0, .string ByteArray.empty], .slice none 0 0, .slice none 0 0] rfl (by kernel_rfl) (by kernel_rfl) (by kernel_rfl) hrow) ?_
  intro W base args ds gs before hval0 hW _ _ _ hL _ _
  have hval : ∀ (j : Nat) t v, Tryd.f8.params[j]? = some t → args[j]? = some v → Value.okWide Tryd.prog W .any base t v := hval0
  have hW' := hW
  obtain ⟨p, q, hA0, hV, rfl, hfz, hnd⟩ := hW
  have hA : DataW.TrodAll enc Tryd.prog W 0 (fun _ => true) true Tryd.f8.params.toList args.toList ds p := hA0
  rw [Tryd.params8] at hA hval
  obtain ⟨v0, vs0, d0, ds0, p0, q0, hargs, rfl, rfl, h0, r0⟩ := trodAll_cons hA
  obtain ⟨v1, vs1, d1, ds1, p1, q1, rfl, rfl, rfl, h1, r1⟩ := trodAll_cons r0
  obtain ⟨v2, vs2, d2, ds2, p2, q2, rfl, rfl, rfl, h2, r2⟩ := trodAll_cons r1
  obtain ⟨rfl, rfl, rfl⟩ := trodAll_nil r2
  obtain rfl : args = #[v0, v1, v2] := by cases args; simp_all
  obtain ⟨rfl, rfl⟩ := trodVars_none hV
  have lt0 : ∀ x ∈ p0, x.block < W.heap.size := by have k := h0; obtain ⟨m, hm⟩ := k; exact DataW.trod_lt m _ _ _ hm
  have k0 := h0
  have w0 : RuleV W v0 := open_ruleV (hval 0 39 v0 rfl rfl) h0
  have lt1 : ∀ x ∈ p1, x.block < W.heap.size := by have k := h1; obtain ⟨m, hm⟩ := k; exact DataW.trod_lt m _ _ _ hm
  have k1 := h1
  have w1 : SpansV W v1 := open_spansV (hval 1 30 v1 rfl rfl) h1
  have lt2 : ∀ x ∈ p2, x.block < W.heap.size := by have k := h2; obtain ⟨m, hm⟩ := k; exact DataW.trod_lt m _ _ _ hm
  have k2 := h2
  have w2 : SpansV W v2 := open_spansV (hval 2 30 v2 rfl rfl) h2
  clear hA0 hval0
  refine (walk W v0 w0 v1 w1 v2 w2 (pows_laid hL) (u8_laid hL)).mono fun e W' ⟨he, bel⟩ => ?_
  subst he
  exact ⟨_, rfl, _, _, _, [], _, [], hW', trodAll_mk1 (shut_bool Tryd.underlying4 _), (trodAll_cons_mk (Below.trod laidOut (by kernel_rfl) (of_decide_eq_true (by kernel_rfl)) k0 bel lt0) (trodAll_cons_mk (Below.trod laidOut (by kernel_rfl) (of_decide_eq_true (by kernel_rfl)) k1 bel lt1) (trodAll_cons_mk (Below.trod laidOut (by kernel_rfl) (of_decide_eq_true (by kernel_rfl)) k2 bel lt2) trodAll_mk0))), rfl, bel.frame _, fun h => by cases h⟩

theorem said : Rows.PolicyMoreSaid :=
  OpenClaim.holds_of_cond 8 Tryd.f8 rfl rfl rfl rfl rfl rfl rfl ⟨rfl, rfl, rfl, rfl, rfl⟩ rfl rfl rfl rfl rfl (by kernel_rfl) Tryd.func8 (by kernel_rfl)
    (of_decide_eq_true (by kernel_rfl)) (by unfold Func.isWrapper; first | (rw [if_pos (by decide +kernel)]; kernel_rfl) | (rw [if_neg (by decide +kernel)]; exact ⟨rfl, rfl⟩))
    (fun os started H enc _ F => by rw [OpenClaim.pre_eq_preRow]; exact lifted os started H enc F)

theorem plain (f : FuncId) (fn : Func) (hf : Tryd.pinned.checked.prog.funcNamed "winnow/winnowlaw04.PolicyMore" = some f) (hfn : Tryd.pinned.checked.prog.funcs[f]? = some fn) :
    true = Tryd.pinned.checked.prog.looks [] ∧ ∀ (j : Nat) t, fn.params[j]? = some t → Tryd.pinned.checked.prog.wantsStandIn t = false := by
  obtain rfl : f = 8 := Option.some.inj ((show Tryd.prog.funcNamed "winnow/winnowlaw04.PolicyMore" = some 8 by kernel_rfl).symm.trans hf) |>.symm
  obtain rfl : fn = Tryd.f8 := (Option.some.inj (Tryd.func8.symm.trans hfn)).symm
  refine ⟨by kernel_rfl, fun j t ht => ?_⟩
  rw [Tryd.params8] at ht
  have hm : t ∈ [39, 30, 30] := by simpa using Array.mem_of_getElem? ht
  have hall : ([39, 30, 30].all fun u => !Tryd.prog.wantsStandIn u) = true := by kernel_rfl
  exact (show Tryd.prog.wantsStandIn t = false by simpa using List.all_eq_true.1 hall t hm)

theorem proved : Rows.PolicyMoreCardSaid :=
  Claim7.holds_tied_plain_at .later [] _ _ _ _ said (fun _ h => by cases h) (by kernel_rfl) (fun _ h => by cases h) policyMore_row_tie rfl ⟨rfl, rfl⟩ (by kernel_rfl) rfl plain (by kernel_rfl)
#print axioms proved
end Go.Proofs.YtedglieadejejaaDoor.policyMore
