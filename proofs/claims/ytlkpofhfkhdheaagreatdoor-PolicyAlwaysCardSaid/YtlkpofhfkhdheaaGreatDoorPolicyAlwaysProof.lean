/-
  Behind a rule that always holds nothing counts, and what was shown is parsed as it was; the chapter's example comes.
  The frame: the row lists tables; the witness's world is the door's own (XLaid).
-/
import Derived.Test.YtlkpofhfkhdheaaGreatDoorLaid
import Derived.Test.YtlkpofhfkhdheaaGreatDoorAlways
import Derived.Test.YtlkpofhfkhdheaaGreatDoorPolAlive
import Derived.Test.YtlkpofhfkhdheaaGreatDoorMatch
namespace Go.Proofs.YtlkpofhfkhdheaaGreatDoor.policyAlways
open Go.ChangeShapes Go.WideShapes Go.ChangeAt Go.RowKit
open Go.ChangeMaps (open_string shut_string)
set_option linter.unusedVariables false

theorem own : ownKnob Tryz.prog.godebug = none := by kernel_rfl
theorem laidOut : laidOutB Tryz.prog = true := by kernel_rfl
open Ru

set_option maxRecDepth 20000 in
set_option maxHeartbeats 16000000 in
theorem walk (w : World) (v0 : Value) (w0 : RulesV w v0) (v1 : Value) (w1 : RulesV w v1) (a2 : Bool) (v3 : Value) (w3 : SpansV w v3) (htab : PowsB w) (hu : Lib.Utf8Tabs 2 3 w) :
    Calls Tryz.prog 4 #[v0, v1, .bool a2, v3] w fun e w' => e = .returned (.bool true) ∧ Below w.heap.size w w' := by
  obtain ⟨A, n, c, rs, rfl, hr, hrw⟩ := w0
  obtain ⟨B, m, d, ms, rfl, hm, hmw⟩ := w1
  obtain ⟨C, q, f, ss, rfl, hs, hsw⟩ := w3
  obtain rfl := hr.len
  obtain rfl := hm.len
  have HA := hid_ (show ∀ W : World, Below w.heap.size w W → Calls Tryz.prog 6 #[] W (fun e w' => e = .returned (.bool (true)) ∧ Below w.heap.size w w') from fun W hb  => (alive_any W (htab.later hb)).mono fun e w' h => ⟨h.1, hb.trans (h.2.mono hb.size)⟩)
  have HL := hid_ (light_any A rs.length c rs C q f ss w hr hs hrw hsw)
  have HM := hid_ (show ∀ W : World, Below w.heap.size w W → Calls Tryz.prog 5 #[.slice B ms.length d, .slice none 0 0] W (fun e w' => e = .returned (.bool (lightF ms [])) ∧ Below w.heap.size w w') from fun W hb => (light_any B ms.length d ms none 0 0 [] W (hm.below hb) ⟨fun h => absurd rfl h, rfl, Nat.le_refl _, by omega, fun _ => rfl⟩ hmw (by simp)).mono fun e w' h => ⟨h.1, hb.trans (h.2.mono hb.size)⟩)
  have HR := hid_ (show ∀ W : World, Below w.heap.size w W → Calls Tryz.prog 12 #[.slice C q f] W (fun e w' => e = .returned (.bool (rightAll ss)) ∧ Below w.heap.size w w') from fun W hb  => (rightall_any C q f ss W (hs.below hb) hsw).mono fun e w' h => ⟨h.1, hb.trans (h.2.mono hb.size)⟩)
  have hls := hs.len
  have hcs := hs.cap
  have hms := hs.max
  cases l1 : lightF rs ss with
  | false =>
    rw [l1] at HL
    go_enter Tryz.func4, Tryz.ntmps4
    go_wp2_with fail
    refine Calls.mono (HL.out) ?_
    rintro e w3 ⟨rfl, b3⟩
    go_wp2_with fail
    refine Calls.mono (HA.out _ b3) ?_
    rintro e wz ⟨rfl, hz⟩
    go_wp2_with fail
    go_ret
    exact ⟨rfl, hz⟩
  | true =>
    rw [l1] at HL
    cases l2 : lightF ms [] with
    | false =>
      rw [l2] at HM
      go_enter Tryz.func4, Tryz.ntmps4
      go_wp2_with fail
      refine Calls.mono (HL.out) ?_
      rintro e w3 ⟨rfl, b3⟩
      go_wp2_with fail
      refine Calls.mono (HM.out _ b3) ?_
      rintro e w4 ⟨rfl, b4⟩
      go_wp2_with fail
      refine Calls.mono (HA.out _ b4) ?_
      rintro e wz ⟨rfl, hz⟩
      go_wp2_with fail
      go_ret
      exact ⟨rfl, hz⟩
    | true =>
      rw [l2] at HM
      cases l3 : rightAll ss with
      | false =>
        rw [l3] at HR
        go_enter Tryz.func4, Tryz.ntmps4
        go_wp2_with fail
        refine Calls.mono (HL.out) ?_
        rintro e w3 ⟨rfl, b3⟩
        go_wp2_with fail
        refine Calls.mono (HM.out _ b3) ?_
        rintro e w4 ⟨rfl, b4⟩
        go_wp2_with fail
        refine Calls.mono (HR.out _ b4) ?_
        rintro e w5 ⟨rfl, b5⟩
        go_wp2_with fail
        refine Calls.mono (HA.out _ b5) ?_
        rintro e wz ⟨rfl, hz⟩
        go_wp2_with fail
        go_ret
        exact ⟨rfl, hz⟩
      | true =>
        rw [l3] at HR
        by_cases h0 : q = 0
        · subst h0
          clear hls hcs hms 
          go_enter Tryz.func4, Tryz.ntmps4
          go_wp2_with fail
          refine Calls.mono (HL.out) ?_
          rintro e w3 ⟨rfl, b3⟩
          go_wp2_with fail
          refine Calls.mono (HM.out _ b3) ?_
          rintro e w4 ⟨rfl, b4⟩
          go_wp2_with fail
          refine Calls.mono (HR.out _ b4) ?_
          rintro e w5 ⟨rfl, b5⟩
          go_wp2_with fail
          refine Calls.mono (HA.out _ b5) ?_
          rintro e wz ⟨rfl, hz⟩
          go_wp2_with fail
          go_ret
          exact ⟨rfl, hz⟩
        have e0 : ((q : Int) == 0) = false := by rw [beq_eq_false_iff_ne]; omega
        have hne : ss ≠ [] := by rintro rfl; simp at hls; omega
        obtain ⟨z1, z2, z3, z4⟩ := light_all l1
        obtain ⟨y1, -, y3, -⟩ := light_all l2
        have hn1 : rs.length ≤ 100 := z1
        have hm1 : ms.length ≤ 100 := y1
        have hnc := hr.cap
        have hnx := hr.max
        have hmc := hm.cap
        have hmx := hm.max
        have Hs := hid_ hs
        have Hr := hid_ hr
        have Hm := hid_ hm
        have Hok := hid_ (show ∀ s ∈ ss, s.Ok from fun s h => ⟨hsw s h, by have := (z4 s h).1; omega⟩)
        have Hrw := hid_ hrw
        have Hsm := hid_ z3
        have Htx := hid_ (show ∀ r ∈ rs, r.text.size ≤ 200 from fun r h => (z3 r h).1)
        have Hw1 := hid_ (show ∀ r ∈ rs ++ [alwR a2], r.Wf from fun r h => (List.mem_append.1 h).elim (hrw r) fun h => by rw [List.mem_singleton.1 h]; exact alw_wf a2)
        have Ht1 := hid_ (show ∀ r ∈ rs ++ [alwR a2], r.text.size ≤ 200 from fun r h => (List.mem_append.1 h).elim (fun h => (z3 r h).1) fun h => by rw [List.mem_singleton.1 h]; exact Nat.zero_le _)
        have Hw2 := hid_ (show ∀ r ∈ rs ++ [alwR a2] ++ ms, r.Wf from fun r h => (List.mem_append.1 h).elim (Hw1.out r) (hmw r))
        have Ht2 := hid_ (show ∀ r ∈ rs ++ [alwR a2] ++ ms, r.text.size ≤ 200 from fun r h => (List.mem_append.1 h).elim (Ht1.out r) fun h => (y3 r h).1)
        have HE := hid_ (fun (W : World) (hb : Below w.heap.size w W) A' n' c' (l : List RuleD) (ho : RuleRow W A' n' c' l) (hw : ∀ r ∈ l, r.Wf) (ht : ∀ r ∈ l, r.text.size ≤ 200) => eval_any A' n' c' l C q f ss W ho hw (Hs.out.below hb) (by omega) Hok.out (fun r h => show MatchOk r W from fun _ W' s hb' hs' => ownmatch_any r.text s.name W' (by have := ht r h; omega) (by have := hs'.small; omega) (tabs_later hu (hb.trans (hb'.mono hb.size)))))
        have HO := hid_ (fun (W : World) A' n' c' (l : List RuleD) (ho : RuleRow W A' n' c' l) (hw : ∀ r ∈ l, r.Wf) (hn : n' ≤ 1000) => own_any A' n' c' l W ho hw (Nat.le_trans hn (by omega)))
        have HS := hid_ (fun (W : World) (hb : Below w.heap.size w W) A' c' (ho : RuleRow W A' rs.length c' rs) => polshow_any A' rs.length c' rs W ho hrw z3 (htab.later hb))
        have HP := hid_ (fun (W : World) (hb : Below w.heap.size w W) h1 h2 h3 h4 => parse_any rs h1 h2 h3 h4 W (htab.later hb))
        have Hthree := hid_ (eval_always rs a2 hne)
        obtain ⟨xv, Hx⟩ : ∃ xv, Hid (evalF (rs ++ [alwR a2]) ss = xv) := ⟨_, hid_ rfl⟩
        obtain ⟨zv, Hz⟩ : ∃ zv, Hid (evalF rs ss = zv) := ⟨_, hid_ rfl⟩
        have Hy := hid_ (show evalF (rs ++ [alwR a2] ++ ms) ss = xv by rw [eval_behind rs ms a2 hne]; exact Hx.out)
        rw [Hx.out, Hz.out] at Hthree
        clear hr hm hs hrw hmw hsw htab hu z3 z4 y3 l1 l2 l3 z1 z2 y1 hne hls  h0
        go_enter Tryz.func4, Tryz.ntmps4
        go_wp2_with fail
        refine Calls.mono (HL.out) ?_
        rintro e w3 ⟨rfl, b3⟩
        go_wp2_with fail
        refine Calls.mono (HM.out _ b3) ?_
        rintro e w4 ⟨rfl, b4⟩
        go_wp2_with fail
        refine Calls.mono (HR.out _ b4) ?_
        rintro e w5 ⟨rfl, b5⟩
        have hrow : RuleRow w5 A rs.length c rs := Hr.out.below b5
        go_wp2_with (first
          | (at_builtin; refine wpList_rrules rfl (.tmp 37) (.tmp 38) rfl w5.heap.size _ 0 _ [] rfl (ownRu_empty _ w5 _ (Nat.le_refl _)) A rs.length c rs rfl (hrow.below ((Below.refl _ _).alloc (Nat.le_refl _) _)) rs.length rs (by omega) rfl (by omega) (by simp) ?_; intro A1 c1 w6 ho1 hb1; have Ho1 := hid_ ho1; have Hb1 := hid_ (((Below.refl _ _).alloc (Nat.le_refl _) _).trans hb1); clear ho1 hb1)
          | (at_builtin; refine wpList_rrules rfl (.tmp 39) (.tmp 42) rfl w5.heap.size A1 rs.length c1 rs rfl (Ho1.out.later ((Below.refl _ _).alloc (Nat.le_refl _) _)) _ 1 1 [alwR a2] rfl (rule_one w6 (alwR a2) _) (rs.length + 1) (rs ++ [alwR a2]) (by omega) rfl (by omega) (by have := Hb1.out.size; simp; omega) ?_; intro A2 c2 w7 ho2 hb2; have Ho2 := hid_ ho2; have Hb2 := hid_ ((Hb1.out.alloc Hb1.out.size _).trans hb2); clear ho2 hb2)
          | fail)
        have B7 := hid_ (b5.trans (Hb2.out.mono b5.size))
        clear hrow b5 b4 b3
        refine Calls.mono (HO.out w7 A2 (rs.length + 1) c2 _ Ho2.out.row Hw1.out (by omega)) ?_
        rintro e w8 ⟨A3, c3, rfl, ho3, b8'⟩
        have Ho3 := hid_ ho3.row
        have B8 := hid_ (B7.out.trans (b8'.mono B7.out.size))
        have B78 := hid_ b8'
        clear ho3 b8'
        generalize (rs ++ [alwR a2]).length = n3 at *
        go_wp2_with fail
        refine Calls.mono (HE.out w8 B8.out A3 n3 c3 _ Ho3.out Hw1.out Ht1.out) ?_
        rintro e w9 ⟨rfl, b9'⟩
        rw [Hx.out]
        have B9 := hid_ (B8.out.trans (b9'.mono B8.out.size))
        have hrow2 : RuleRow w9 A2 (rs.length + 1) c2 (rs ++ [alwR a2]) := Ho2.out.row.below (B78.out.trans (b9'.mono B78.out.size))
        have hrow3 : RuleRow w9 B ms.length d ms := Hm.out.below B9.out
        clear Ho3 b9'
        go_wp2_with (first
          | (at_builtin; refine wpList_rrules rfl (.tmp 48) (.tmp 49) rfl w9.heap.size _ 0 _ [] rfl (ownRu_empty _ w9 _ (Nat.le_refl _)) A2 (rs.length + 1) c2 (rs ++ [alwR a2]) rfl (hrow2.below ((Below.refl _ _).alloc (Nat.le_refl _) _)) (rs.length + 1) (rs ++ [alwR a2]) (by omega) rfl (by omega) (by simp) ?_; intro A4 c4 w10 ho4 hb4; have Ho4 := hid_ ho4; have Hb4 := hid_ (((Below.refl _ _).alloc (Nat.le_refl _) _).trans hb4); clear ho4 hb4)
          | (at_builtin; refine wpList_rrules rfl (.tmp 50) (.tmp 51) rfl w9.heap.size A4 (rs.length + 1) c4 (rs ++ [alwR a2]) rfl Ho4.out B ms.length d ms rfl (hrow3.below Hb4.out) (rs.length + 1 + ms.length) (rs ++ [alwR a2] ++ ms) (by omega) rfl (by omega) Hb4.out.size ?_; intro A5 c5 w11 ho5 hb5; have Ho5 := hid_ ho5; have Hb5 := hid_ (Hb4.out.trans hb5); clear ho5 hb5)
          | fail)
        have B11 := hid_ (B9.out.trans (Hb5.out.mono B9.out.size))
        clear hrow2 hrow3
        refine Calls.mono (HO.out w11 A5 (rs.length + 1 + ms.length) c5 _ Ho5.out.row Hw2.out (by omega)) ?_
        rintro e w12 ⟨A6, c6, rfl, ho6, b12'⟩
        have Ho6 := hid_ ho6.row
        have B12 := hid_ (B11.out.trans (b12'.mono B11.out.size))
        clear ho6 b12'
        generalize (rs ++ [alwR a2] ++ ms).length = n6 at *
        go_wp2_with fail
        refine Calls.mono (HE.out w12 B12.out A6 n6 c6 _ Ho6.out Hw2.out Ht2.out) ?_
        rintro e w13 ⟨rfl, b13'⟩
        rw [Hy.out]
        have B13 := hid_ (B12.out.trans (b13'.mono B12.out.size))
        clear Ho6 b13' B12 B11 B9 B8 B7 B78 Ho2 Ho4 Ho5 Ho1 Hb1 Hb2 Hb4 Hb5
        go_wp2_with fail
        refine Calls.mono (HO.out w13 A rs.length c rs (Hr.out.below B13.out) Hrw.out (by omega)) ?_
        rintro e w14 ⟨A7, c7, rfl, ho7, b14'⟩
        have Ho7 := hid_ ho7.row
        have B14 := hid_ (B13.out.trans (b14'.mono B13.out.size))
        clear ho7 b14' B13
        go_wp2_with fail
        refine Calls.mono (HE.out w14 B14.out A7 rs.length c7 rs Ho7.out Hrw.out Htx.out) ?_
        rintro e w15 ⟨rfl, b15'⟩
        rw [Hz.out]
        have B15 := hid_ (B14.out.trans (b15'.mono B14.out.size))
        clear Ho7 b15' B14
        rcases Hthree.out with ⟨hx, hz⟩ | ⟨hx, hz⟩ | ⟨hx, hz, hkp⟩
        all_goals
          subst hx hz
        rotate_left 2
        · subst hkp
          go_wp2_with fail
          refine Calls.mono (HO.out _ A rs.length c rs (Hr.out.below B15.out) Hrw.out (by omega)) ?_
          rintro e w16 ⟨A8, c8, rfl, ho8, b16'⟩
          have Ho8 := hid_ ho8.row
          have B16 := hid_ (B15.out.trans (b16'.mono B15.out.size))
          clear ho8 b16'
          go_wp2_with fail
          refine Calls.mono (HS.out w16 B16.out A8 c8 Ho8.out) ?_
          rintro e w17 ⟨rfl, b17'⟩
          have B17 := hid_ (B16.out.trans (b17'.mono B16.out.size))
          clear b17' B16 Ho8
          by_cases hk : showK rs = 0
          · have Hg := hid_ (show_zero hk)
            rw [hk, Hg.out.1]
            clear hk
            by_cases hnil : rs = []
            · have e1 := hid_ (show textS rs = ⟨#[]⟩ by rw [hnil]; rfl)
              have hl0 := hid_ (show rs.length = 0 by rw [hnil]; rfl)
              have Hsame := hid_ (fun (W : World) (hb : Below w.heap.size w W) => same_any none 0 0 A rs.length c rs W (by rw [hnil]; exact RuleRow.none W) (Hr.out.below hb))
              rw [e1.out]
              clear hnil
              go_wp2_with fail
              refine Calls.mono (parse_none w17) ?_
              rintro e w18 ⟨rfl, b18'⟩
              have B18 := hid_ (B17.out.trans (b18'.mono B17.out.size))
              clear b18'
              go_wp2_with fail
              refine Calls.mono (Hsame.out _ B18.out) ?_
              rintro e w19 ⟨rfl, b19'⟩
              have B19 := hid_ (B18.out.trans (b19'.mono B18.out.size))
              clear b19'
              go_wp2_with fail
              refine Calls.mono (HA.out _ B19.out) ?_
              rintro e wz ⟨rfl, hz⟩
              go_wp2_with fail
              go_ret
              exact ⟨rfl, hz⟩
            · have Hpk := hid_ (HP.out w17 B17.out hnil (fun r h => ⟨Hrw.out r h, List.all_eq_true.1 Hg.out.2.2.2 r h, line_noten (List.all_eq_true.1 Hg.out.2.2.2 r h)⟩) Hg.out.2.2.1 Hg.out.2.1)
              clear hnil
              generalize textS rs = tx at *
              go_wp2_with fail
              refine Calls.mono Hpk.out ?_
              rintro e w18 ⟨A9, c9, rfl, ho9, b18'⟩
              have Ho9 := hid_ ho9.row
              have B18 := hid_ (B17.out.trans (b18'.mono B17.out.size))
              clear ho9 b18'
              go_wp2_with fail
              refine Calls.mono (same_any A9 rs.length c9 A rs.length c rs w18 Ho9.out (Hr.out.below B18.out)) ?_
              rintro e w19 ⟨rfl, b19'⟩
              have B19 := hid_ (B18.out.trans (b19'.mono B18.out.size))
              clear b19'
              go_wp2_with fail
              refine Calls.mono (HA.out _ B19.out) ?_
              rintro e wz ⟨rfl, hz⟩
              go_wp2_with fail
              go_ret
              exact ⟨rfl, hz⟩
          · have Hg := hid_ (show_not hk)
            have hkb : (showK rs != 0) = true := by rw [bne_iff_ne]; exact hk
            rw [Hg.out]
            clear hk
            generalize showK rs = kk at *
            go_wp2_with fail
            refine Calls.mono (HA.out _ B17.out) ?_
            rintro e wz ⟨rfl, hz⟩
            go_wp2_with fail
            go_ret
            exact ⟨rfl, hz⟩
        all_goals
          cases a2
          all_goals
            go_wp2_with fail
            refine Calls.mono (HO.out _ A rs.length c rs (Hr.out.below B15.out) Hrw.out (by omega)) ?_
            rintro e w16 ⟨A8, c8, rfl, ho8, b16'⟩
            have Ho8 := hid_ ho8.row
            have B16 := hid_ (B15.out.trans (b16'.mono B15.out.size))
            clear ho8 b16'
            go_wp2_with fail
            refine Calls.mono (HS.out w16 B16.out A8 c8 Ho8.out) ?_
            rintro e w17 ⟨rfl, b17'⟩
            have B17 := hid_ (B16.out.trans (b17'.mono B16.out.size))
            clear b17' B16 Ho8
            by_cases hk : showK rs = 0
            · have Hg := hid_ (show_zero hk)
              rw [hk, Hg.out.1]
              clear hk
              by_cases hnil : rs = []
              · have e1 := hid_ (show textS rs = ⟨#[]⟩ by rw [hnil]; rfl)
                have hl0 := hid_ (show rs.length = 0 by rw [hnil]; rfl)
                have Hsame := hid_ (fun (W : World) (hb : Below w.heap.size w W) => same_any none 0 0 A rs.length c rs W (by rw [hnil]; exact RuleRow.none W) (Hr.out.below hb))
                rw [e1.out]
                clear hnil
                go_wp2_with fail
                refine Calls.mono (parse_none w17) ?_
                rintro e w18 ⟨rfl, b18'⟩
                have B18 := hid_ (B17.out.trans (b18'.mono B17.out.size))
                clear b18'
                go_wp2_with fail
                refine Calls.mono (Hsame.out _ B18.out) ?_
                rintro e w19 ⟨rfl, b19'⟩
                have B19 := hid_ (B18.out.trans (b19'.mono B18.out.size))
                clear b19'
                go_wp2_with fail
                refine Calls.mono (HA.out _ B19.out) ?_
                rintro e wz ⟨rfl, hz⟩
                go_wp2_with fail
                go_ret
                exact ⟨rfl, hz⟩
              · have Hpk := hid_ (HP.out w17 B17.out hnil (fun r h => ⟨Hrw.out r h, List.all_eq_true.1 Hg.out.2.2.2 r h, line_noten (List.all_eq_true.1 Hg.out.2.2.2 r h)⟩) Hg.out.2.2.1 Hg.out.2.1)
                clear hnil
                generalize textS rs = tx at *
                go_wp2_with fail
                refine Calls.mono Hpk.out ?_
                rintro e w18 ⟨A9, c9, rfl, ho9, b18'⟩
                have Ho9 := hid_ ho9.row
                have B18 := hid_ (B17.out.trans (b18'.mono B17.out.size))
                clear ho9 b18'
                go_wp2_with fail
                refine Calls.mono (same_any A9 rs.length c9 A rs.length c rs w18 Ho9.out (Hr.out.below B18.out)) ?_
                rintro e w19 ⟨rfl, b19'⟩
                have B19 := hid_ (B18.out.trans (b19'.mono B18.out.size))
                clear b19'
                go_wp2_with fail
                refine Calls.mono (HA.out _ B19.out) ?_
                rintro e wz ⟨rfl, hz⟩
                go_wp2_with fail
                go_ret
                exact ⟨rfl, hz⟩
            · have Hg := hid_ (show_not hk)
              have hkb : (showK rs != 0) = true := by rw [bne_iff_ne]; exact hk
              rw [Hg.out]
              clear hk
              generalize showK rs = kk at *
              go_wp2_with fail
              refine Calls.mono (HA.out _ B17.out) ?_
              rintro e wz ⟨rfl, hz⟩
              go_wp2_with fail
              go_ret
              exact ⟨rfl, hz⟩

set_option maxRecDepth 100000 in
theorem lifted (os : Os) (started : os.Started) (H : Type) (enc : TypeId × Value → H) (F : Stop.Interp) :
    ReturnsInHanded {} Tryz.checked os 4 .any ((OpenSpec.ofChange Rows.policyAlwaysSpec).preRow enc Tryz.prog Tryz.f4 Rows.policyAlwaysRow.domain false Rows.policyAlwaysRow.laid) (((OpenSpec.ofChange Rows.policyAlwaysSpec).at F).post enc Tryz.prog Tryz.f4 false true false false) := by
  have hrow : (OpenSpec.ofChange Rows.policyAlwaysSpec).preRow enc Tryz.prog Tryz.f4 Rows.policyAlwaysRow.domain false Rows.policyAlwaysRow.laid ((laidWorld os).forCall (fun _ _ => 0) ⟨#[], #[.slice none 0 0, .slice none 0 0, .bool false, .slice none 0 0], []⟩).memory #[.slice none 0 0, .slice none 0 0, .bool false, .slice none 0 0] := by
    have hw : (DataW.whole enc Tryz.prog ((laidWorld os).forCall (fun _ _ => 0) ⟨#[], #[.slice none 0 0, .slice none 0 0, .bool false, .slice none 0 0], []⟩).memory Tryz.f4.params.toList Rows.policyAlwaysSpec.vars false (#[.slice none 0 0, .slice none 0 0, .bool false, .slice none 0 0] : Array Value).toList 8).map (fun x => (x.1, x.2.1)) = some ([.nil, .nil, .lit (.bool false), .nil], []) := by kernel_rfl
    obtain ⟨⟨x1, x2, x3⟩, hx, hx1⟩ := Option.map_eq_some_iff.1 hw
    simp only [Prod.mk.injEq] at hx1
    obtain ⟨rfl, rfl⟩ := hx1
    exact OpenSpec.preRow_of_cond 8 hx (by kernel_rfl) (fun k hk => by cases hk) (by kernel_rfl) (laid_met os _)
  refine returnsInHanded_of_row (C := Tryz.checked) (s := OpenSpec.ofChange Rows.policyAlwaysSpec) own started (by kernel_rfl) Tryz.func4
    (witness_row_atRef (enc := enc) (C := Tryz.checked) false (laidWorld os) #[.slice none 0 0, .slice none 0 0, .bool false, .slice none 0 0] rfl (by kernel_rfl) (by kernel_rfl) (by kernel_rfl) hrow) ?_
  intro W base args ds gs before hval0 hW _ _ _ hL _ _
  have hval : ∀ (j : Nat) t v, Tryz.f4.params[j]? = some t → args[j]? = some v → Value.okWide Tryz.prog W .any base t v := hval0
  have hW' := hW
  obtain ⟨p, q, hA0, hV, rfl, hfz, hnd⟩ := hW
  have hA : DataW.TrodAll enc Tryz.prog W 0 (fun _ => true) true Tryz.f4.params.toList args.toList ds p := hA0
  rw [Tryz.params4] at hA hval
  obtain ⟨v0, vs0, d0, ds0, p0, q0, hargs, rfl, rfl, h0, r0⟩ := trodAll_cons hA
  obtain ⟨v1, vs1, d1, ds1, p1, q1, rfl, rfl, rfl, h1, r1⟩ := trodAll_cons r0
  obtain ⟨v2, vs2, d2, ds2, p2, q2, rfl, rfl, rfl, h2, r2⟩ := trodAll_cons r1
  obtain ⟨v3, vs3, d3, ds3, p3, q3, rfl, rfl, rfl, h3, r3⟩ := trodAll_cons r2
  obtain ⟨rfl, rfl, rfl⟩ := trodAll_nil r3
  obtain rfl : args = #[v0, v1, v2, v3] := by cases args; simp_all
  obtain ⟨rfl, rfl⟩ := trodVars_none hV
  have lt0 : ∀ x ∈ p0, x.block < W.heap.size := by have k := h0; obtain ⟨m, hm⟩ := k; exact DataW.trod_lt m _ _ _ hm
  have k0 := h0
  have w0 : RulesV W v0 := open_rulesV (hval 0 22 v0 rfl rfl) h0
  have lt1 : ∀ x ∈ p1, x.block < W.heap.size := by have k := h1; obtain ⟨m, hm⟩ := k; exact DataW.trod_lt m _ _ _ hm
  have k1 := h1
  have w1 : RulesV W v1 := open_rulesV (hval 1 22 v1 rfl rfl) h1
  have lt2 : ∀ x ∈ p2, x.block < W.heap.size := by have k := h2; obtain ⟨m, hm⟩ := k; exact DataW.trod_lt m _ _ _ hm
  have k2 := h2
  obtain ⟨a2, rfl, rfl, rfl⟩ := open_bool Tryz.underlying4 (hval 2 4 v2 rfl rfl) h2
  have lt3 : ∀ x ∈ p3, x.block < W.heap.size := by have k := h3; obtain ⟨m, hm⟩ := k; exact DataW.trod_lt m _ _ _ hm
  have k3 := h3
  have w3 : SpansV W v3 := open_spansV (hval 3 34 v3 rfl rfl) h3
  clear hA0 hval0
  refine (walk W v0 w0 v1 w1 a2 v3 w3 (pows_laid hL) (u8_laid hL)).mono fun e W' ⟨he, bel⟩ => ?_
  subst he
  exact ⟨_, rfl, _, _, _, [], _, [], hW', trodAll_mk1 (shut_bool Tryz.underlying4 _), (trodAll_cons_mk (Below.trod laidOut (by kernel_rfl) (of_decide_eq_true (by kernel_rfl)) k0 bel lt0) (trodAll_cons_mk (Below.trod laidOut (by kernel_rfl) (of_decide_eq_true (by kernel_rfl)) k1 bel lt1) (trodAll_cons_mk (Below.trod laidOut (by kernel_rfl) (of_decide_eq_true (by kernel_rfl)) k2 bel lt2) (trodAll_cons_mk (Below.trod laidOut (by kernel_rfl) (of_decide_eq_true (by kernel_rfl)) k3 bel lt3) trodAll_mk0)))), rfl, bel.frame _, fun h => by cases h⟩

theorem said : Rows.PolicyAlwaysSaid :=
  OpenClaim.holds_of_cond 4 Tryz.f4 rfl rfl rfl rfl rfl rfl rfl ⟨rfl, rfl, rfl, rfl, rfl⟩ rfl rfl rfl rfl rfl (by kernel_rfl) Tryz.func4 (by kernel_rfl)
    (of_decide_eq_true (by kernel_rfl)) (by unfold Func.isWrapper; first | (rw [if_pos (by decide +kernel)]; kernel_rfl) | (rw [if_neg (by decide +kernel)]; exact ⟨rfl, rfl⟩))
    (fun os started H enc _ F => by rw [OpenClaim.pre_eq_preRow]; exact lifted os started H enc F)

theorem plain (f : FuncId) (fn : Func) (hf : Tryz.pinned.checked.prog.funcNamed "winnow/winnowlaw04.PolicyAlways" = some f) (hfn : Tryz.pinned.checked.prog.funcs[f]? = some fn) :
    true = Tryz.pinned.checked.prog.looks [] ∧ ∀ (j : Nat) t, fn.params[j]? = some t → Tryz.pinned.checked.prog.wantsStandIn t = false := by
  obtain rfl : f = 4 := Option.some.inj ((show Tryz.prog.funcNamed "winnow/winnowlaw04.PolicyAlways" = some 4 by kernel_rfl).symm.trans hf) |>.symm
  obtain rfl : fn = Tryz.f4 := (Option.some.inj (Tryz.func4.symm.trans hfn)).symm
  refine ⟨by kernel_rfl, fun j t ht => ?_⟩
  rw [Tryz.params4] at ht
  have hm : t ∈ [22, 22, 4, 34] := by simpa using Array.mem_of_getElem? ht
  have hall : ([22, 22, 4, 34].all fun u => !Tryz.prog.wantsStandIn u) = true := by kernel_rfl
  exact (show Tryz.prog.wantsStandIn t = false by simpa using List.all_eq_true.1 hall t hm)

theorem proved : Rows.PolicyAlwaysCardSaid :=
  Claim7.holds_tied_plain_at .later [] _ _ _ _ said (fun _ h => by cases h) (by kernel_rfl) (fun _ h => by cases h) policyAlways_row_tie rfl ⟨rfl, rfl⟩ (by kernel_rfl) rfl plain (by kernel_rfl)
#print axioms proved
end Go.Proofs.YtlkpofhfkhdheaaGreatDoor.policyAlways
