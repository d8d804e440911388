/-
  The order of spans, and a span that comes twice, change nothing of what a policy says, but where a rule counts; the chapter's example comes.
  The frame: the row lists tables; the witness's world is the door's own (XLaid).
-/
import Derived.Test.YtlkpofhfkhdheaaDoorLaid
import Derived.Test.YtlkpofhfkhdheaaDoorOrder
import Derived.Test.YtlkpofhfkhdheaaDoorPolAlive
import Derived.Test.YtlkpofhfkhdheaaDoorMatch
namespace Go.Proofs.YtlkpofhfkhdheaaDoor.policyOrder
open Go.ChangeShapes Go.WideShapes Go.ChangeAt Go.RowKit
open Go.ChangeMaps (open_string shut_string)
set_option linter.unusedVariables false

theorem own : ownKnob Tryd.prog.godebug = none := by kernel_rfl
theorem laidOut : laidOutB Tryd.prog = true := by kernel_rfl
open Ru

set_option maxRecDepth 20000 in
set_option maxHeartbeats 8000000 in
theorem walk (w : World) (v0 : Value) (w0 : RulesV w v0) (v1 : Value) (w1 : SpansV w v1) (a2 : Int) (w2 : (Lit.int .i64 a2).wf = true) (a3 : Int) (w3 : (Lit.int .i64 a3).wf = true) (htab : PowsB w) (hu : Lib.Utf8Tabs 1 2 w) :
    Calls Tryd.prog 4 #[v0, v1, .int .i64 a2, .int .i64 a3] w fun e w' => e = .returned (.bool true) ∧ Below w.heap.size w w' := by
  obtain ⟨A, n, c, rs, rfl, hr, hrw⟩ := w0
  obtain ⟨B, m, d, ss, rfl, hs, hsw⟩ := w1
  have HA := hid_ (show ∀ W : World, Below w.heap.size w W → Calls Tryd.prog 7 #[] W (fun e w' => e = .returned (.bool (true)) ∧ Below w.heap.size w w') from fun W hb  => (alive_any W (htab.later hb)).mono fun e w' h => ⟨h.1, hb.trans (h.2.mono hb.size)⟩)
  have HL := hid_ (light_any A n c rs B m d ss w hr hs hrw hsw)
  have HR := hid_ (show ∀ W : World, Below w.heap.size w W → Calls Tryd.prog 6 #[.slice B m d] W (fun e w' => e = .returned (.bool (rightAll ss)) ∧ Below w.heap.size w w') from fun W hb  => (rightall_any B m d ss W (hs.below hb) hsw).mono fun e w' h => ⟨h.1, hb.trans (h.2.mono hb.size)⟩)
  obtain rfl := hr.len
  obtain rfl := hs.len
  cases l1 : lightF rs ss with
  | false =>
    rw [l1] at HL
    go_enter Tryd.func4, Tryd.ntmps4
    go_wp2_with fail
    refine Calls.mono (HL.out) ?_
    rintro e w3 ⟨rfl, b3⟩
    go_wp2_with fail
    refine Calls.mono (HA.out _ b3) ?_
    rintro e wz ⟨rfl, hz⟩
    go_wp2_with fail
    go_ret
    exact ⟨rfl, hz⟩
  | true =>
    rw [l1] at HL
    cases l3 : rightAll ss with
    | false =>
      rw [l3] at HR
      go_enter Tryd.func4, Tryd.ntmps4
      go_wp2_with fail
      refine Calls.mono (HL.out) ?_
      rintro e w3 ⟨rfl, b3⟩
      go_wp2_with fail
      refine Calls.mono (HR.out _ b3) ?_
      rintro e w5 ⟨rfl, b5⟩
      go_wp2_with fail
      refine Calls.mono (HA.out _ b5) ?_
      rintro e wz ⟨rfl, hz⟩
      go_wp2_with fail
      go_ret
      exact ⟨rfl, hz⟩
    | true =>
      rw [l3] at HR
      have hbad : ∀ (q1 q2 q3 q4 : Bool), True := fun _ _ _ _ => trivial
      clear hbad
      by_cases g1 : a2 < 0
      · have e1 : decide (a2 < 0) = true := decide_eq_true g1
        go_enter Tryd.func4, Tryd.ntmps4
        go_wp2_with fail
        refine Calls.mono (HL.out) ?_
        rintro e w3 ⟨rfl, b3⟩
        go_wp2_with fail
        refine Calls.mono (HR.out _ b3) ?_
        rintro e w5 ⟨rfl, b5⟩
        go_wp2_with fail
        refine Calls.mono (HA.out _ b5) ?_
        rintro e wz ⟨rfl, hz⟩
        go_wp2_with fail
        go_ret
        exact ⟨rfl, hz⟩
      have e1 : decide (a2 < 0) = false := decide_eq_false g1
      by_cases g2 : a3 < 0
      · have e2 : decide (a3 < 0) = true := decide_eq_true g2
        go_enter Tryd.func4, Tryd.ntmps4
        go_wp2_with fail
        refine Calls.mono (HL.out) ?_
        rintro e w3 ⟨rfl, b3⟩
        go_wp2_with fail
        refine Calls.mono (HR.out _ b3) ?_
        rintro e w5 ⟨rfl, b5⟩
        go_wp2_with fail
        refine Calls.mono (HA.out _ b5) ?_
        rintro e wz ⟨rfl, hz⟩
        go_wp2_with fail
        go_ret
        exact ⟨rfl, hz⟩
      have e2 : decide (a3 < 0) = false := decide_eq_false g2
      by_cases g3 : (ss.length : Int) ≤ a2
      · have e3 : decide ((ss.length : Int) ≤ a2) = true := decide_eq_true g3
        go_enter Tryd.func4, Tryd.ntmps4
        go_wp2_with fail
        refine Calls.mono (HL.out) ?_
        rintro e w3 ⟨rfl, b3⟩
        go_wp2_with fail
        refine Calls.mono (HR.out _ b3) ?_
        rintro e w5 ⟨rfl, b5⟩
        go_wp2_with fail
        refine Calls.mono (HA.out _ b5) ?_
        rintro e wz ⟨rfl, hz⟩
        go_wp2_with fail
        go_ret
        exact ⟨rfl, hz⟩
      have e3 : decide ((ss.length : Int) ≤ a2) = false := decide_eq_false g3
      by_cases g4 : (ss.length : Int) ≤ a3
      · have e4 : decide ((ss.length : Int) ≤ a3) = true := decide_eq_true g4
        go_enter Tryd.func4, Tryd.ntmps4
        go_wp2_with fail
        refine Calls.mono (HL.out) ?_
        rintro e w3 ⟨rfl, b3⟩
        go_wp2_with fail
        refine Calls.mono (HR.out _ b3) ?_
        rintro e w5 ⟨rfl, b5⟩
        go_wp2_with fail
        refine Calls.mono (HA.out _ b5) ?_
        rintro e wz ⟨rfl, hz⟩
        go_wp2_with fail
        go_ret
        exact ⟨rfl, hz⟩
      have e4 : decide ((ss.length : Int) ≤ a3) = false := decide_eq_false g4
      obtain ⟨i, rfl⟩ := Int.eq_ofNat_of_zero_le (show 0 ≤ a2 by omega)
      obtain ⟨j, rfl⟩ := Int.eq_ofNat_of_zero_le (show 0 ≤ a3 by omega)
      clear g1 g2 w2 w3
      have hi : i < ss.length := by omega
      have hj : j < ss.length := by omega
      clear g3 g4
      obtain ⟨z1, z2, z3, z4⟩ := light_all l1
      have hok : ∀ s ∈ ss, s.Ok := fun s h => ⟨hsw s h, by have := (z4 s h).1; omega⟩
      have hnc := hr.cap
      have hnm := hr.max
      have Hs := hid_ hs
      have Hr := hid_ hr
      have Hok := hid_ hok
      have Hrw := hid_ hrw
      have Htx := hid_ (show ∀ r ∈ rs, r.text.size ≤ 200 from fun r h => (z3 r h).1)
      have Hmk := hid_ (fun (W : World) (hb : Below w.heap.size w W) r (h : r ∈ rs) => show MatchOk r W from fun _ W' s hb' hs' => ownmatch_any r.text s.name W' (by have := Htx.out r h; omega) (by have := hs'.small; omega) (tabs_later hu (hb.trans (hb'.mono hb.size))))
      have HE := hid_ (fun (W : World) (hb : Below w.heap.size w W) A' c' (ho : RuleRow W A' rs.length c' rs) B' n' d' (ss' : List SpanD) (hx : SpanRow W B' n' d' ss') (hn : n' ≤ 1000) (hk : ∀ s ∈ ss', s.Ok) => eval_any A' rs.length c' rs B' n' d' ss' W ho Hrw.out hx (by omega) hk (fun r h => Hmk.out W hb r h))
      have HO := hid_ (fun (W : World) (hb : Below w.heap.size w W) => own_any A rs.length c rs W (Hr.out.below hb) Hrw.out (by omega))
      have Hsame := hid_ (eval_swapped rs hi hj)
      have Htwice := hid_ (eval_twice (rs := rs) hi hj)
      have Hswk := hid_ (show ∀ s ∈ swapped ss i j hi hj, s.Ok from fun s h => hok s (swapped_mem hi hj h))
      have Hswl := hid_ (swapped_length hi hj)
      clear hr hs hrw hsw hok htab hu z3 z4 l1 l3
      go_enter Tryd.func4, Tryd.ntmps4
      go_wp2_with fail
      refine Calls.mono (HL.out) ?_
      rintro e w3 ⟨rfl, b3⟩
      go_wp2_with fail
      refine Calls.mono (HR.out _ b3) ?_
      rintro e w5 ⟨rfl, b5⟩
      go_wp2_with fail
      refine Calls.mono (HO.out _ b5) ?_
      rintro e w6 ⟨A1, c1, rfl, ho, b6'⟩
      have Hown := hid_ ho.row
      have hcap := ho.row.cap
      have hmax := ho.row.max
      have B6 := hid_ (b5.trans (b6'.mono b5.size))
      clear ho b6' b5 b3
      generalize hev : evalF rs ss = ev at *
      have Hev := hid_ hev
      clear hev
      have hspl : SpanRow w6 B ss.length d ss := Hs.out.below B6.out
      go_wp2_with (at_builtin; refine wpList_spans rfl (.tmp 44) (.tmp 45) rfl w6.heap.size _ 0 _ [] rfl (ownSp_empty w6 _ rfl _ (Nat.le_refl _)) B ss.length d ss rfl (hspl.below ((Below.refl _ _).alloc (Nat.le_refl _) _)) ss.length ss (by omega) rfl (by omega) (by simp) ?_; intro A2 c2 w7 ho2 hb2 _ _; have Ho2 := hid_ ho2; have Hb2 := hid_ (((Below.refl _ _).alloc (Nat.le_refl _) _).trans hb2); clear ho2 hb2 hspl)
      obtain ⟨g, rfl, hg1, hg2⟩ := Ho2.out.block_ (by omega)
      have B7 := hid_ (B6.out.trans (Hb2.out.mono B6.out.size))
      obtain ⟨bS, oS, rfl, hci⟩ := (Hs.out.below B7.out).at_ hi
      obtain ⟨bS', oS', eS, hcj⟩ := (Hs.out.below B7.out).at_ hj
      injection eS with eS
      injection eS with e5 e6
      subst e5 e6
      obtain ⟨gi0, gi', ei', hmi⟩ := Ho2.out.row.at_ hi
      injection ei' with ei'
      injection ei' with e5 e6
      subst e5 e6
      obtain ⟨gj0, gj', ej', hmj⟩ := Ho2.out.row.at_ hj
      injection ej' with ej'
      injection ej' with e5 e6
      subst e5 e6
      have hold : bS < g := by
        have h1 : bS < w.heap.size := by
          obtain ⟨q1, q2, q3, q4⟩ := Hs.out.at_ hi
          injection q3 with q3
          injection q3 with q5 q6
          subst q5 q6
          exact q4.lt
        have := B6.out.size
        omega
      have ne1 : bS ≠ g := by omega
      have ne2 : g ≠ bS := by omega
      have fr : ∀ o, w7.frozen? ⟨g, o, none⟩ = false := Ho2.out.free
      obtain ⟨x0, x1, x2, x3, x4, x5, x6, x7⟩ := hci
      obtain ⟨y0, y1, y2, y3, y4, y5, y6, y7⟩ := hcj
      obtain ⟨p0, p1, p2, p3, p4, p5, p6, p7⟩ := hmi
      obtain ⟨q0, q1, q2, q3, q4, q5, q6, q7⟩ := hmj
      have Hput := hid_ (show OwnSp w6.heap.size (setAt (setAt w7 g (i * 8) ss[j]) g (j * 8) ss[i]) (some ⟨g, 0, none⟩) ss.length c2 (swapped ss i j hi hj) from (Ho2.out.put i ss[j]).put j ss[i])
      have Hputb := hid_ (show Below w6.heap.size w7 (setAt (setAt w7 g (i * 8) ss[j]) g (j * 8) ss[i]) from below_put (below_put (Below.refl _ _) hg1 _ _) hg1 _ _)
      have Hkeep := hid_ (fun (h : ∀ r ∈ rs, whatF r.what ≠ .many) => Htwice.out h)
      have i0 : (0 : Int) ≤ (i : Int) := by omega
      have j0 : (0 : Int) ≤ (j : Int) := by omega
      have i1 : (i : Int) < (ss.length : Int) := by omega
      have j1 : (j : Int) < (ss.length : Int) := by omega
      generalize swapped ss i j hi hj = ms at *
      simp only [Nat.zero_add] at p0 p1 p2 p3 p4 p5 p6 p7 q0 q1 q2 q3 q4 q5 q6 q7
      by_cases hij : i = j
      · subst hij
        clear y0 y1 y2 y3 y4 y5 y6 y7 q0 q1 q2 q3 q4 q5 q6 q7
        generalize hsi : ss[i] = si at *
        have Hsi := hid_ hsi
        have Hoki := hid_ (show si.Ok from by rw [← hsi]; exact Hok.out _ (List.getElem_mem hi))
        clear hsi Htwice
        go_wp2_with fail
        go_region
        clear x0 x1 x2 x3 x4 x5 x6 x7 p0 p1 p2 p3 p4 p5 p6 p7 fr
        change Exit.then _ _ _ _ (World.drew (setAt (setAt w7 g (i * 8) si) g (i * 8) si))
        have hmsk := Hswk.out
        have HEl := Hs.out
        generalize setAt (setAt w7 g (i * 8) si) g (i * 8) si = W8 at *
        have B8 := hid_ (show Below w.heap.size w W8.drew from (B7.out.trans (Hputb.out.mono B6.out.size)).drew)
        have B68 := hid_ (show Below w6.heap.size w6 W8.drew from (Hb2.out.trans (Hputb.out)).drew)
        have Hm8 := hid_ (show OwnSp w6.heap.size W8.drew (some ⟨g, 0, none⟩) ss.length c2 ms from Hput.out.later (Below.drew (Below.refl _ _)))
        clear Hput Hputb B7 hmsk
        generalize W8.drew = W9 at *
        have hB6 := B6.out.size
        have eE : (ev != ev) = false := by simp
        have eE2 : (ev == ev) = true := beq_self_eq_true _
        have Hs' := hid_ (fun (W : World) (hb : Below w.heap.size w W) => Hs.out.below hb)
        go_wp2_with fail
        refine Calls.mono (HE.out _ B8.out A1 c1 (Hown.out.below B68.out) _ _ _ ss (Hs.out.below B8.out) (by omega) Hok.out) ?_
        rintro e w10 ⟨rfl, hb10⟩
        rw [Hev.out]
        have B10 := hid_ (B8.out.trans (hb10.mono B8.out.size))
        have B610 := hid_ (B68.out.trans (hb10.mono B68.out.size))
        have Hm10 := hid_ (Hm8.out.later hb10)
        clear hb10 B8 B68 Hm8
        go_wp2_with fail
        refine Calls.mono (HE.out _ B10.out A1 c1 (Hown.out.below B610.out) _ _ _ ms Hm10.out.row (by omega) Hswk.out) ?_
        rintro e w11 ⟨rfl, hb11⟩
        rw [Hsame.out]
        have B11 := hid_ (B10.out.trans (hb11.mono B10.out.size))
        have B611 := hid_ (B610.out.trans (hb11.mono B610.out.size))
        have Hm11 := hid_ (Hm10.out.later hb11)
        clear hb11 B10 B610 Hm10
        go_wp2_with fail
        go_loop [11] (fun vi => ∃ k : Nat, k ≤ rs.length ∧ vi = .int .i64 (k : Nat) ∧ Hid (∀ q (hq : q < rs.length), q < k → whatF rs[q].what ≠ .many)) (fun vi => rs.length - (intOf vi).toNat)
        case atStart => exact ⟨0, Nat.zero_le _, rfl, hid_ (fun q _ h => absurd h (by omega))⟩
        case round =>
          obtain ⟨k, hk, rfl, Hg⟩ := hrel
          by_cases hlt : k < rs.length
          · obtain ⟨b, off, rfl, hc⟩ := (Hr.out.below B11.out).at_ hlt
            obtain ⟨v0, v1, v2, v3⟩ := hc
            have hmb := many_bool rs[k].what
            by_cases hmy : whatF rs[k].what = .many
            · rw [decide_eq_true hmy] at hmb
              clear hmy
              generalize rs[k] = r at *
              go_wp2_with fail
              refine Calls.mono (HA.out _ B11.out) ?_
              rintro e wz ⟨rfl, hz⟩
              go_wp2_with fail
              go_ret
              exact ⟨rfl, hz⟩
            · have Hg2 := hid_ (show ∀ q (hq : q < rs.length), q < k + 1 → whatF rs[q].what ≠ .many from fun q hq h => by
                by_cases e : q = k
                · subst e; exact hmy
                · exact Hg.out q hq (by omega))
              rw [decide_eq_false hmy] at hmb
              clear hmy
              generalize rs[k] = r at *
              go_wp2_with fail
              go_round
              case rel => exact ⟨k + 1, by omega, by go_num, Hg2⟩
              case measure => simp [intOf] <;> omega
          · obtain rfl : k = rs.length := by omega
            have Hall := hid_ (Hkeep.out fun r hr => by
              obtain ⟨q, hq, rfl⟩ := List.getElem_of_mem hr
              exact Hg.out q hq hq)
            obtain ⟨bb, oo, eb, hci⟩ := (Hs.out.below B11.out).at_ hi
            injection eb with eb
            injection eb with e5 e6
            subst e5 e6
            rw [Hsi.out] at hci
            obtain ⟨x0, x1, x2, x3, x4, x5, x6, x7⟩ := hci
            have hsz11 := B611.out.size
            have hswl := Hswl.out
            go_wp2_with (at_builtin; refine wpList_spans rfl (.tmp 82) (.tmp 87) rfl w6.heap.size _ ss.length c2 ms rfl (Hm11.out.later ((Below.refl _ _).alloc (Nat.le_refl _) _)) _ 1 1 [si] rfl (row_one w11 si _) (ss.length + 1) (ms ++ [si]) (by omega) rfl (by omega) (by simp; omega) ?_; intro A4 c4 w12 ho4 hb4 _ _; have Ho4 := hid_ ho4; have Hb4 := hid_ ((B611.out.alloc hsz11 _).trans hb4); have B12 := hid_ ((B11.out.alloc B11.out.size _).trans (hb4.mono hB6)); clear ho4 hb4 hswl)
            clear x0 x1 x2 x3 x4 x5 x6 x7
            refine Calls.mono (HE.out _ B12.out A1 c1 (Hown.out.below Hb4.out) _ _ _ (ms ++ [si]) Ho4.out.row (by omega) (fun s h => (List.mem_append.1 h).elim (Hswk.out s) (fun h => by rw [List.mem_singleton.1 h]; exact Hoki.out))) ?_
            rintro e w13 ⟨rfl, hb13⟩
            rw [Hall.out]
            have B13 := hid_ (B12.out.trans (hb13.mono B12.out.size))
            have B613 := hid_ (Hb4.out.trans (hb13.mono Hb4.out.size))
            clear hb13
            go_wp2_with fail
            refine Calls.mono (HE.out _ B13.out A1 c1 (Hown.out.below B613.out) _ _ _ ss (Hs.out.below B13.out) (by omega) Hok.out) ?_
            rintro e w14 ⟨rfl, hb14⟩
            rw [Hev.out]
            have B14 := hid_ (B13.out.trans (hb14.mono B13.out.size))
            clear hb14
            go_wp2_with fail
            refine Calls.mono (HA.out _ B14.out) ?_
            rintro e wz ⟨rfl, hz⟩
            go_wp2_with fail
            go_ret
            exact ⟨rfl, hz⟩
      · have hji : ¬ j = i := by omega
        generalize hsi : ss[i] = si at *
        have Hsi := hid_ hsi
        generalize hsj : ss[j] = sj at *
        have Hoki := hid_ (show si.Ok from by rw [← hsi]; exact Hok.out _ (List.getElem_mem hi))
        clear hsi hsj Htwice
        go_wp2_with fail
        go_region
        clear x0 x1 x2 x3 x4 x5 x6 x7 y0 y1 y2 y3 y4 y5 y6 y7 p0 p1 p2 p3 p4 p5 p6 p7 q0 q1 q2 q3 q4 q5 q6 q7 fr
        change Exit.then _ _ _ _ (World.drew (setAt (setAt w7 g (i * 8) sj) g (j * 8) si))
        have hmsk := Hswk.out
        have HEl := Hs.out
        generalize setAt (setAt w7 g (i * 8) sj) g (j * 8) si = W8 at *
        have B8 := hid_ (show Below w.heap.size w W8.drew from (B7.out.trans (Hputb.out.mono B6.out.size)).drew)
        have B68 := hid_ (show Below w6.heap.size w6 W8.drew from (Hb2.out.trans (Hputb.out)).drew)
        have Hm8 := hid_ (show OwnSp w6.heap.size W8.drew (some ⟨g, 0, none⟩) ss.length c2 ms from Hput.out.later (Below.drew (Below.refl _ _)))
        clear Hput Hputb B7 hmsk
        generalize W8.drew = W9 at *
        have hB6 := B6.out.size
        have eE : (ev != ev) = false := by simp
        have eE2 : (ev == ev) = true := beq_self_eq_true _
        have Hs' := hid_ (fun (W : World) (hb : Below w.heap.size w W) => Hs.out.below hb)
        go_wp2_with fail
        refine Calls.mono (HE.out _ B8.out A1 c1 (Hown.out.below B68.out) _ _ _ ss (Hs.out.below B8.out) (by omega) Hok.out) ?_
        rintro e w10 ⟨rfl, hb10⟩
        rw [Hev.out]
        have B10 := hid_ (B8.out.trans (hb10.mono B8.out.size))
        have B610 := hid_ (B68.out.trans (hb10.mono B68.out.size))
        have Hm10 := hid_ (Hm8.out.later hb10)
        clear hb10 B8 B68 Hm8
        go_wp2_with fail
        refine Calls.mono (HE.out _ B10.out A1 c1 (Hown.out.below B610.out) _ _ _ ms Hm10.out.row (by omega) Hswk.out) ?_
        rintro e w11 ⟨rfl, hb11⟩
        rw [Hsame.out]
        have B11 := hid_ (B10.out.trans (hb11.mono B10.out.size))
        have B611 := hid_ (B610.out.trans (hb11.mono B610.out.size))
        have Hm11 := hid_ (Hm10.out.later hb11)
        clear hb11 B10 B610 Hm10
        go_wp2_with fail
        go_loop [11] (fun vi => ∃ k : Nat, k ≤ rs.length ∧ vi = .int .i64 (k : Nat) ∧ Hid (∀ q (hq : q < rs.length), q < k → whatF rs[q].what ≠ .many)) (fun vi => rs.length - (intOf vi).toNat)
        case atStart => exact ⟨0, Nat.zero_le _, rfl, hid_ (fun q _ h => absurd h (by omega))⟩
        case round =>
          obtain ⟨k, hk, rfl, Hg⟩ := hrel
          by_cases hlt : k < rs.length
          · obtain ⟨b, off, rfl, hc⟩ := (Hr.out.below B11.out).at_ hlt
            obtain ⟨v0, v1, v2, v3⟩ := hc
            have hmb := many_bool rs[k].what
            by_cases hmy : whatF rs[k].what = .many
            · rw [decide_eq_true hmy] at hmb
              clear hmy
              generalize rs[k] = r at *
              go_wp2_with fail
              refine Calls.mono (HA.out _ B11.out) ?_
              rintro e wz ⟨rfl, hz⟩
              go_wp2_with fail
              go_ret
              exact ⟨rfl, hz⟩
            · have Hg2 := hid_ (show ∀ q (hq : q < rs.length), q < k + 1 → whatF rs[q].what ≠ .many from fun q hq h => by
                by_cases e : q = k
                · subst e; exact hmy
                · exact Hg.out q hq (by omega))
              rw [decide_eq_false hmy] at hmb
              clear hmy
              generalize rs[k] = r at *
              go_wp2_with fail
              go_round
              case rel => exact ⟨k + 1, by omega, by go_num, Hg2⟩
              case measure => simp [intOf] <;> omega
          · obtain rfl : k = rs.length := by omega
            have Hall := hid_ (Hkeep.out fun r hr => by
              obtain ⟨q, hq, rfl⟩ := List.getElem_of_mem hr
              exact Hg.out q hq hq)
            obtain ⟨bb, oo, eb, hci⟩ := (Hs.out.below B11.out).at_ hi
            injection eb with eb
            injection eb with e5 e6
            subst e5 e6
            rw [Hsi.out] at hci
            obtain ⟨x0, x1, x2, x3, x4, x5, x6, x7⟩ := hci
            have hsz11 := B611.out.size
            have hswl := Hswl.out
            go_wp2_with (at_builtin; refine wpList_spans rfl (.tmp 82) (.tmp 87) rfl w6.heap.size _ ss.length c2 ms rfl (Hm11.out.later ((Below.refl _ _).alloc (Nat.le_refl _) _)) _ 1 1 [si] rfl (row_one w11 si _) (ss.length + 1) (ms ++ [si]) (by omega) rfl (by omega) (by simp; omega) ?_; intro A4 c4 w12 ho4 hb4 _ _; have Ho4 := hid_ ho4; have Hb4 := hid_ ((B611.out.alloc hsz11 _).trans hb4); have B12 := hid_ ((B11.out.alloc B11.out.size _).trans (hb4.mono hB6)); clear ho4 hb4 hswl)
            clear x0 x1 x2 x3 x4 x5 x6 x7
            refine Calls.mono (HE.out _ B12.out A1 c1 (Hown.out.below Hb4.out) _ _ _ (ms ++ [si]) Ho4.out.row (by omega) (fun s h => (List.mem_append.1 h).elim (Hswk.out s) (fun h => by rw [List.mem_singleton.1 h]; exact Hoki.out))) ?_
            rintro e w13 ⟨rfl, hb13⟩
            rw [Hall.out]
            have B13 := hid_ (B12.out.trans (hb13.mono B12.out.size))
            have B613 := hid_ (Hb4.out.trans (hb13.mono Hb4.out.size))
            clear hb13
            go_wp2_with fail
            refine Calls.mono (HE.out _ B13.out A1 c1 (Hown.out.below B613.out) _ _ _ ss (Hs.out.below B13.out) (by omega) Hok.out) ?_
            rintro e w14 ⟨rfl, hb14⟩
            rw [Hev.out]
            have B14 := hid_ (B13.out.trans (hb14.mono B13.out.size))
            clear hb14
            go_wp2_with fail
            refine Calls.mono (HA.out _ B14.out) ?_
            rintro e wz ⟨rfl, hz⟩
            go_wp2_with fail
            go_ret
            exact ⟨rfl, hz⟩

set_option maxRecDepth 100000 in
theorem lifted (os : Os) (started : os.Started) (H : Type) (enc : TypeId × Value → H) (F : Stop.Interp) :
    ReturnsInHanded {} Tryd.checked os 4 .any ((OpenSpec.ofChange Rows.policyOrderSpec).preRow enc Tryd.prog Tryd.f4 Rows.policyOrderRow.domain false Rows.policyOrderRow.laid) (((OpenSpec.ofChange Rows.policyOrderSpec).at F).post enc Tryd.prog Tryd.f4 false true false false) := by
  have hrow : (OpenSpec.ofChange Rows.policyOrderSpec).preRow enc Tryd.prog Tryd.f4 Rows.policyOrderRow.domain false Rows.policyOrderRow.laid ((laidWorld os).forCall (fun _ _ => 0) ⟨#[], #[.slice none 0 0, .slice none 0 0, .int .i64 0, .int .i64 0], []⟩).memory #[.slice none 0 0, .slice none 0 0, .int .i64 0, .int .i64 0] := by
    have hw : (DataW.whole enc Tryd.prog ((laidWorld os).forCall (fun _ _ => 0) ⟨#[], #[.slice none 0 0, .slice none 0 0, .int .i64 0, .int .i64 0], []⟩).memory Tryd.f4.params.toList Rows.policyOrderSpec.vars false (#[.slice none 0 0, .slice none 0 0, .int .i64 0, .int .i64 0] : Array Value).toList 8).map (fun x => (x.1, x.2.1)) = some ([.nil, .nil, .lit (.int .i64 0), .lit (.int .i64 0)], []) := by kernel_rfl
    obtain ⟨⟨x1, x2, x3⟩, hx, hx1⟩ := Option.map_eq_some_iff.1 hw
    simp only [Prod.mk.injEq] at hx1
    obtain ⟨rfl, rfl⟩ := hx1
    exact OpenSpec.preRow_of_cond 8 hx (by kernel_rfl) (fun k hk => by cases hk) (by kernel_rfl) (laid_met os _)
  refine returnsInHanded_of_row (C := Tryd.checked) (s := OpenSpec.ofChange Rows.policyOrderSpec) own started (by kernel_rfl) Tryd.func4
    (witness_row_atRef (enc := enc) (C := Tryd.checked) false (laidWorld os) #[.slice none 0 0, .slice none 0 0, .int .i64 0, .int .i64 0] rfl (by kernel_rfl) (by kernel_rfl) (by kernel_rfl) hrow) ?_
  intro W base args ds gs before hval0 hW _ _ _ hL _ _
  have hval : ∀ (j : Nat) t v, Tryd.f4.params[j]? = some t → args[j]? = some v → Value.okWide Tryd.prog W .any base t v := hval0
  have hW' := hW
  obtain ⟨p, q, hA0, hV, rfl, hfz, hnd⟩ := hW
  have hA : DataW.TrodAll enc Tryd.prog W 0 (fun _ => true) true Tryd.f4.params.toList args.toList ds p := hA0
  rw [Tryd.params4] at hA hval
  obtain ⟨v0, vs0, d0, ds0, p0, q0, hargs, rfl, rfl, h0, r0⟩ := trodAll_cons hA
  obtain ⟨v1, vs1, d1, ds1, p1, q1, rfl, rfl, rfl, h1, r1⟩ := trodAll_cons r0
  obtain ⟨v2, vs2, d2, ds2, p2, q2, rfl, rfl, rfl, h2, r2⟩ := trodAll_cons r1
  obtain ⟨v3, vs3, d3, ds3, p3, q3, rfl, rfl, rfl, h3, r3⟩ := trodAll_cons r2
  obtain ⟨rfl, rfl, rfl⟩ := trodAll_nil r3
  obtain rfl : args = #[v0, v1, v2, v3] := by cases args; simp_all
  obtain ⟨rfl, rfl⟩ := trodVars_none hV
  have lt0 : ∀ x ∈ p0, x.block < W.heap.size := by have k := h0; obtain ⟨m, hm⟩ := k; exact DataW.trod_lt m _ _ _ hm
  have k0 := h0
  have w0 : RulesV W v0 := open_rulesV (hval 0 22 v0 rfl rfl) h0
  have lt1 : ∀ x ∈ p1, x.block < W.heap.size := by have k := h1; obtain ⟨m, hm⟩ := k; exact DataW.trod_lt m _ _ _ hm
  have k1 := h1
  have w1 : SpansV W v1 := open_spansV (hval 1 23 v1 rfl rfl) h1
  have lt2 : ∀ x ∈ p2, x.block < W.heap.size := by have k := h2; obtain ⟨m, hm⟩ := k; exact DataW.trod_lt m _ _ _ hm
  have k2 := h2
  obtain ⟨a2, rfl, rfl, rfl, w2⟩ := open_int Tryd.underlying3 (hval 2 3 v2 rfl rfl) h2
  have lt3 : ∀ x ∈ p3, x.block < W.heap.size := by have k := h3; obtain ⟨m, hm⟩ := k; exact DataW.trod_lt m _ _ _ hm
  have k3 := h3
  obtain ⟨a3, rfl, rfl, rfl, w3⟩ := open_int Tryd.underlying3 (hval 3 3 v3 rfl rfl) h3
  clear hA0 hval0
  refine (walk W v0 w0 v1 w1 a2 w2 a3 w3 (pows_laid hL) (u8_laid hL)).mono fun e W' ⟨he, bel⟩ => ?_
  subst he
  exact ⟨_, rfl, _, _, _, [], _, [], hW', trodAll_mk1 (shut_bool Tryd.underlying4 _), (trodAll_cons_mk (Below.trod laidOut (by kernel_rfl) (of_decide_eq_true (by kernel_rfl)) k0 bel lt0) (trodAll_cons_mk (Below.trod laidOut (by kernel_rfl) (of_decide_eq_true (by kernel_rfl)) k1 bel lt1) (trodAll_cons_mk (Below.trod laidOut (by kernel_rfl) (of_decide_eq_true (by kernel_rfl)) k2 bel lt2) (trodAll_cons_mk (Below.trod laidOut (by kernel_rfl) (of_decide_eq_true (by kernel_rfl)) k3 bel lt3) trodAll_mk0)))), rfl, bel.frame _, fun h => by cases h⟩

theorem said : Rows.PolicyOrderSaid :=
  OpenClaim.holds_of_cond 4 Tryd.f4 rfl rfl rfl rfl rfl rfl rfl ⟨rfl, rfl, rfl, rfl, rfl⟩ rfl rfl rfl rfl rfl (by kernel_rfl) Tryd.func4 (by kernel_rfl)
    (of_decide_eq_true (by kernel_rfl)) (by unfold Func.isWrapper; first | (rw [if_pos (by decide +kernel)]; kernel_rfl) | (rw [if_neg (by decide +kernel)]; exact ⟨rfl, rfl⟩))
    (fun os started H enc _ F => by rw [OpenClaim.pre_eq_preRow]; exact lifted os started H enc F)

theorem plain (f : FuncId) (fn : Func) (hf : Tryd.pinned.checked.prog.funcNamed "winnow/winnowlaw04.PolicyOrder" = some f) (hfn : Tryd.pinned.checked.prog.funcs[f]? = some fn) :
    true = Tryd.pinned.checked.prog.looks [] ∧ ∀ (j : Nat) t, fn.params[j]? = some t → Tryd.pinned.checked.prog.wantsStandIn t = false := by
  obtain rfl : f = 4 := Option.some.inj ((show Tryd.prog.funcNamed "winnow/winnowlaw04.PolicyOrder" = some 4 by kernel_rfl).symm.trans hf) |>.symm
  obtain rfl : fn = Tryd.f4 := (Option.some.inj (Tryd.func4.symm.trans hfn)).symm
  refine ⟨by kernel_rfl, fun j t ht => ?_⟩
  rw [Tryd.params4] at ht
  have hm : t ∈ [22, 23, 3, 3] := by simpa using Array.mem_of_getElem? ht
  have hall : ([22, 23, 3, 3].all fun u => !Tryd.prog.wantsStandIn u) = true := by kernel_rfl
  exact (show Tryd.prog.wantsStandIn t = false by simpa using List.all_eq_true.1 hall t hm)

theorem proved : Rows.PolicyOrderCardSaid :=
  Claim7.holds_tied_plain_at .later [] _ _ _ _ said (fun _ h => by cases h) (by kernel_rfl) (fun _ h => by cases h) policyOrder_row_tie rfl ⟨rfl, rfl⟩ (by kernel_rfl) rfl plain (by kernel_rfl)
#print axioms proved
end Go.Proofs.YtlkpofhfkhdheaaDoor.policyOrder
