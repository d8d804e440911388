/-
  The library's pdqsortOrdered at uint64: the row reads, behind it, as the plain 'pdq' of it.
-/
import Derived.Test.YtgmeggilojcoeaaZGN1
import Derived.Test.YtgmeggilojcoeaaZGN2
import Derived.Test.YtgmeggilojcoeaaZGN3
import Derived.Test.YtgmeggilojcoeaaZNumBp
import Derived.Test.YtgmeggilojcoeaaZNumPart
import Derived.Test.YtgmeggilojcoeaaZNumPeq
import Derived.Test.YtgmeggilojcoeaaZNumPins
import Derived.Test.YtgmeggilojcoeaaZNumRd
import Derived.Deep.Cut
namespace Go.Proofs.Ytgmeggilojcoeaa
set_option linter.unusedSimpArgs false
set_option linter.unusedVariables false
open Go.RowKit Go.Sort
namespace Ns
set_option linter.unusedSimpArgs false
set_option linter.unusedVariables false
theorem hintI_two {h : Hint} (e : hintI h = 2) : h = .decreasing := by cases h <;> simp [hintI] at e ⊢
theorem eighthN {x y p q : Nat} (h1 : q ≤ p) (h2 : y ≤ x) : decide (((x : Int) - (y : Int)) / 8 ≤ (p : Int) - (q : Int)) = decide (p - q ≥ (x - y) / 8) :=
  decide_eq_decide.2 ⟨fun h => by omega, fun h => by omega⟩
set_option maxHeartbeats 16000000 in
set_option maxRecDepth 1000000 in
theorem pdq_any (B : Nat) (w0 : World) (g off n c : Nat) (hm : n ≤ 1000000000) (hnc : n ≤ c) : ∀ (N a b limit : Nat) (d : Array Nat) (w : World), b - a < N → NSt B w0 g off d w → d.size = n → a ≤ b → b ≤ n → limit ≤ 1000 → Go.Sort.Below ltN a b d →
    Calls Try.prog 105 #[.slice (some ⟨g, off, none⟩) n c, .int .i64 (a : Nat), .int .i64 (b : Nat), .int .i64 (limit : Nat)] w (SPost B w0 g off (pdq ltN d a b limit true true)) := by
  intro N
  induction N with
  | zero => intro a b limit d w h; omega
  | succ N ih =>
    intro a b limit d w hN hH hds hab hb hlimit hBel0
    have HIH := hid_ ih
    have HB0 := hid_ hBel0
    have H0 := hid_ hH
    have HDS := hid_ hds
    clear ih hBel0 hH hds
    go_enter Try.func105, Try.ntmps105
    go_wp2_with fail
    go_loopg [1, 2, 3, 8, 9] (b - a) (fun k s1 s2 s3 s8 s9 wr => ∃ (a' b' lim : Nat) (wb wp : Bool) (dk : Array Nat), s1 = .int .i64 (a' : Nat) ∧ s2 = .int .i64 (b' : Nat) ∧ s3 = .int .i64 (lim : Nat) ∧ s8 = .bool wb ∧ s9 = .bool wp ∧
      a' ≤ b' ∧ b' ≤ n ∧ b' - a' ≤ k ∧ k ≤ b - a ∧ lim ≤ limit ∧ Hid (dk.size = n) ∧ Hid (Go.Sort.Below ltN a' b' dk) ∧ Hid (NSt B w0 g off dk wr) ∧ Hid (pdq ltN dk a' b' lim wb wp = pdq ltN d a b limit true true))
    case atStart => exact ⟨a, b, limit, true, true, d, rfl, rfl, rfl, rfl, rfl, hab, hb, Nat.le_refl _, Nat.le_refl _, Nat.le_refl _, HDS, HB0, H0, hid_ rfl⟩
    case round =>
      obtain ⟨a', b', lim, wb, wp, dk, rfl, rfl, rfl, rfl, rfl, hab', hb', hk, hkN, hlim, HDK, HBel, HAt, HEq⟩ := hrel
      generalize pdq ltN d a b limit true true = res at *
      by_cases h12 : b' - a' ≤ 12
      · have h12z : decide ((b' : Int) - (a' : Int) ≤ 12) = true := decide_eq_true (by omega)
        have hc := hid_ (ins_any B w0 g off n c a' b' dk wr HAt.out HDK.out hm hnc hab' hb')
        have HR := hid_ (show insertionSort ltN dk a' b' = res by rw [← HEq.out, pdq_small h12])
        clear HEq
        go_wp2_with fail
        refine Calls.mono hc.out ?_
        rintro e w1 ⟨rfl, h1⟩
        have H1 := hid_ h1
        clear h1
        go_wp2_with fail
        (try simp only [Exit.inBlock, Exit.then]); refine bodyPost_ret (results_none rfl _ _ _) rfl ?_
        exact ⟨rfl, by rw [← HR.out]; exact H1.out⟩
      · have h12z : decide ((b' : Int) - (a' : Int) ≤ 12) = false := decide_eq_false (by omega)
        by_cases hl0 : lim = 0
        · subst hl0
          have hc := hid_ (heap_any B w0 g off n c a' b' dk wr HAt.out HDK.out hm hnc (by omega) hb')
          have HR := hid_ (show heapSort ltN dk a' b' = res by rw [← HEq.out, pdq_heap h12 rfl])
          clear HEq
          go_wp2_with fail
          refine Calls.mono hc.out ?_
          rintro e w1 ⟨rfl, h1⟩
          have H1 := hid_ h1
          clear h1
          go_wp2_with fail
          (try simp only [Exit.inBlock, Exit.then]); refine bodyPost_ret (results_none rfl _ _ _) rfl ?_
          exact ⟨rfl, by rw [← HR.out]; exact H1.out⟩
        · have hl0z : ((lim : Int) == 0) = false := by simp; omega
          have hl0y : (lim == 0) = false := by simp; omega
          obtain ⟨d1, lim', c1, c2, d2, pv, hint, p1, p2, hok⟩ := rd_ok HDK.out h12 hb' hl0 HBel.out HEq.out
          have HOK := hid_ hok
          have hlim' := hok.lim
          have hc1a := hok.c1a
          have hc1b := hok.c1b
          have hpva := hok.pva
          have hpvb := hok.pvb
          clear hok HEq
          go_upto_if 35 with fail
          go_cut [3] from 19 (fun s3 wc => s3 = .int .i64 (lim' : Nat) ∧ Hid (NSt B w0 g off d1 wc))
          case first =>
            cases wb
            · have hc := hid_ (bp_any B w0 g off n c a' b' dk wr HAt.out HDK.out hm hnc (by omega) hb')
              have HE := hid_ (HOK.out.no rfl)
              go_wp2_with fail
              refine Calls.mono hc.out ?_
              rintro e w1 ⟨rfl, h1⟩
              have H1 := hid_ h1
              clear h1
              go_wp2_with fail
              go_meet
              exact ⟨by rw [HE.out.2]; congr 1; omega, hid_ (by rw [HE.out.1]; exact H1.out)⟩
            · have HE := hid_ (HOK.out.yes rfl)
              go_wp2_with fail
              go_meet
              exact ⟨by rw [HE.out.2], hid_ (by rw [HE.out.1]; exact HAt.out)⟩
          case rest =>
            obtain ⟨rfl, HAt1⟩ := hcut
            have hc17 := piv_any B w0 g off n c a' b' d1 wc HAt1.out HOK.out.s1 hm hnc (by omega) hb'
            rw [HOK.out.piv] at hc17
            have HC17 := hid_ hc17
            clear hc17
            go_upto_if 50 with (go_at_call 124; (with_reducible refine Calls.mono HC17.out ?_); rintro e w2 ⟨rfl, hw2⟩)
            have HAt2 := hid_ hw2
            clear hw2
            go_cut [11, 12] from 19 (fun s11 s12 wc => s11 = .int .i64 (pv : Nat) ∧ s12 = .int .i64 (hintI hint) ∧ Hid (NSt B w0 g off d2 wc))
            case first =>
              by_cases hh : c2 = .decreasing
              · have hcode : (hintI c2 == 2) = true := by rw [hh]; rfl
                have HE := hid_ (HOK.out.dec hh)
                have hc18 := hid_ (rev_any B w0 g off n c a' b' d1 w2 HAt2.out HOK.out.s1 hm hnc (by omega) hb')
                clear hh
                go_wp2_with fail
                refine Calls.mono hc18.out ?_
                rintro e w3 ⟨rfl, h3⟩
                have H3 := hid_ h3
                clear h3
                go_wp2_with fail
                go_meet
                exact ⟨by rw [HE.out.2.1]; congr 1; omega, by rw [HE.out.2.2]; rfl, hid_ (by rw [HE.out.1]; exact H3.out)⟩
              · have hcode : (hintI c2 == 2) = false := by
                  have : ¬ hintI c2 = 2 := fun h => hh (hintI_two h)
                  simpa using this
                have HE := hid_ (HOK.out.nod hh)
                clear hh
                go_wp2_with fail
                go_meet
                exact ⟨by rw [HE.out.2.1], by rw [HE.out.2.2], hid_ (by rw [HE.out.1]; exact HAt2.out)⟩
            case rest =>
              obtain ⟨rfl, rfl, HAt3⟩ := hcut
              go_upto_region 15 with fail
              go_cut [12, 68] from 19 (fun s12 s68 wx => s12 = .int .i64 (hintI hint) ∧ s68 = .bool (wb && wp && decide (hint = .increasing)) ∧ wx = wc)
              case first =>
                cases wb <;> cases wp <;> cases hint <;>
                  (simp only [hintI]
                   go_wp2_with fail
                   go_meet
                   exact ⟨by rfl, by rfl, rfl⟩)
              case rest =>
                obtain ⟨rfl, rfl, rfl⟩ := hcut
                go_upto_if 68 with fail
                go_cut [] from 19 (fun wx => p2 = false ∧ Hid (NSt B w0 g off p1 wx))
                case first =>
                  cases h68 : (wb && wp && decide (hint = .increasing))
                  · have HE := hid_ (HOK.out.pin h68)
                    go_wp2_with fail
                    go_meet
                    exact ⟨HE.out.2, hid_ (by rw [HE.out.1]; exact HAt3.out)⟩
                  · have hc19 := pins_any B w0 g off n c a' b' d2 wc HAt3.out HOK.out.s2 hm hnc (by omega) hb'
                    rw [HOK.out.piy h68] at hc19
                    have HC19 := hid_ hc19
                    have HDone := hid_ HOK.out.done
                    clear hc19
                    cases hp2 : p2
                    · rw [hp2] at HC19
                      have HP2 := hid_ hp2
                      clear hp2
                      go_wp2_with fail
                      refine Calls.mono HC19.out ?_
                      rintro e w4 ⟨rfl, h4⟩
                      have H4 := hid_ h4
                      clear h4
                      go_wp2_with fail
                      go_meet
                      exact ⟨HP2.out, H4⟩
                    · rw [hp2] at HC19
                      have HP2 := hid_ hp2
                      clear hp2
                      go_wp2_with fail
                      refine Calls.mono HC19.out ?_
                      rintro e w4 ⟨rfl, h4⟩
                      have H4 := hid_ h4
                      clear h4
                      go_wp2_with fail
                      (try simp only [Exit.inBlock, Exit.then]); refine bodyPost_ret (results_none rfl _ _ _) rfl ?_
                      exact ⟨rfl, by rw [HDone.out HP2.out]; exact H4.out⟩
                case rest =>
                  obtain ⟨hp2, HAt5⟩ := hcut
                  have HP2 := hid_ hp2
                  clear hp2
                  go_upto_region 17 with fail
                  go_cut [87] from 19 (fun s87 wx => s87 = .bool (decide (a' > 0) && !ltN p1[a' - 1]! p1[pv]!) ∧ Hid (NSt B w0 g off p1 wx))
                  case first =>
                    rcases Nat.eq_zero_or_pos a' with ha0 | ha0
                    · have e1 : decide ((a' : Int) > 0) = false := decide_eq_false (by omega)
                      have e2 : decide ((0 : Int) < (a' : Int)) = false := decide_eq_false (by omega)
                      have e3 : decide (0 < a') = false := decide_eq_false (by omega)
                      have HE := hid_ (show Value.bool false = .bool (decide (a' > 0) && !ltN p1[a' - 1]! p1[pv]!) by rw [decide_eq_false (show ¬ a' > 0 by omega)]; rfl)
                      have HA := hid_ ha0
                      clear ha0
                      go_wp2_with fail
                      go_quiet (fail)
                      go_wp2_with fail
                      go_meet
                      exact ⟨HE.out, hid_ (HAt5.out.drewN _)⟩
                    · have e1 : decide ((a' : Int) > 0) = true := decide_eq_true (by omega)
                      have e2 : decide ((0 : Int) < (a' : Int)) = true := decide_eq_true (by omega)
                      have e3 : decide (0 < a') = true := decide_eq_true (by omega)
                      have hs3 := HOK.out.s3
                      have g1 := HAt5.out.at_ (a' - 1) (by omega)
                      have g2 := HAt5.out.at_ pv (by omega)
                      clear hs3
                      have HE := hid_ (show Value.bool (!ltN p1[a' - 1]! p1[pv]!) = .bool (decide (a' > 0) && !ltN p1[a' - 1]! p1[pv]!) by rw [decide_eq_true (show a' > 0 by omega)]; rfl)
                      generalize p1[a' - 1]! = x at *
                      generalize p1[pv]! = y at *
                      have k1 : (0 : Int) ≤ (a' : Int) - 1 := by omega
                      have k2 : (a' : Int) - 1 < (n : Int) := by omega
                      have k3 : (0 : Int) ≤ (pv : Int) := by omega
                      have k4 : (pv : Int) < (n : Int) := by omega
                      have k5 : ((a' : Int) - 1).toNat = a' - 1 := by omega
                      have k6 : (1 : Int) ≤ (a' : Int) := by omega
                      cases hl : ltN x y
                      all_goals
                        have Hlv := hid_ (fun W => less_any x y W)
                        rw [hl] at Hlv
                        have HE2 := hid_ ((congrArg (fun z => Value.bool (!z)) hl).symm.trans HE.out)
                        clear hl
                        go_wp2_with fail
                        go_quiet ((go_at_call 127; exact Calls.quiet_of_same (Hlv.out _)))
                        go_wp2_with fail
                        go_meet
                        exact ⟨HE2.out, hid_ (HAt5.out.drewN _)⟩
                  case rest =>
                    obtain ⟨rfl, HAt6⟩ := hcut
                    cases h87 : (decide (a' > 0) && !ltN p1[a' - 1]! p1[pv]!)
                    · have hc22 := part_any B w0 g off n c a' b' pv p1 wc HAt6.out HOK.out.s3 hm hnc hpva hpvb hb'
                      have hL := HOK.out.left HP2.out h87
                      have hR := HOK.out.right HP2.out h87
                      obtain ⟨mid, ap, d4, hx⟩ : ∃ mid ap d4, partition ltN p1 a' b' pv = (mid, ap, d4) := ⟨(partition ltN p1 a' b' pv).1, (partition ltN p1 a' b' pv).2.1, (partition ltN p1 a' b' pv).2.2, rfl⟩
                      obtain ⟨r1, r2, r3, r4, r5, r6, r7⟩ := round_part swoN (partition_holds _) (Nat.le_of_lt hpva) hpvb (show b' ≤ p1.size by rw [HOK.out.s3]; omega) HOK.out.below hx
                      rw [hx] at hc22 hL hR
                      simp only at hL hR
                      have HC22 := hid_ hc22
                      have HL := hid_ hL
                      have HR := hid_ hR
                      have HX := hid_ (And.intro hx h87)
                      have R3 := hid_ (r3.trans HOK.out.s3)
                      have R4 := hid_ r4
                      have R5 := hid_ r5
                      have R6 := hid_ r6
                      have R7 := hid_ r7
                      clear hc22 hL hR hx h87 r3 r4 r5 r6 r7
                      go_upto_if 113 with (go_at_call 129; (with_reducible refine Calls.mono HC22.out ?_); rintro e w7 ⟨rfl, hw7⟩)
                      have HAt7 := hid_ hw7
                      clear hw7
                      by_cases h4 : mid - a' < b' - mid
                      · have h4z : decide ((mid : Int) - (a' : Int) < (b' : Int) - (mid : Int)) = true := decide_eq_true (by omega)
                        have hih := hid_ (HIH.out a' mid lim' d4 w7 (by omega) HAt7.out R3.out (by omega) (by omega) (by omega) R4.out)
                        obtain ⟨pL, sL⟩ := pdq_sorts ltN swoN d4 a' mid lim' true true (by omega) (by rw [R3.out]; omega) R4.out
                        have PL := hid_ (pL.1.trans R3.out)
                        have HB8 := hid_ (R6.out _ pL sL).1
                        have HE8 := hid_ (HL.out r1 r2 h4)
                        clear pL sL
                        go_wp2_with fail
                        refine Calls.mono hih.out ?_
                        rintro e w8 ⟨rfl, h8⟩
                        have H8 := hid_ h8
                        clear h8
                        go_wp2_with fail
                        go_roundg (b' - (mid + 1))
                        case measure => omega
                        case rel =>
                          exact ⟨mid + 1, b', lim', decide (mid - a' ≥ (b' - a') / 8), ap, pdq ltN d4 a' mid lim' true true, by simp, rfl, rfl, congrArg Value.bool (eighthN (by omega) (by omega)), rfl, by omega, by omega, Nat.le_refl _, by omega, by omega, PL, HB8, H8, hid_ HE8.out.symm⟩
                      · have h4z : decide ((mid : Int) - (a' : Int) < (b' : Int) - (mid : Int)) = false := decide_eq_false (by omega)
                        have hih := hid_ (HIH.out (mid + 1) b' lim' d4 w7 (by omega) HAt7.out R3.out (by omega) (by omega) (by omega) R5.out)
                        obtain ⟨pL, sL⟩ := pdq_sorts ltN swoN d4 (mid + 1) b' lim' true true (by omega) (by rw [R3.out]; omega) R5.out
                        have PL := hid_ (pL.1.trans R3.out)
                        have HB8 := hid_ (R7.out _ pL sL).1
                        have HE8 := hid_ (HR.out r1 r2 h4)
                        clear pL sL
                        go_wp2_with fail
                        refine Calls.mono hih.out ?_
                        rintro e w8 ⟨rfl, h8⟩
                        have H8 := hid_ h8
                        clear h8
                        go_wp2_with fail
                        go_roundg (mid - a')
                        case measure => omega
                        case rel =>
                          exact ⟨a', mid, lim', decide (b' - mid ≥ (b' - a') / 8), ap, pdq ltN d4 (mid + 1) b' lim' true true, rfl, rfl, rfl, congrArg Value.bool (eighthN (by omega) (by omega)), rfl, by omega, by omega, Nat.le_refl _, by omega, by omega, PL, HB8, H8, hid_ HE8.out.symm⟩
                    · have h87' := h87
                      simp only [Bool.and_eq_true, decide_eq_true_eq, Bool.not_eq_true'] at h87'
                      have hc21 := peq_any B w0 g off n c a' b' pv p1 wc HAt6.out HOK.out.s3 hm hnc hpva hpvb hb'
                      have hQ := HOK.out.eq HP2.out h87
                      obtain ⟨mid, d4, hx⟩ : ∃ mid d4, partitionEqual ltN p1 a' b' pv = (mid, d4) := ⟨(partitionEqual ltN p1 a' b' pv).1, (partitionEqual ltN p1 a' b' pv).2, rfl⟩
                      obtain ⟨r1, r2, r3, r4, _⟩ := round_eq swoN (partitionEqual_holds _) h87'.1 (Nat.le_of_lt hpva) hpvb (show b' ≤ p1.size by rw [HOK.out.s3]; omega) HOK.out.below h87'.2 hx
                      rw [hx] at hc21 hQ
                      simp only at hQ
                      have HC21 := hid_ hc21
                      have HQ := hid_ (hQ r1 r2)
                      have HX := hid_ (And.intro hx (And.intro h87 h87'))
                      have R3 := hid_ (r3.trans HOK.out.s3)
                      have R4 := hid_ r4
                      clear hc21 hQ hx h87 h87' r3 r4
                      go_wp2_with fail
                      refine Calls.mono HC21.out ?_
                      rintro e w7 ⟨rfl, hw7⟩
                      have HAt7 := hid_ hw7
                      clear hw7
                      go_wp2_with fail
                      go_roundg (b' - mid)
                      case measure => omega
                      case rel =>
                        exact ⟨mid, b', lim', wb, wp, d4, rfl, rfl, rfl, rfl, rfl, r2, hb', Nat.le_refl _, by omega, by omega, R3, R4, HAt7, hid_ HQ.out.symm⟩
end Ns
end Go.Proofs.Ytgmeggilojcoeaa
