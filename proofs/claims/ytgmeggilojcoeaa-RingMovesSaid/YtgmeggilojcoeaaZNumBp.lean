/-
  The library's breakPatterns at uint64.
-/
import Derived.Test.YtgmeggilojcoeaaZGN1
import Derived.Test.YtgmeggilojcoeaaZShSort
import Derived.Sort.Walk7
import Derived.Shelf.SlSortCmp.Xorshift
import Derived.Laws.BitsLemmas
namespace Go.Proofs.Ytgmeggilojcoeaa
set_option linter.unusedSimpArgs false
set_option linter.unusedVariables false
open Go.RowKit Go.Sort
namespace Ns
set_option linter.unusedSimpArgs false
set_option linter.unusedVariables false
/-- The row, and a number in a block of its own beside it. -/
structure NBx (B : Nat) (w0 : World) (g off : Nat) (d : Array Nat) (sb r : Nat) (W : World) : Prop where
  st : NSt B w0 g off d W
  cnt : W.cell? ⟨sb, 0, none⟩ = some (.int .u64 (r : Nat))
  fr : W.frozen? ⟨sb, 0, none⟩ = false
  ne : sb ≠ g
  old : B ≤ sb
theorem NBx.drewN {B : Nat} {w0 : World} {g off : Nat} {d : Array Nat} {sb s : Nat} {W : World} (h : NBx B w0 g off d sb s W) (q : Nat) : NBx B w0 g off d sb s (W.drewN q) := ⟨h.st.drewN q, h.cnt, h.fr, h.ne, h.old⟩
theorem NBx.count {B : Nat} {w0 : World} {g off : Nat} {d : Array Nat} {sb s : Nat} {W : World} (h : NBx B w0 g off d sb s W) (t : Nat) : NBx B w0 g off d sb t (W.setCell ⟨sb, 0, none⟩ (.int .u64 (t : Nat))) := by
  have hg : ∀ o, (W.setCell ⟨sb, 0, none⟩ (.int .u64 (t : Nat))).cell? ⟨g, o, none⟩ = W.cell? ⟨g, o, none⟩ := fun o => World.cell?_setCell_other W ⟨sb, 0, none⟩ ⟨g, o, none⟩ _ (fun e => h.ne (by injection e))
  exact ⟨⟨h.st.bel.setCell (p := ⟨sb, 0, none⟩) h.old _, fun k hk => by rw [hg]; exact h.st.at_ k hk, fun o => by rw [World.frozen?_setCell]; exact h.st.free o, h.st.old, by rw [World.size_setCell]; exact h.st.lt⟩,
    World.cell?_setCell_same W ⟨sb, 0, none⟩ _ h.cnt, by rw [World.frozen?_setCell]; exact h.fr, h.ne, h.old⟩
theorem NBx.swap {B : Nat} {w0 : World} {g off : Nat} {d : Array Nat} {sb s : Nat} {W : World} (h : NBx B w0 g off d sb s W) {i j : Nat} (hi : i < d.size) (hj : j < d.size) :
    NBx B w0 g off (swp d i j) sb s ((W.setCell ⟨g, off + i, none⟩ (.int .u64 (d[j]! : Nat))).setCell ⟨g, off + j, none⟩ (.int .u64 (d[i]! : Nat))).drew := by
  refine ⟨h.st.swap hi hj, ?_, ?_, h.ne, h.old⟩
  · show ((W.setCell ⟨g, off + i, none⟩ _).setCell ⟨g, off + j, none⟩ _).cell? ⟨sb, 0, none⟩ = _
    rw [World.cell?_setCell_other _ ⟨g, off + j, none⟩ ⟨sb, 0, none⟩ _ (fun e => h.ne (by injection e with e; exact e.symm)), World.cell?_setCell_other _ ⟨g, off + i, none⟩ ⟨sb, 0, none⟩ _ (fun e => h.ne (by injection e with e; exact e.symm))]
    exact h.cnt
  · show ((W.setCell ⟨g, off + i, none⟩ _).setCell ⟨g, off + j, none⟩ _).frozen? ⟨sb, 0, none⟩ = _
    rw [World.frozen?_setCell, World.frozen?_setCell]
    exact h.fr
theorem new_box {B : Nat} {w0 : World} {g off : Nat} {d : Array Nat} {W : World} (h : NSt B w0 g off d W) (r : Nat) (T : TypeId) : NBx B w0 g off d W.heap.size r (W.alloc (.cells #[.int .u64 (r : Nat)] T)) := by
  refine ⟨h.keep ((Below.refl _ _).alloc (Nat.le_refl _) _) h.base, ?_, ?_, Nat.ne_of_gt h.lt, h.base⟩
  · rw [World.cell?_alloc_mark]; rfl
  · go_simp
set_option maxRecDepth 100000 in
set_option maxHeartbeats 8000000 in
theorem bp_any (B : Nat) (w0 : World) (g off n c a b : Nat) (d : Array Nat) (w : World) (h : NSt B w0 g off d w) (hn : d.size = n) (hm : n ≤ 1000000000) (hnc : n ≤ c) (hab : a + 8 ≤ b) (hb : b ≤ n) :
    Calls Try.prog 123 #[.slice (some ⟨g, off, none⟩) n c, .int .i64 (a : Nat), .int .i64 (b : Nat)] w (SPost B w0 g off (breakPatterns d a b)) := by
  obtain ⟨L, hL⟩ : ∃ L : Nat, b = a + L := ⟨b - a, by omega⟩
  subst hL
  have hLI : (((a + L : Nat) : Int) - (a : Int)) = (L : Int) := by omega
  have hLI2 : ((a : Int) + (L : Int) - (a : Int)) = (L : Int) := by omega
  have h8 : 8 ≤ L := by omega
  have q1 : (8 : Int) ≤ (L : Int) := by omega
  have HDef := hid_ (breakPatterns_eq d a L h8)
  generalize breakPatterns d a (a + L) = res at *
  have HNP := hid_ (fun (W : World) => AnyF.nextPowerOfTwo { Sh.sortPts with } L (by omega) W)
  obtain ⟨M, hM⟩ : ∃ M : Nat, M = 1 <<< bitsLen L := ⟨_, rfl⟩
  have hM1 : 1 ≤ M := by rw [hM, Nat.one_shiftLeft]; exact Nat.two_pow_pos _
  have hM2 : M ≤ 2 * L := by
    rw [hM, Nat.one_shiftLeft]
    exact two_pow_bitsLen_le (by omega)
  rw [← hM] at HNP HDef
  have HM := hid_ hM
  obtain ⟨i0, hi0⟩ : ∃ i0 : Nat, i0 = a + L / 4 * 2 - 1 := ⟨_, rfl⟩
  rw [← hi0] at HDef
  have eI : (a : Int) + (L : Int) / 4 * 2 - 1 = (i0 : Int) := by omega
  have eE : (a : Int) + (L : Int) / 4 * 2 + 1 = (i0 : Int) + 2 := by omega
  have bI : i0 + 2 < a + L := by omega
  have hI : a ≤ i0 := by omega
  have HI0 := hid_ hi0
  have Hbox := hid_ (new_box h L 183)
  have HSz := hid_ hn
  clear h hn hM hi0
  go_enter Try.func123, Try.ntmps123
  go_wp2_with fail
  refine Calls.mono (HNP.out _) ?_
  rintro e w1 ⟨rfl, rfl⟩
  generalize hw1 : w.alloc (.cells #[.int .u64 (L : Nat)] 183) = w1 at *
  clear hw1
  generalize w.heap.size = sb at *
  go_wp2_with fail
  go_loopw [9] (fun v9 wr => ∃ (t : Nat) (r : UInt64) (dk : Array Nat), v9 = .int .i64 ((i0 + t : Nat) : Int) ∧ t ≤ 3 ∧ Hid (dk.size = n) ∧ Hid (NBx B w0 g off dk sb r.toNat wr) ∧ Hid (bpRest a L M i0 (3 - t) t (r, dk) = res)) (fun v9 _ => (i0 + 3 : Nat) - (intOf v9).toNat)
  case atStart => exact ⟨0, UInt64.ofNat L, d, rfl, by omega, HSz, hid_ (by rw [show (UInt64.ofNat L).toNat = L by simp; omega]; exact Hbox.out), hid_ HDef.out.symm⟩
  case round =>
    obtain ⟨t, r, dk, rfl, ht, HSk, HK, HR⟩ := hrel
    by_cases ht3 : t < 3
    · have e1 : decide (((i0 + t : Nat) : Int) ≤ (i0 : Int) + 2) = true := decide_eq_true (by omega)
      have e1' : decide ((i0 : Int) + (t : Int) ≤ (i0 : Int) + 2) = true := decide_eq_true (by omega)
      obtain ⟨R, hR⟩ : ∃ R : Nat, R = r.toNat := ⟨_, rfl⟩
      have lR : R < 18446744073709551616 := by rw [hR]; exact r.toNat_lt
      obtain ⟨X, hX⟩ : ∃ X : Nat, X = xorNextN R := ⟨_, rfl⟩
      have lX : X < 18446744073709551616 := by rw [hX]; exact xorNextN_lt R lR
      obtain ⟨O, hO⟩ : ∃ O : Nat, O = X &&& (M - 1) := ⟨_, rfl⟩
      have lO : O ≤ M - 1 := by rw [hO]; exact Nat.and_le_right
      have eAnd : bits .and .u64 (X : Int) ((M : Int) - 1) = (O : Int) := by
        rw [show ((M : Int) - 1) = ((M - 1 : Nat) : Int) by omega, bits_and_u64_nat _ _ lX (by omega), hO]
      rw [← hR] at HK
      have HNX := hid_ (AnyF.xorshift_Next { Sh.sortPts with } sb 0 R lR wr HK.out.cnt HK.out.fr)
      rw [← hX] at HNX
      have HXr := hid_ (show X = (xorNext r).toNat by rw [hX, hR, xorNext_toNat])
      have HOr := hid_ hO
      have Hn := hid_ ((HK.out.count X).drewN 3)
      have HlX := hid_ lX
      clear hR lR hX hO lX
      go_wp2_with fail
      refine Calls.mono HNX.out ?_
      rintro e w2 ⟨rfl, hw2⟩
      have Hn2 := hid_ (show NBx B w0 g off dk sb X w2 by rw [hw2]; exact Hn.out)
      clear hw2
      by_cases hLO : O ≥ L
      · have e2 : decide ((O : Int) ≥ (L : Int)) = true := decide_eq_true (by omega)
        have e3 : decide (L ≤ O) = true := decide_eq_true hLO
        by_cases hsame : i0 + t = a + (O - L)
        · skip
          have HST := hid_ ((bp_step a L M i0 t r dk (O - L) ht3 (by rw [← HXr.out, ← HOr.out]; exact if_pos hLO)).symm.trans HR.out)
          have hs1 : i0 + t < dk.size := by have := HSk.out; omega
          have hs2 : a + (O - L) < dk.size := by have := HSk.out; omega
          have g1 := Hn2.out.st.at_ (i0 + t) hs1
          have g2 := Hn2.out.st.at_ (a + (O - L)) hs2
          have hf1 := Hn2.out.st.free
          have hgl := Hn2.out.st.lt
          have HSW := hid_ (Hn2.out.swap (i := i0 + t) (j := a + (O - L)) hs1 hs2)
          obtain ⟨u, hu⟩ : ∃ u : Nat, u = dk[i0 + t]! := ⟨_, rfl⟩
          obtain ⟨v, hv⟩ : ∃ v : Nat, v = dk[a + (O - L)]! := ⟨_, rfl⟩
          rw [← hu] at g1 HSW
          rw [← hv] at g2 HSW
          clear hs1 hs2
          have k1 : (0 : Int) ≤ (i0 : Int) + (t : Int) := by omega
          have k2 : (i0 : Int) + (t : Int) < (n : Int) := by omega
          have k3 : ((i0 : Int) + (t : Int)).toNat = i0 + t := by omega
          have k4 : (0 : Int) ≤ (a : Int) + ((O : Int) - (L : Int)) := by omega
          have k5 : (a : Int) + ((O : Int) - (L : Int)) < (n : Int) := by omega
          have k6 : ((a : Int) + ((O : Int) - (L : Int))).toNat = a + (O - L) := by omega
          obtain ⟨p, hp⟩ : ∃ p : Nat, p = i0 + t := ⟨_, rfl⟩
          obtain ⟨q, hq⟩ : ∃ q : Nat, q = a + (O - L) := ⟨_, rfl⟩
          rw [← hp] at k3 g1 HSW HST hu
          rw [← hq] at k6 g2 HSW HST hv
          have HP := hid_ hp
          have HQ := hid_ hq
          have hpq : p = q := by rw [hp, hq]; exact hsame
          clear hp hq hsame
          subst hpq
          obtain rfl : v = u := by rw [hu, hv]
          clear hu hv
          go_wp2_with fail
          go_region
          all_goals
            go_wp2_with fail
            go_roundw
            case rel => exact ⟨t + 1, xorNext r, swp dk p p, by first | rfl | (congr 1; omega), by omega, hid_ (by rw [size_swp]; exact HSk.out), hid_ (by rw [← HXr.out]; exact HSW.out), HST⟩
            case measure => simp [intOf]; omega
        · skip
          have HST := hid_ ((bp_step a L M i0 t r dk (O - L) ht3 (by rw [← HXr.out, ← HOr.out]; exact if_pos hLO)).symm.trans HR.out)
          have hs1 : i0 + t < dk.size := by have := HSk.out; omega
          have hs2 : a + (O - L) < dk.size := by have := HSk.out; omega
          have g1 := Hn2.out.st.at_ (i0 + t) hs1
          have g2 := Hn2.out.st.at_ (a + (O - L)) hs2
          have hf1 := Hn2.out.st.free
          have hgl := Hn2.out.st.lt
          have HSW := hid_ (Hn2.out.swap (i := i0 + t) (j := a + (O - L)) hs1 hs2)
          obtain ⟨u, hu⟩ : ∃ u : Nat, u = dk[i0 + t]! := ⟨_, rfl⟩
          obtain ⟨v, hv⟩ : ∃ v : Nat, v = dk[a + (O - L)]! := ⟨_, rfl⟩
          rw [← hu] at g1 HSW
          rw [← hv] at g2 HSW
          clear hs1 hs2
          have k1 : (0 : Int) ≤ (i0 : Int) + (t : Int) := by omega
          have k2 : (i0 : Int) + (t : Int) < (n : Int) := by omega
          have k3 : ((i0 : Int) + (t : Int)).toNat = i0 + t := by omega
          have k4 : (0 : Int) ≤ (a : Int) + ((O : Int) - (L : Int)) := by omega
          have k5 : (a : Int) + ((O : Int) - (L : Int)) < (n : Int) := by omega
          have k6 : ((a : Int) + ((O : Int) - (L : Int))).toNat = a + (O - L) := by omega
          obtain ⟨p, hp⟩ : ∃ p : Nat, p = i0 + t := ⟨_, rfl⟩
          obtain ⟨q, hq⟩ : ∃ q : Nat, q = a + (O - L) := ⟨_, rfl⟩
          rw [← hp] at k3 g1 HSW HST hu
          rw [← hq] at k6 g2 HSW HST hv
          have HP := hid_ hp
          have HQ := hid_ hq
          have hne : ¬ p = q := by rw [hp, hq]; exact hsame
          have hne2 : ¬ q = p := fun e => hne e.symm
          clear hp hq hu hv
          go_wp2_with fail
          go_region
          all_goals
            go_wp2_with fail
            go_roundw
            case rel => exact ⟨t + 1, xorNext r, swp dk p q, by first | rfl | (congr 1; omega), by omega, hid_ (by rw [size_swp]; exact HSk.out), hid_ (by rw [← HXr.out]; exact HSW.out), HST⟩
            case measure => simp [intOf]; omega
      · have e2 : decide ((O : Int) ≥ (L : Int)) = false := decide_eq_false (by omega)
        have e3 : decide (L ≤ O) = false := decide_eq_false hLO
        by_cases hsame : i0 + t = a + O
        · skip
          have HST := hid_ ((bp_step a L M i0 t r dk O ht3 (by rw [← HXr.out, ← HOr.out]; exact if_neg hLO)).symm.trans HR.out)
          have hs1 : i0 + t < dk.size := by have := HSk.out; omega
          have hs2 : a + O < dk.size := by have := HSk.out; omega
          have g1 := Hn2.out.st.at_ (i0 + t) hs1
          have g2 := Hn2.out.st.at_ (a + O) hs2
          have hf1 := Hn2.out.st.free
          have hgl := Hn2.out.st.lt
          have HSW := hid_ (Hn2.out.swap (i := i0 + t) (j := a + O) hs1 hs2)
          obtain ⟨u, hu⟩ : ∃ u : Nat, u = dk[i0 + t]! := ⟨_, rfl⟩
          obtain ⟨v, hv⟩ : ∃ v : Nat, v = dk[a + O]! := ⟨_, rfl⟩
          rw [← hu] at g1 HSW
          rw [← hv] at g2 HSW
          clear hs1 hs2
          have k1 : (0 : Int) ≤ (i0 : Int) + (t : Int) := by omega
          have k2 : (i0 : Int) + (t : Int) < (n : Int) := by omega
          have k3 : ((i0 : Int) + (t : Int)).toNat = i0 + t := by omega
          have k4 : (0 : Int) ≤ (a : Int) + (O : Int) := by omega
          have k5 : (a : Int) + (O : Int) < (n : Int) := by omega
          have k6 : ((a : Int) + (O : Int)).toNat = a + O := by omega
          obtain ⟨p, hp⟩ : ∃ p : Nat, p = i0 + t := ⟨_, rfl⟩
          obtain ⟨q, hq⟩ : ∃ q : Nat, q = a + O := ⟨_, rfl⟩
          rw [← hp] at k3 g1 HSW HST hu
          rw [← hq] at k6 g2 HSW HST hv
          have HP := hid_ hp
          have HQ := hid_ hq
          have hpq : p = q := by rw [hp, hq]; exact hsame
          clear hp hq hsame
          subst hpq
          obtain rfl : v = u := by rw [hu, hv]
          clear hu hv
          go_wp2_with fail
          go_region
          all_goals
            go_wp2_with fail
            go_roundw
            case rel => exact ⟨t + 1, xorNext r, swp dk p p, by first | rfl | (congr 1; omega), by omega, hid_ (by rw [size_swp]; exact HSk.out), hid_ (by rw [← HXr.out]; exact HSW.out), HST⟩
            case measure => simp [intOf]; omega
        · skip
          have HST := hid_ ((bp_step a L M i0 t r dk O ht3 (by rw [← HXr.out, ← HOr.out]; exact if_neg hLO)).symm.trans HR.out)
          have hs1 : i0 + t < dk.size := by have := HSk.out; omega
          have hs2 : a + O < dk.size := by have := HSk.out; omega
          have g1 := Hn2.out.st.at_ (i0 + t) hs1
          have g2 := Hn2.out.st.at_ (a + O) hs2
          have hf1 := Hn2.out.st.free
          have hgl := Hn2.out.st.lt
          have HSW := hid_ (Hn2.out.swap (i := i0 + t) (j := a + O) hs1 hs2)
          obtain ⟨u, hu⟩ : ∃ u : Nat, u = dk[i0 + t]! := ⟨_, rfl⟩
          obtain ⟨v, hv⟩ : ∃ v : Nat, v = dk[a + O]! := ⟨_, rfl⟩
          rw [← hu] at g1 HSW
          rw [← hv] at g2 HSW
          clear hs1 hs2
          have k1 : (0 : Int) ≤ (i0 : Int) + (t : Int) := by omega
          have k2 : (i0 : Int) + (t : Int) < (n : Int) := by omega
          have k3 : ((i0 : Int) + (t : Int)).toNat = i0 + t := by omega
          have k4 : (0 : Int) ≤ (a : Int) + (O : Int) := by omega
          have k5 : (a : Int) + (O : Int) < (n : Int) := by omega
          have k6 : ((a : Int) + (O : Int)).toNat = a + O := by omega
          obtain ⟨p, hp⟩ : ∃ p : Nat, p = i0 + t := ⟨_, rfl⟩
          obtain ⟨q, hq⟩ : ∃ q : Nat, q = a + O := ⟨_, rfl⟩
          rw [← hp] at k3 g1 HSW HST hu
          rw [← hq] at k6 g2 HSW HST hv
          have HP := hid_ hp
          have HQ := hid_ hq
          have hne : ¬ p = q := by rw [hp, hq]; exact hsame
          have hne2 : ¬ q = p := fun e => hne e.symm
          clear hp hq hu hv
          go_wp2_with fail
          go_region
          all_goals
            go_wp2_with fail
            go_roundw
            case rel => exact ⟨t + 1, xorNext r, swp dk p q, by first | rfl | (congr 1; omega), by omega, hid_ (by rw [size_swp]; exact HSk.out), hid_ (by rw [← HXr.out]; exact HSW.out), HST⟩
            case measure => simp [intOf]; omega
    · obtain rfl : t = 3 := by omega
      have e1 : decide (((i0 + 3 : Nat) : Int) ≤ (i0 : Int) + 2) = false := decide_eq_false (by omega)
      have e1' : decide ((i0 : Int) + 3 ≤ (i0 : Int) + 2) = false := decide_eq_false (by omega)
      have Hend := hid_ (show NSt B w0 g off res wr by have h := HK.out.st; rw [show res = dk from HR.out.symm]; exact h)
      go_wp2_with fail
      go_end0
      exact ⟨rfl, Hend.out⟩
end Ns
end Go.Proofs.Ytgmeggilojcoeaa
