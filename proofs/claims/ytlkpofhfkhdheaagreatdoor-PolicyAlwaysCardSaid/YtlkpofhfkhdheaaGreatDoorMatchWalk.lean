/-
  The greedy road over two rows of runes.
-/
import Derived.Test.YtlkpofhfkhdheaaGreatDoorQuestion
import Derived.Test.YtlkpofhfkhdheaaGreatDoorRefName
import Derived.Test.YtlkpofhfkhdheaaGreatDoorMatchMath
namespace Go.Proofs.YtlkpofhfkhdheaaGreatDoor
open Go.RowKit Ru

def starI : Option Nat → Int
  | none => -1
  | some st => (st : Nat)
def measV (P S : Nat) (s b n : Value) : Nat := ((P - (intOf s + 1).toNat) * (S + 1) + (S - (intOf b).toNat)) * (S + 1) + (S - (intOf n).toNat)
theorem meas_star {P S : Nat} {a a' b b' n n' : Nat} (h1 : a' < a) (h : a ≤ P) : ((P - a) * (S + 1) + (S - b)) * (S + 1) + (S - n) < ((P - a') * (S + 1) + (S - b')) * (S + 1) + (S - n') := by
  have e : P - a' = P - a + (a - a') := by omega
  have h2 : (P - a) * (S + 1) + (S - b) + 1 ≤ (P - a') * (S + 1) + (S - b') := by
    have : (P - a + 1) * (S + 1) ≤ (P - a') * (S + 1) := Nat.mul_le_mul_right _ (by omega)
    rw [Nat.add_mul] at this
    omega
  have := Nat.mul_le_mul_right (S + 1) h2
  rw [Nat.add_mul _ 1] at this
  omega
theorem meas_back {S x : Nat} {b b' n n' : Nat} (h1 : b < b') (h : b' ≤ S) : (x * (S + 1) + (S - b')) * (S + 1) + (S - n') < (x * (S + 1) + (S - b)) * (S + 1) + (S - n) := by
  have h2 : x * (S + 1) + (S - b') + 1 ≤ x * (S + 1) + (S - b) := by omega
  have := Nat.mul_le_mul_right (S + 1) h2
  rw [Nat.add_mul _ 1] at this
  omega
theorem meas_fit {P S : Nat} (s b : Value) {n : Nat} (h : n < S) : measV P S s b (.int .i64 ((n : Nat) + 1)) < measV P S s b (.int .i64 (n : Nat)) := by
  unfold measV
  show _ + (S - ((n : Int) + 1).toNat) < _ + (S - (n : Int).toNat)
  omega
theorem meas_backV {P S : Nat} (s n n' : Value) {b : Nat} (h : b < S) : measV P S s (.int .i64 ((b : Nat) + 1)) n' < measV P S s (.int .i64 (b : Nat)) n := by
  unfold measV
  exact meas_back (by show (b : Int).toNat < ((b : Int) + 1).toNat; omega) (by show ((b : Int) + 1).toNat ≤ S; omega)

set_option maxHeartbeats 4000000 in
theorem match_any (A : Option Addr) (n c : Nat) (ps : List Nat) (B : Option Addr) (m d : Nat) (ss : List Nat) (w : World) (ha : Row w A n c (runeVals ps)) (hb : Row w B m d (runeVals ss)) :
    Calls Tryz.prog 81 #[.slice A n c, .slice B m d] w (BoolIs w (matchF ps ss)) := by
  obtain rfl : n = ps.length := by rw [← ha.len]; simp [runeVals]
  obtain rfl : m = ss.length := by rw [← hb.len]; simp [runeVals]
  have hnl := ha.le
  have hml := hb.le
  have Ha := hid_ ha
  have Hb := hid_ hb
  clear ha hb
  go_enter Tryz.func81, Tryz.ntmps81
  go_wp2
  go_loopw [5, 6, 7, 8] (fun vs vb vp vn wr => ∃ (star : Option Nat) (b p n : Nat), vs = .int .i64 (starI star) ∧ vb = .int .i64 (b : Nat) ∧ vp = .int .i64 (p : Nat) ∧ vn = .int .i64 (n : Nat) ∧ Hid (Greedy ps ss star b p n) ∧ Hid (Below w.heap.size w wr)) (fun vs vb vp vn _ => measV ps.length ss.length vs vb vn)
  case atStart => exact ⟨none, 0, 0, 0, rfl, rfl, rfl, rfl, hid_ (greedy_start _ _), hid_ (Below.refl _ _)⟩
  case round =>
    obtain ⟨star, b, p, n, rfl, rfl, rfl, rfl, Hg, Hw⟩ := hrel
    have Hb := hid_ (Hb.out.below Hw.out)
    have Ha := hid_ (Ha.out.below Hw.out)
    have hpl := Hg.out.hp
    have hnl2 := Hg.out.hn
    by_cases hn : n < ss.length
    · obtain ⟨bB, oB, rfl, hcB⟩ := Hb.out.at_ (k := n) (by simpa [runeVals] using hn)
      have hcn : wr.cell? ⟨bB, oB + n, .none⟩ = some (.int .i32 (ss[n] : Nat)) := by rw [hcB]; simp [runeVals]
      clear hcB
      have esn : ss.getD n 0 = ss[n] := by simp [List.getD_eq_getElem?_getD, List.getElem?_eq_getElem hn]
      by_cases hp : p < ps.length
      · obtain ⟨bA, oA, rfl, hcA⟩ := Ha.out.at_ (k := p) (by simpa [runeVals] using hp)
        have hcp : wr.cell? ⟨bA, oA + p, .none⟩ = some (.int .i32 (ps[p] : Nat)) := by rw [hcA]; simp [runeVals]
        clear hcA
        have esp : ps.getD p 0 = ps[p] := by simp [List.getD_eq_getElem?_getD, List.getElem?_eq_getElem hp]
        by_cases h42 : ps[p] = 42
        · rw [h42] at hcp
          have Hg2 := hid_ (greedy_star Hg.out hp (by rw [esp, h42]))
          have hst : (starI star + 1).toNat < p + 1 := by
            have := Hg.out.at_
            cases star with
            | none => show ((-1 : Int) + 1).toNat < p + 1; omega
            | some st => have h1 := this.1; show ((st : Int) + 1).toNat < p + 1; omega
          go_wp2_with fail
          go_roundw
          case rel => exact ⟨some p, n, p + 1, n, rfl, rfl, by go_num, rfl, Hg2, hid_ (Below.trans Hw.out (by first | exact Below.refl _ _ | exact Below.mono (by repeat (first | exact Below.refl _ _ | apply Below.drew | apply below_drewN)) Hw.out.size))⟩
          case measure => exact meas_star (a' := (starI star + 1).toNat) (a := ((p : Int) + 1).toNat) (by omega) (by omega)
        · by_cases h63 : ps[p] = 63
          · rw [h63] at hcp
            have Hg2 := hid_ (greedy_fit Hg.out hp hn (by rw [esp]; exact h42) (.inl (by rw [esp, h63])))
            go_wp2_with fail
            go_quiet (fail)
            go_wp2_with fail
            go_roundw
            case rel => exact ⟨star, b, p + 1, n + 1, rfl, rfl, by go_num, by go_num, Hg2, hid_ (Below.trans Hw.out (by first | exact Below.refl _ _ | exact Below.mono (by repeat (first | exact Below.refl _ _ | apply Below.drew | apply below_drewN)) Hw.out.size))⟩
            case measure => exact meas_fit _ _ hn
          · by_cases hsn : ps[p] = ss[n]
            · have Hg2 := hid_ (greedy_fit Hg.out hp hn (by rw [esp]; exact h42) (.inr (by rw [esp, esn, hsn])))
              rw [hsn] at hcp h42 h63
              have e1 : (((ss[n] : Nat) : Int) == 42) = false := by rw [beq_eq_false_iff_ne]; omega
              have e2 : (((ss[n] : Nat) : Int) == 63) = false := by rw [beq_eq_false_iff_ne]; omega
              clear h42 h63 hsn esn esp
              generalize ss[n] = x at *
              go_wp2_with fail
              go_quiet (fail)
              go_wp2_with fail
              go_roundw
              case rel => exact ⟨star, b, p + 1, n + 1, rfl, rfl, by go_num, by go_num, Hg2, hid_ (Below.trans Hw.out (by first | exact Below.refl _ _ | exact Below.mono (by repeat (first | exact Below.refl _ _ | apply Below.drew | apply below_drewN)) Hw.out.size))⟩
              case measure => exact meas_fit _ _ hn
            · have hno : p < ps.length → ps.getD p 0 ≠ 42 ∧ ps.getD p 0 ≠ 63 ∧ ps.getD p 0 ≠ ss.getD n 0 := fun _ => by rw [esp, esn]; exact ⟨h42, h63, hsn⟩
              have Hno := hid_ hno
              have e1 : (((ps[p] : Nat) : Int) == 42) = false := by rw [beq_eq_false_iff_ne]; omega
              have e2 : (((ps[p] : Nat) : Int) == 63) = false := by rw [beq_eq_false_iff_ne]; omega
              have e3 : (((ps[p] : Nat) : Int) == ((ss[n] : Nat) : Int)) = false := by rw [beq_eq_false_iff_ne]; omega
              clear h42 h63 hsn esn esp hno
              generalize ss[n] = x at *
              generalize ps[p] = y at *
              cases star with
              | none =>
                have Hf := hid_ (greedy_none Hg.out hn Hno.out)
                simp only [starI] at *
                go_wp2_with fail
                go_quiet (fail)
                go_wp2_with fail
                go_ret
                exact boolIs_mk Hf.out (Below.trans Hw.out (by first | exact Below.refl _ _ | exact Below.mono (by repeat (first | exact Below.refl _ _ | apply Below.drew | apply below_drewN)) Hw.out.size))
              | some st =>
                have Hg2 := hid_ (greedy_back Hg.out hn Hno.out)
                have hbn := Hg.out.hb
                have hsp : st < p := Hg.out.at_.1
                simp only [starI] at *
                go_wp2_with fail
                go_quiet (fail)
                go_wp2_with fail
                go_roundw
                case rel => exact ⟨some st, b + 1, st + 1, b + 1, rfl, by go_num, by go_num, by go_num, Hg2, hid_ (Below.trans Hw.out (by first | exact Below.refl _ _ | exact Below.mono (by repeat (first | exact Below.refl _ _ | apply Below.drew | apply below_drewN)) Hw.out.size))⟩
                case measure => exact meas_backV _ _ _ (by omega)
      · have hno : p < ps.length → ps.getD p 0 ≠ 42 ∧ ps.getD p 0 ≠ 63 ∧ ps.getD p 0 ≠ ss.getD n 0 := fun h => absurd h hp
        have Hno := hid_ hno
        clear hno esn
        cases star with
        | none =>
          have Hf := hid_ (greedy_none Hg.out hn Hno.out)
          simp only [starI] at *
          go_wp2_with fail
          go_quiet (fail)
          go_wp2_with fail
          go_ret
          exact boolIs_mk Hf.out (Below.trans Hw.out (by first | exact Below.refl _ _ | exact Below.mono (by repeat (first | exact Below.refl _ _ | apply Below.drew | apply below_drewN)) Hw.out.size))
        | some st =>
          have Hg2 := hid_ (greedy_back Hg.out hn Hno.out)
          have hbn := Hg.out.hb
          have hsp : st < p := Hg.out.at_.1
          simp only [starI] at *
          go_wp2_with fail
          go_quiet (fail)
          go_wp2_with fail
          go_roundw
          case rel => exact ⟨some st, b + 1, st + 1, b + 1, rfl, by go_num, by go_num, by go_num, Hg2, hid_ (Below.trans Hw.out (by first | exact Below.refl _ _ | exact Below.mono (by repeat (first | exact Below.refl _ _ | apply Below.drew | apply below_drewN)) Hw.out.size))⟩
          case measure => exact meas_backV _ _ _ (by omega)
    · obtain rfl : n = ss.length := by omega
      have He := hid_ (greedy_end Hg.out rfl)
      go_wp2_with fail
      clear Hg
      go_loopw [7] (fun vp wr2 => ∃ (p : Nat), p ≤ ps.length ∧ vp = .int .i64 (p : Nat) ∧ Hid (matchF ps ss = matchF (ps.drop p) []) ∧ wr2 = wr) (fun vp _ => ps.length - (intOf vp).toNat)
      case atStart => exact ⟨p, hpl, rfl, He, rfl⟩
      case round =>
        clear He
        obtain ⟨q, hq, rfl, He, rfl⟩ := hrel
        by_cases hp : q < ps.length
        · obtain ⟨bA, oA, rfl, hcA⟩ := Ha.out.at_ (k := q) (by simpa [runeVals] using hp)
          have hcp : wr.cell? ⟨bA, oA + q, .none⟩ = some (.int .i32 (ps[q] : Nat)) := by rw [hcA]; simp [runeVals]
          clear hcA
          have esp : ps.getD q 0 = ps[q] := by simp [List.getD_eq_getElem?_getD, List.getElem?_eq_getElem hp]
          by_cases h42 : ps[q] = 42
          · rw [h42] at hcp
            have He2 := hid_ (He.out.trans (rest_star hp (by rw [esp, h42])))
            go_wp2_with fail
            go_roundw
            case rel => exact ⟨q + 1, by omega, by go_num, He2, trivial⟩
            case measure => simp [intOf]; omega
          · have Hf := hid_ (He.out.trans (rest_other hp (by rw [esp]; exact h42)))
            have e1 : (((ps[q] : Nat) : Int) == 42) = false := by rw [beq_eq_false_iff_ne]; omega
            have e9 : ((q : Int) == (ps.length : Int)) = false := by rw [beq_eq_false_iff_ne]; omega
            clear h42 esp
            generalize ps[q] = y at *
            go_wp2_with fail
            go_ret
            exact boolIs_mk Hf.out (Below.trans Hw.out (by first | exact Below.refl _ _ | exact Below.mono (by repeat (first | exact Below.refl _ _ | apply Below.drew | apply below_drewN)) Hw.out.size))
        · obtain rfl : q = ps.length := by omega
          have Hf := hid_ (show matchF ps ss = true by rw [He.out, List.drop_length, matchF_nil_nil])
          go_wp2_with fail
          go_ret
          exact boolIs_mk Hf.out (Below.trans Hw.out (by first | exact Below.refl _ _ | exact Below.mono (by repeat (first | exact Below.refl _ _ | apply Below.drew | apply below_drewN)) Hw.out.size))
end Go.Proofs.YtlkpofhfkhdheaaGreatDoor
