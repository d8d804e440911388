/-
  The laws of patterns that the chapter tells hold of Match; the chapter's example comes.
  The frame: the row lists tables; the witness's world is the door's own (XLaid).
-/
import Derived.Test.YtedglieadejejaaDoorLaid
import Derived.Test.YtedglieadejejaaDoorRunesCat
import Derived.Test.YtedglieadejejaaDoorRefMatch2
import Derived.Test.YtedglieadejejaaDoorPolAlive
import Derived.Test.YtedglieadejejaaDoorStrOpen
namespace Go.Proofs.YtedglieadejejaaDoor.policyStars
open Go.ChangeShapes Go.WideShapes Go.ChangeAt Go.RowKit
open Go.ChangeMaps (open_string shut_string)
set_option linter.unusedVariables false

theorem own : ownKnob Tryd.prog.godebug = none := by kernel_rfl
theorem laidOut : laidOutB Tryd.prog = true := by kernel_rfl
open Ru
abbrev cStar : ByteArray := ⟨#[42]⟩
theorem runes_star : runesOf cStar 0 = some [42] := by decide +kernel
theorem runes_ok {s : ByteArray} (h : nameOk s = true) : ∃ rs, runesOf s 0 = some rs := by
  cases hr : runesOf s 0 with
  | none => rw [name_none hr] at h; cases h
  | some rs => exact ⟨rs, rfl⟩
theorem runes_pos {s : ByteArray} {rs : List Nat} (h : 1 ≤ s.size) (hr : runesOf s 0 = some rs) : 1 ≤ rs.length := by
  by_cases hk : (runeAt s 0).2 = 0
  · rw [runesOf_none (by omega) hk] at hr; cases hr
  · rw [runesOf_step (by omega) hk] at hr
    obtain ⟨rs', _, rfl⟩ := Option.map_eq_some_iff.1 hr
    simp
theorem matchS_some {p s : ByteArray} {ps ss : List Nat} (hp : runesOf p 0 = some ps) (hs : runesOf s 0 = some ss) : matchS p s = matchF ps ss := by unfold matchS; rw [hp, hs]
/-- What is asked of the three texts. -/
structure Stars (p s h : ByteArray) : Prop where
  all : matchS cStar s = true
  more : matchS p s = true → matchS (cStar ++ p) s = true
  ahead : matchS p s = true → matchS (cStar ++ p) (h ++ s) = true
  behind : matchS p s = true → matchS (p ++ cStar) (s ++ h) = true
  self : (∀ i, i < s.size → (s.get! i).toNat ≠ 42) → matchS s s = true
  other : (∀ i, i < s.size → (s.get! i).toNat ≠ 42) → matchS s (h ++ s) = false
theorem stars_of {p s h : ByteArray} (hp : nameOk p = true) (hs : nameOk s = true) (hh : nameOk h = true) : Stars p s h := by
  obtain ⟨rp, ep⟩ := runes_ok hp
  obtain ⟨rs, es⟩ := runes_ok hs
  obtain ⟨rh, eh⟩ := runes_ok hh
  have hl := runes_pos (name_sizes hh).1 eh
  have no : (∀ i, i < s.size → (s.get! i).toNat ≠ 42) → ∀ r ∈ rs, r ≠ 42 := fun hno => runes_no s 42 (by decide) hno s.size 0 rs (by omega) es
  refine ⟨?_, fun hm => ?_, fun hm => ?_, fun hm => ?_, fun hno => ?_, fun hno => ?_⟩
  · rw [matchS_some runes_star es]; exact star_all _
  · rw [matchS_some ep es] at hm
    rw [matchS_some (runes_cat runes_star ep) es]
    exact star_ahead hm []
  · rw [matchS_some ep es] at hm
    rw [matchS_some (runes_cat runes_star ep) (runes_cat eh es)]
    exact star_ahead hm rh
  · rw [matchS_some ep es] at hm
    rw [matchS_some (runes_cat ep runes_star) (runes_cat es eh)]
    exact star_behind hm rh
  · rw [matchS_some es es]; exact match_self (no hno)
  · rw [matchS_some es (runes_cat eh es)]
    cases hm : matchF rs (rh ++ rs) with
    | false => rfl
    | true =>
      have := match_plain_len (no hno) hm
      rw [List.length_append] at this
      omega

set_option maxHeartbeats 2000000 in
theorem walk (w : World) (v0 : Value) (w0 : StrV w v0) (v1 : Value) (w1 : StrV w v1) (v2 : Value) (w2 : StrV w v2) (htab : PowsB w) (hu : Lib.Utf8Tabs 0 1 w) :
    Calls Tryd.prog 9 #[v0, v1, v2] w fun e w' => e = .returned (.bool true) ∧ Below w.heap.size w w' := by
  obtain ⟨p, hp, rfl⟩ := w0
  obtain ⟨s, hs, rfl⟩ := w1
  obtain ⟨h, hh, rfl⟩ := w2
  have HA : ∀ W : World, Below w.heap.size w W → Calls Tryd.prog 12 #[] W (fun e w' => e = .returned (.bool true) ∧ Below w.heap.size w w') := fun W hb => (alive_any W (htab.later hb)).mono fun e w' h => ⟨h.1, hb.trans (h.2.mono hb.size)⟩
  have HN : ∀ (t : ByteArray), t.size ≤ 9223372036854775807 → ∀ W : World, Below w.heap.size w W → Calls Tryd.prog 13 #[.string t] W (fun e w' => e = .returned (.int .i64 (nameKind t)) ∧ Below w.heap.size w w') := fun t ht W hb => (refname_any t W ht).mono fun e w' h => ⟨h.1, hb.trans (h.2.mono hb.size)⟩
  have HM : ∀ (a b : ByteArray), a.size ≤ 1000 → b.size ≤ 1000 → ∀ W : World, Below w.heap.size w W → Calls Tryd.prog 14 #[.string a, .string b] W (fun e w' => e = .returned (.bool (matchS a b)) ∧ Below w.heap.size w w') := fun a b ha hb' W hb => (ownmatch_any a b W (by omega) (by omega) (tabs_later hu hb)).mono fun e w' h => ⟨h.1, hb.trans (h.2.mono hb.size)⟩
  have b0 : Below w.heap.size w w := Below.refl _ _
  clear htab hu
  by_cases z1 : 100 < p.size
  · have e1 : decide ((100 : Int) < (p.size : Int)) = true := decide_eq_true (by omega)
    go_enter Tryd.func9, Tryd.ntmps9
    go_wp2_with fail
    refine Calls.mono (HA _ b0) ?_
    rintro e wz ⟨rfl, hz⟩
    go_wp2_with fail
    go_ret
    exact ⟨rfl, hz⟩
  have e1 : decide ((100 : Int) < (p.size : Int)) = false := decide_eq_false (by omega)
  by_cases z2 : 100 < s.size
  · have e2 : decide ((100 : Int) < (s.size : Int)) = true := decide_eq_true (by omega)
    go_enter Tryd.func9, Tryd.ntmps9
    go_wp2_with fail
    refine Calls.mono (HA _ b0) ?_
    rintro e wz ⟨rfl, hz⟩
    go_wp2_with fail
    go_ret
    exact ⟨rfl, hz⟩
  have e2 : decide ((100 : Int) < (s.size : Int)) = false := decide_eq_false (by omega)
  by_cases z3 : 100 < h.size
  · have e3 : decide ((100 : Int) < (h.size : Int)) = true := decide_eq_true (by omega)
    go_enter Tryd.func9, Tryd.ntmps9
    go_wp2_with fail
    refine Calls.mono (HA _ b0) ?_
    rintro e wz ⟨rfl, hz⟩
    go_wp2_with fail
    go_ret
    exact ⟨rfl, hz⟩
  have e3 : decide ((100 : Int) < (h.size : Int)) = false := decide_eq_false (by omega)
  have N1 := HN p hp
  by_cases n1 : nameOk p = false
  · rw [kind_bad n1] at N1
    go_enter Tryd.func9, Tryd.ntmps9
    go_wp2_with fail
    refine Calls.mono (N1 _ b0) ?_
    rintro e w1 ⟨rfl, b1⟩
    go_wp2_with fail
    refine Calls.mono (HA _ b1) ?_
    rintro e wz ⟨rfl, hz⟩
    go_wp2_with fail
    go_ret
    exact ⟨rfl, hz⟩
  rw [kind_good (by simpa using n1)] at N1
  have N2 := HN s hs
  by_cases n2 : nameOk s = false
  · rw [kind_bad n2] at N2
    go_enter Tryd.func9, Tryd.ntmps9
    go_wp2_with fail
    refine Calls.mono (N1 _ b0) ?_
    rintro e w1 ⟨rfl, b1⟩
    go_wp2_with fail
    refine Calls.mono (N2 _ b1) ?_
    rintro e w2 ⟨rfl, b2⟩
    go_wp2_with fail
    refine Calls.mono (HA _ b2) ?_
    rintro e wz ⟨rfl, hz⟩
    go_wp2_with fail
    go_ret
    exact ⟨rfl, hz⟩
  rw [kind_good (by simpa using n2)] at N2
  have N3 := HN h hh
  by_cases n3 : nameOk h = false
  · rw [kind_bad n3] at N3
    go_enter Tryd.func9, Tryd.ntmps9
    go_wp2_with fail
    refine Calls.mono (N1 _ b0) ?_
    rintro e w1 ⟨rfl, b1⟩
    go_wp2_with fail
    refine Calls.mono (N2 _ b1) ?_
    rintro e w2 ⟨rfl, b2⟩
    go_wp2_with fail
    refine Calls.mono (N3 _ b2) ?_
    rintro e w3 ⟨rfl, b3⟩
    go_wp2_with fail
    refine Calls.mono (HA _ b3) ?_
    rintro e wz ⟨rfl, hz⟩
    go_wp2_with fail
    go_ret
    exact ⟨rfl, hz⟩
  rw [kind_good (by simpa using n3)] at N3
  obtain ⟨s1, s2, s3, s4, s5, s6⟩ := stars_of (p := p) (s := s) (h := h) (by simpa using n1) (by simpa using n2) (by simpa using n3)
  have zc : ∀ a b : ByteArray, (a ++ b).size = a.size + b.size := fun a b => ByteArray.size_append
  have M1 := HM cStar s (by decide) (by omega)
  have M2 := HM (cStar ++ p) s (by rw [zc]; show 1 + p.size ≤ 1000; omega) (by omega)
  have M3 := HM p s (by omega) (by omega)
  have M4 := HM (cStar ++ p) (h ++ s) (by rw [zc]; show 1 + p.size ≤ 1000; omega) (by rw [zc]; omega)
  have M5 := HM (p ++ cStar) (s ++ h) (by rw [zc]; show p.size + 1 ≤ 1000; omega) (by rw [zc]; omega)
  have M6 := HM s s (by omega) (by omega)
  have M7 := HM s (h ++ s) (by omega) (by rw [zc]; omega)
  rw [s1] at M1
  have hs' : s.size ≤ 100 := by omega
  have hp' : p.size ≤ 100 := by omega
  have hh' : h.size ≤ 100 := by omega
  cases hm : matchS p s with
  | true =>
    rw [hm] at M3
    rw [s2 hm] at M2
    rw [s3 hm] at M4
    rw [s4 hm] at M5
    clear s1 s2 s3 s4 hm
    go_enter Tryd.func9, Tryd.ntmps9
    go_wp2_with fail
    refine Calls.mono (N1 _ b0) ?_
    rintro e w1 ⟨rfl, b1⟩
    go_wp2_with fail
    refine Calls.mono (N2 _ b1) ?_
    rintro e w2 ⟨rfl, b2⟩
    go_wp2_with fail
    refine Calls.mono (N3 _ b2) ?_
    rintro e w3 ⟨rfl, b3⟩
    go_wp2_with fail
    refine Calls.mono (M1 _ b3) ?_
    rintro e w4 ⟨rfl, b4⟩
    go_wp2_with fail
    refine Calls.mono (M2 _ b4) ?_
    rintro e w5 ⟨rfl, b5⟩
    go_wp2_with fail
    refine Calls.mono (M3 _ b5) ?_
    rintro e w6 ⟨rfl, b6⟩
    go_wp2_with fail
    refine Calls.mono (M4 _ b6) ?_
    rintro e w7 ⟨rfl, b7⟩
    go_wp2_with fail
    refine Calls.mono (M5 _ b7) ?_
    rintro e w8 ⟨rfl, b8⟩
    go_wp2_with fail
    clear M1 M2 M3 M4 M5 N1 N2 N3
    go_loopw [7, 8] (fun v7 v8 wr => ∃ (k : Nat) (b : Bool), k ≤ s.size ∧ v7 = .bool b ∧ v8 = .int .i64 (k : Nat) ∧ Hid (b = true → ∀ i, i < k → (s.get! i).toNat ≠ 42) ∧ Hid (Below w.heap.size w wr)) (fun _ v8 _ => s.size - (intOf v8).toNat)
    case atStart => exact ⟨0, true, Nat.zero_le _, rfl, rfl, hid_ (fun _ i hi => absurd hi (by omega)), hid_ b8⟩
    case round =>
      obtain ⟨k, b, hk, rfl, rfl, Hg, Hw⟩ := hrel
      by_cases hlt : k < s.size
      · have hgk : s.get! k = s[k] := get_eq s k hlt
        cases b with
        | false =>
          go_wp2_with fail
          go_roundw
          case rel => exact ⟨k + 1, false, by omega, rfl, by go_num, hid_ (fun h => by cases h), Hw⟩
          case measure => simp [intOf] <;> omega
        | true =>
          by_cases h42 : s[k].toNat = 42
          · have c42 : (((s[k].toNat : Nat) : Int) == 42) = true := by rw [h42]; rfl
            go_wp2_with fail
            go_roundw
            case rel => exact ⟨k + 1, false, by omega, rfl, by go_num, hid_ (fun h => by cases h), Hw⟩
            case measure => simp [intOf] <;> omega
          · have c42 : (((s[k].toNat : Nat) : Int) == 42) = false := by rw [beq_eq_false_iff_ne]; omega
            have Hg2 := hid_ (show true = true → ∀ i, i < k + 1 → (s.get! i).toNat ≠ 42 by
              intro _ i hi
              by_cases e : i = k
              · subst e; rw [hgk]; exact h42
              · exact Hg.out rfl i (by omega))
            by_cases h63 : s[k].toNat = 63
            · have c63 : (((s[k].toNat : Nat) : Int) == 63) = true := by rw [h63]; rfl
              go_wp2_with fail
              go_roundw
              case rel => exact ⟨k + 1, false, by omega, rfl, by go_num, hid_ (fun h => by cases h), Hw⟩
              case measure => simp [intOf] <;> omega
            · have c63 : (((s[k].toNat : Nat) : Int) == 63) = false := by rw [beq_eq_false_iff_ne]; omega
              go_wp2_with fail
              go_roundw
              case rel => exact ⟨k + 1, true, by omega, by first | rfl | exact congrArg Value.bool (by simp only [bne, c42, c63]; rfl), by go_num, Hg2, Hw⟩
              case measure => simp [intOf] <;> omega
      · obtain rfl : k = s.size := by omega
        cases b with
        | false =>
          go_wp2_with fail
          refine Calls.mono (HA _ Hw.out) ?_
          rintro e wz ⟨rfl, hz⟩
          go_wp2_with fail
          go_ret
          exact ⟨rfl, hz⟩
        | true =>
          rw [s5 (Hg.out rfl)] at M6
          rw [s6 (Hg.out rfl)] at M7
          go_wp2_with fail
          refine Calls.mono (M6 _ Hw.out) ?_
          rintro e wx ⟨rfl, hx⟩
          go_wp2_with fail
          refine Calls.mono (M7 _ hx) ?_
          rintro e wy ⟨rfl, hy⟩
          go_wp2_with fail
          refine Calls.mono (HA _ hy) ?_
          rintro e wz ⟨rfl, hz⟩
          go_wp2_with fail
          go_ret
          exact ⟨rfl, hz⟩
  | false =>
    rw [hm] at M3
    clear s1 s2 s3 s4 hm
    generalize matchS (cStar ++ p) s = y at *
    go_enter Tryd.func9, Tryd.ntmps9
    go_wp2_with fail
    refine Calls.mono (N1 _ b0) ?_
    rintro e w1 ⟨rfl, b1⟩
    go_wp2_with fail
    refine Calls.mono (N2 _ b1) ?_
    rintro e w2 ⟨rfl, b2⟩
    go_wp2_with fail
    refine Calls.mono (N3 _ b2) ?_
    rintro e w3 ⟨rfl, b3⟩
    go_wp2_with fail
    refine Calls.mono (M1 _ b3) ?_
    rintro e w4 ⟨rfl, b4⟩
    go_wp2_with fail
    refine Calls.mono (M2 _ b4) ?_
    rintro e w5 ⟨rfl, b5⟩
    cases y with
    | true =>
      go_wp2_with fail
      refine Calls.mono (M3 _ b5) ?_
      rintro e w6 ⟨rfl, b6⟩
      go_wp2_with fail
      clear M1 M2 M3 M4 M5 N1 N2 N3
      go_loopw [7, 8] (fun v7 v8 wr => ∃ (k : Nat) (b : Bool), k ≤ s.size ∧ v7 = .bool b ∧ v8 = .int .i64 (k : Nat) ∧ Hid (b = true → ∀ i, i < k → (s.get! i).toNat ≠ 42) ∧ Hid (Below w.heap.size w wr)) (fun _ v8 _ => s.size - (intOf v8).toNat)
      case atStart => exact ⟨0, true, Nat.zero_le _, rfl, rfl, hid_ (fun _ i hi => absurd hi (by omega)), hid_ b6⟩
      case round =>
        obtain ⟨k, b, hk, rfl, rfl, Hg, Hw⟩ := hrel
        by_cases hlt : k < s.size
        · have hgk : s.get! k = s[k] := get_eq s k hlt
          cases b with
          | false =>
            go_wp2_with fail
            go_roundw
            case rel => exact ⟨k + 1, false, by omega, rfl, by go_num, hid_ (fun h => by cases h), Hw⟩
            case measure => simp [intOf] <;> omega
          | true =>
            by_cases h42 : s[k].toNat = 42
            · have c42 : (((s[k].toNat : Nat) : Int) == 42) = true := by rw [h42]; rfl
              go_wp2_with fail
              go_roundw
              case rel => exact ⟨k + 1, false, by omega, rfl, by go_num, hid_ (fun h => by cases h), Hw⟩
              case measure => simp [intOf] <;> omega
            · have c42 : (((s[k].toNat : Nat) : Int) == 42) = false := by rw [beq_eq_false_iff_ne]; omega
              have Hg2 := hid_ (show true = true → ∀ i, i < k + 1 → (s.get! i).toNat ≠ 42 by
                intro _ i hi
                by_cases e : i = k
                · subst e; rw [hgk]; exact h42
                · exact Hg.out rfl i (by omega))
              by_cases h63 : s[k].toNat = 63
              · have c63 : (((s[k].toNat : Nat) : Int) == 63) = true := by rw [h63]; rfl
                go_wp2_with fail
                go_roundw
                case rel => exact ⟨k + 1, false, by omega, rfl, by go_num, hid_ (fun h => by cases h), Hw⟩
                case measure => simp [intOf] <;> omega
              · have c63 : (((s[k].toNat : Nat) : Int) == 63) = false := by rw [beq_eq_false_iff_ne]; omega
                go_wp2_with fail
                go_roundw
                case rel => exact ⟨k + 1, true, by omega, by first | rfl | exact congrArg Value.bool (by simp only [bne, c42, c63]; rfl), by go_num, Hg2, Hw⟩
                case measure => simp [intOf] <;> omega
        · obtain rfl : k = s.size := by omega
          cases b with
          | false =>
            go_wp2_with fail
            refine Calls.mono (HA _ Hw.out) ?_
            rintro e wz ⟨rfl, hz⟩
            go_wp2_with fail
            go_ret
            exact ⟨rfl, hz⟩
          | true =>
            rw [s5 (Hg.out rfl)] at M6
            rw [s6 (Hg.out rfl)] at M7
            go_wp2_with fail
            refine Calls.mono (M6 _ Hw.out) ?_
            rintro e wx ⟨rfl, hx⟩
            go_wp2_with fail
            refine Calls.mono (M7 _ hx) ?_
            rintro e wy ⟨rfl, hy⟩
            go_wp2_with fail
            refine Calls.mono (HA _ hy) ?_
            rintro e wz ⟨rfl, hz⟩
            go_wp2_with fail
            go_ret
            exact ⟨rfl, hz⟩
    | false =>
      go_wp2_with fail
      refine Calls.mono (M3 _ b5) ?_
      rintro e w6 ⟨rfl, b6⟩
      go_wp2_with fail
      refine Calls.mono (M3 _ b6) ?_
      rintro e w7 ⟨rfl, b7⟩
      go_wp2_with fail
      clear M1 M2 M3 M4 M5 N1 N2 N3
      go_loopw [7, 8] (fun v7 v8 wr => ∃ (k : Nat) (b : Bool), k ≤ s.size ∧ v7 = .bool b ∧ v8 = .int .i64 (k : Nat) ∧ Hid (b = true → ∀ i, i < k → (s.get! i).toNat ≠ 42) ∧ Hid (Below w.heap.size w wr)) (fun _ v8 _ => s.size - (intOf v8).toNat)
      case atStart => exact ⟨0, true, Nat.zero_le _, rfl, rfl, hid_ (fun _ i hi => absurd hi (by omega)), hid_ b7⟩
      case round =>
        obtain ⟨k, b, hk, rfl, rfl, Hg, Hw⟩ := hrel
        by_cases hlt : k < s.size
        · have hgk : s.get! k = s[k] := get_eq s k hlt
          cases b with
          | false =>
            go_wp2_with fail
            go_roundw
            case rel => exact ⟨k + 1, false, by omega, rfl, by go_num, hid_ (fun h => by cases h), Hw⟩
            case measure => simp [intOf] <;> omega
          | true =>
            by_cases h42 : s[k].toNat = 42
            · have c42 : (((s[k].toNat : Nat) : Int) == 42) = true := by rw [h42]; rfl
              go_wp2_with fail
              go_roundw
              case rel => exact ⟨k + 1, false, by omega, rfl, by go_num, hid_ (fun h => by cases h), Hw⟩
              case measure => simp [intOf] <;> omega
            · have c42 : (((s[k].toNat : Nat) : Int) == 42) = false := by rw [beq_eq_false_iff_ne]; omega
              have Hg2 := hid_ (show true = true → ∀ i, i < k + 1 → (s.get! i).toNat ≠ 42 by
                intro _ i hi
                by_cases e : i = k
                · subst e; rw [hgk]; exact h42
                · exact Hg.out rfl i (by omega))
              by_cases h63 : s[k].toNat = 63
              · have c63 : (((s[k].toNat : Nat) : Int) == 63) = true := by rw [h63]; rfl
                go_wp2_with fail
                go_roundw
                case rel => exact ⟨k + 1, false, by omega, rfl, by go_num, hid_ (fun h => by cases h), Hw⟩
                case measure => simp [intOf] <;> omega
              · have c63 : (((s[k].toNat : Nat) : Int) == 63) = false := by rw [beq_eq_false_iff_ne]; omega
                go_wp2_with fail
                go_roundw
                case rel => exact ⟨k + 1, true, by omega, by first | rfl | exact congrArg Value.bool (by simp only [bne, c42, c63]; rfl), by go_num, Hg2, Hw⟩
                case measure => simp [intOf] <;> omega
        · obtain rfl : k = s.size := by omega
          cases b with
          | false =>
            go_wp2_with fail
            refine Calls.mono (HA _ Hw.out) ?_
            rintro e wz ⟨rfl, hz⟩
            go_wp2_with fail
            go_ret
            exact ⟨rfl, hz⟩
          | true =>
            rw [s5 (Hg.out rfl)] at M6
            rw [s6 (Hg.out rfl)] at M7
            go_wp2_with fail
            refine Calls.mono (M6 _ Hw.out) ?_
            rintro e wx ⟨rfl, hx⟩
            go_wp2_with fail
            refine Calls.mono (M7 _ hx) ?_
            rintro e wy ⟨rfl, hy⟩
            go_wp2_with fail
            refine Calls.mono (HA _ hy) ?_
            rintro e wz ⟨rfl, hz⟩
            go_wp2_with fail
            go_ret
            exact ⟨rfl, hz⟩

set_option maxRecDepth 100000 in
theorem lifted (os : Os) (started : os.Started) (H : Type) (enc : TypeId × Value → H) (F : Stop.Interp) :
    ReturnsInHanded {} Tryd.checked os 9 .any ((OpenSpec.ofChange Rows.policyStarsSpec).preRow enc Tryd.prog Tryd.f9 Rows.policyStarsRow.domain false Rows.policyStarsRow.laid) (((OpenSpec.ofChange Rows.policyStarsSpec).at F).post enc Tryd.prog Tryd.f9 false true false false) := by
  have hrow : (OpenSpec.ofChange Rows.policyStarsSpec).preRow enc Tryd.prog Tryd.f9 Rows.policyStarsRow.domain false Rows.policyStarsRow.laid ((laidWorld os).forCall (fun _ _ => 0) ⟨#[], #[.string ByteArray.empty, .string ByteArray.empty, .string ByteArray.empty], []⟩).memory #[.string ByteArray.empty, .string ByteArray.empty, .string ByteArray.empty] := by
    have hw : (DataW.whole enc Tryd.prog ((laidWorld os).forCall (fun _ _ => 0) ⟨#[], #[.string ByteArray.empty, .string ByteArray.empty, .string ByteArray.empty], []⟩).memory Tryd.f9.params.toList Rows.policyStarsSpec.vars false (#[.string ByteArray.empty, .string ByteArray.empty, .string ByteArray.empty] : Array Value).toList 8).map (fun x => (x.1, x.2.1)) = some ([.lit (.string []), .lit (.string []), .lit (.string [])], []) := by kernel_rfl
    obtain ⟨⟨x1, x2, x3⟩, hx, hx1⟩ := Option.map_eq_some_iff.1 hw
    simp only [Prod.mk.injEq] at hx1
    obtain ⟨rfl, rfl⟩ := hx1
    exact OpenSpec.preRow_of_cond 8 hx (by kernel_rfl) (fun k hk => by cases hk) (by kernel_rfl) (laid_met os _)
  refine returnsInHanded_of_row (C := Tryd.checked) (s := OpenSpec.ofChange Rows.policyStarsSpec) own started (by kernel_rfl) Tryd.func9
    (witness_row_atRef (enc := enc) (C := Tryd.checked) false (laidWorld os) #[.string ByteArray.empty, .string ByteArray.empty, .string ByteArray.empty] rfl (by kernel_rfl) (by kernel_rfl) (by kernel_rfl) hrow) ?_
  intro W base args ds gs before hval0 hW _ _ _ hL _ _
  have hval : ∀ (j : Nat) t v, Tryd.f9.params[j]? = some t → args[j]? = some v → Value.okWide Tryd.prog W .any base t v := hval0
  have hW' := hW
  obtain ⟨p, q, hA0, hV, rfl, hfz, hnd⟩ := hW
  have hA : DataW.TrodAll enc Tryd.prog W 0 (fun _ => true) true Tryd.f9.params.toList args.toList ds p := hA0
  rw [Tryd.params9] at hA hval
  obtain ⟨v0, vs0, d0, ds0, p0, q0, hargs, rfl, rfl, h0, r0⟩ := trodAll_cons hA
  obtain ⟨v1, vs1, d1, ds1, p1, q1, rfl, rfl, rfl, h1, r1⟩ := trodAll_cons r0
  obtain ⟨v2, vs2, d2, ds2, p2, q2, rfl, rfl, rfl, h2, r2⟩ := trodAll_cons r1
  obtain ⟨rfl, rfl, rfl⟩ := trodAll_nil r2
  obtain rfl : args = #[v0, v1, v2] := by cases args; simp_all
  obtain ⟨rfl, rfl⟩ := trodVars_none hV
  have lt0 : ∀ x ∈ p0, x.block < W.heap.size := by have k := h0; obtain ⟨m, hm⟩ := k; exact DataW.trod_lt m _ _ _ hm
  have k0 := h0
  have w0 : StrV W v0 := open_strV (hval 0 9 v0 rfl rfl) h0
  have lt1 : ∀ x ∈ p1, x.block < W.heap.size := by have k := h1; obtain ⟨m, hm⟩ := k; exact DataW.trod_lt m _ _ _ hm
  have k1 := h1
  have w1 : StrV W v1 := open_strV (hval 1 9 v1 rfl rfl) h1
  have lt2 : ∀ x ∈ p2, x.block < W.heap.size := by have k := h2; obtain ⟨m, hm⟩ := k; exact DataW.trod_lt m _ _ _ hm
  have k2 := h2
  have w2 : StrV W v2 := open_strV (hval 2 9 v2 rfl rfl) h2
  clear hA0 hval0
  refine (walk W v0 w0 v1 w1 v2 w2 (pows_laid hL) (u8_laid hL)).mono fun e W' ⟨he, bel⟩ => ?_
  subst he
  exact ⟨_, rfl, _, _, _, [], _, [], hW', trodAll_mk1 (shut_bool Tryd.underlying4 _), (trodAll_cons_mk (Below.trod laidOut (by kernel_rfl) (of_decide_eq_true (by kernel_rfl)) k0 bel lt0) (trodAll_cons_mk (Below.trod laidOut (by kernel_rfl) (of_decide_eq_true (by kernel_rfl)) k1 bel lt1) (trodAll_cons_mk (Below.trod laidOut (by kernel_rfl) (of_decide_eq_true (by kernel_rfl)) k2 bel lt2) trodAll_mk0))), rfl, bel.frame _, fun h => by cases h⟩

theorem said : Rows.PolicyStarsSaid :=
  OpenClaim.holds_of_cond 9 Tryd.f9 rfl rfl rfl rfl rfl rfl rfl ⟨rfl, rfl, rfl, rfl, rfl⟩ rfl rfl rfl rfl rfl (by kernel_rfl) Tryd.func9 (by kernel_rfl)
    (of_decide_eq_true (by kernel_rfl)) (by unfold Func.isWrapper; first | (rw [if_pos (by decide +kernel)]; kernel_rfl) | (rw [if_neg (by decide +kernel)]; exact ⟨rfl, rfl⟩))
    (fun os started H enc _ F => by rw [OpenClaim.pre_eq_preRow]; exact lifted os started H enc F)

theorem plain (f : FuncId) (fn : Func) (hf : Tryd.pinned.checked.prog.funcNamed "winnow/winnowlaw04.PolicyStars" = some f) (hfn : Tryd.pinned.checked.prog.funcs[f]? = some fn) :
    true = Tryd.pinned.checked.prog.looks [] ∧ ∀ (j : Nat) t, fn.params[j]? = some t → Tryd.pinned.checked.prog.wantsStandIn t = false := by
  obtain rfl : f = 9 := Option.some.inj ((show Tryd.prog.funcNamed "winnow/winnowlaw04.PolicyStars" = some 9 by kernel_rfl).symm.trans hf) |>.symm
  obtain rfl : fn = Tryd.f9 := (Option.some.inj (Tryd.func9.symm.trans hfn)).symm
  refine ⟨by kernel_rfl, fun j t ht => ?_⟩
  rw [Tryd.params9] at ht
  have hm : t ∈ [9, 9, 9] := by simpa using Array.mem_of_getElem? ht
  have hall : ([9, 9, 9].all fun u => !Tryd.prog.wantsStandIn u) = true := by kernel_rfl
  exact (show Tryd.prog.wantsStandIn t = false by simpa using List.all_eq_true.1 hall t hm)

theorem proved : Rows.PolicyStarsCardSaid :=
  Claim7.holds_tied_plain_at .later [] _ _ _ _ said (fun _ h => by cases h) (by kernel_rfl) (fun _ h => by cases h) policyStars_row_tie rfl ⟨rfl, rfl⟩ (by kernel_rfl) rfl plain (by kernel_rfl)
#print axioms proved
end Go.Proofs.YtedglieadejejaaDoor.policyStars
