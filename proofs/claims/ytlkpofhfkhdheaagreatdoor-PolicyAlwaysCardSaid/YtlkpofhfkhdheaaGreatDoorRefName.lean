/-
  What the reference's Runes and Name answer.
-/
import Derived.Test.YtlkpofhfkhdheaaGreatDoorCells
import Derived.Test.YtlkpofhfkhdheaaGreatDoorRefRune
import Derived.Test.YtlkpofhfkhdheaaGreatDoorSpanMath
namespace Go.Proofs.YtlkpofhfkhdheaaGreatDoor
open Go.RowKit Ru

def runeVals (rs : List Nat) : List Value := rs.map fun r => .int .i32 (r : Nat)
theorem info_i32 : (Tryz.prog.info? 21).map (fun i => (i.zero, i.size, i.bytes)) = some (some (.int .i32 0), 1, 4) := by kernel_rfl

def RunesPost (w : World) (s : ByteArray) (e : Ending) (w' : World) : Prop :=
  ∃ A n c, e = .returned (.tuple #[.slice A n c, .bool (runesOf s 0).isSome]) ∧ Row w' A n c (runeVals ((runesOf s 0).getD [])) ∧ Below w.heap.size w w'
theorem runesPost_none {w w' : World} {s : ByteArray} (h : runesOf s 0 = none) (hb : Below w.heap.size w w') : RunesPost w s (.returned (.tuple #[.slice none 0 0, .bool false])) w' :=
  ⟨none, 0, 0, by rw [h]; rfl, by rw [h]; exact Row.none _, hb⟩
theorem runesPost_some {w w' : World} {s : ByteArray} {rs : List Nat} {A : Option Addr} {n c : Nat} (h : runesOf s 0 = some rs) (hr : Row w' A n c (runeVals rs)) (hb : Below w.heap.size w w') :
    RunesPost w s (.returned (.tuple #[.slice A n c, .bool true])) w' := ⟨A, n, c, by rw [h]; rfl, by rw [h]; exact hr, hb⟩

theorem cut_string (s : ByteArray) (i n : Nat) : (s.extract i s.size).extract n (s.extract i s.size).size = s.extract (i + n) s.size := by
  rw [size_from, ByteArray.extract_extract]
  congr 1
  omega

set_option maxHeartbeats 1000000 in
theorem refrunes_any (s : ByteArray) (w : World) (hs : s.size ≤ 35184372088832) :
    Calls Tryz.prog 54 #[.string s] w (RunesPost w s) := by
  go_enter Tryz.func54, Tryz.ntmps54
  go_wp2
  go_loopw [0, 4, 5, 6] (fun v o _ _ wr => ∃ i rs A c, v = .string (s.extract i s.size) ∧ o = .slice A (rs : List Nat).length c ∧ OwnV 21 w.heap.size wr A rs.length c (runeVals rs) ∧ RunesAt s rs i ∧ Below w.heap.size w wr)
    (fun v _ _ _ _ => match v with | .string t => t.size | _ => 0)
  case atStart => exact ⟨0, [], none, 0, by rw [show s.extract 0 s.size = s by simp], rfl, OwnV.none _ _ _, runesAt_zero s, Below.refl _ _⟩
  case round =>
    obtain ⟨i, rs, A, c, rfl, rfl, ho, hat, hb⟩ := hrel
    have Ho := hid_ ho
    have Hat := hid_ hat
    have Hb := hid_ hb
    have hi := hat.1
    have hrl := hat.2.1
    clear ho hat hb
    have hz := size_from s i
    have Hz := hid_ hz
    generalize ht : s.extract i s.size = t at *
    have Ht := hid_ ht
    clear ht
    by_cases hlt : i < s.size
    · have hts : 0 < t.size := by omega
      have Hc := hid_ (refrune_any t wr (by omega))
      have Hra := hid_ (show runeAt s i = runeF t by unfold runeAt; rw [Ht.out])
      have hw := runeAt_width s i
      rw [Hra.out] at hw
      by_cases hk : (runeF t).2 = 0
      · have Hend := hid_ (runesAt_bad Hat.out hlt (by rw [Hra.out]; exact hk))
        have hkb : (((runeF t).2 : Int) == 0) = true := by rw [hk]; rfl
        have Hk := hid_ hk
        clear hk hz hw
        go_wp2_with fail
        refine Hc.out.mono ?_
        rintro e w' ⟨rfl, rfl⟩
        go_wp2_with fail
        go_ret2
        exact runesPost_none Hend.out Hb.out
      · have Hst := hid_ (runesAt_step Hat.out hlt (by rw [Hra.out]; exact hk))
        have hkb : (((runeF t).2 : Int) == 0) = false := by rw [beq_eq_false_iff_ne]; omega
        have hle : (runeF t).2 ≤ t.size := by omega
        have hpos : 0 < (runeF t).2 := by omega
        have Hcut := hid_ (cut_string s i (runeF t).2)
        clear hk hz hw
        generalize hr : (runeF t).1 = r
        generalize hm : (runeF t).2 = m at hkb hle hpos
        have Hr := hid_ hr
        have Hm := hid_ hm
        clear hr hm
        go_wp2_with fail
        refine Hc.out.mono ?_
        rintro e w' ⟨rfl, rfl⟩
        rw [Hr.out, Hm.out]
        go_wp2_with (at_builtin; refine wpList_one rfl (.tmp 17) (.tmp 19) 96 21 rfl (.int .i32 0) 4 Tryz.underlying96 info_i32 rfl w.heap.size A rs.length c _ rfl (Ho.out.later ((Below.refl _ _).alloc (Nat.le_refl _) _)) wr.heap.size _ rfl (at_new _ _ _) rfl (rs.length + 1) (runeVals (rs ++ [r])) rfl (by simp [runeVals]) (by omega) (by omega) (by have := Hb.out.size; simp; omega) ?_; intro A4 c4 w4 ho' hb' hg' hat'; have Ho4 := hid_ ho'; have Hb4 := hid_ ((Hb.out.alloc Hb.out.size _).trans hb'); clear ho' hb' hg' hat')
        go_roundw
        case rel =>
          refine ⟨i + m, rs ++ [r], A4, c4, ?_, ?_, ?_, ?_, Hb4.out⟩
          · have h := Hcut.out
            rw [Ht.out, Hm.out] at h
            rw [h]
          · rw [List.length_append]; rfl
          · rw [List.length_append]; exact Ho4.out
          · have h := Hst.out
            rw [Hra.out, Hr.out, Hm.out] at h
            exact h
        case measure =>
          show (t.extract m t.size).size < t.size
          rw [size_from]
          omega
    · have Hend := hid_ (runesAt_end Hat.out (by omega))
      have htz : t.size = 0 := by omega
      have hgt : decide ((0 : Int) < (t.size : Int)) = false := decide_eq_false (by omega)
      clear hz
      go_wp2
      go_ret2
      exact runesPost_some Hend.out Ho.out.row Hb.out
def KindIs (w : World) (k : Int) (e : Ending) (w' : World) : Prop := e = .returned (.int .i64 k) ∧ Below w.heap.size w w'
theorem kindIs_mk {w w' : World} {k k' : Int} (h : k = k') (hb : Below w.heap.size w w') : KindIs w k (.returned (.int .i64 k')) w' := ⟨by rw [h], hb⟩
set_option maxHeartbeats 1000000 in
theorem refname_any (s : ByteArray) (w : World) (hs : s.size ≤ 9223372036854775807) :
    Calls Tryz.prog 40 #[.string s] w (KindIs w (nameKind s)) := by
  by_cases h1 : s.size < 1
  · have Hk := hid_ (kind_bad (name_size (.inl h1)))
    have e1 : decide ((s.size : Int) < 1) = true := decide_eq_true (by omega)
    clear h1
    go_enter Tryz.func40, Tryz.ntmps40
    go_wp2
    go_ret
    exact kindIs_mk Hk.out (Below.refl _ _)
  have e1 : decide ((s.size : Int) < 1) = false := decide_eq_false (by omega)
  by_cases h2 : 32 < s.size
  · have Hk := hid_ (kind_bad (name_size (.inr h2)))
    have e2 : decide ((32 : Int) < (s.size : Int)) = true := decide_eq_true (by omega)
    go_enter Tryz.func40, Tryz.ntmps40
    go_wp2
    go_ret
    exact kindIs_mk Hk.out (Below.refl _ _)
  have e2 : decide ((32 : Int) < (s.size : Int)) = false := decide_eq_false (by omega)
  have Hc := hid_ (refrunes_any s w (by omega))
  cases hr : runesOf s 0 with
  | none =>
    have Hk := hid_ (kind_bad (name_none hr))
    have Hr := hid_ hr
    clear hr
    go_enter Tryz.func40, Tryz.ntmps40
    go_wp2_with fail
    refine Hc.out.mono ?_
    rintro e w1 ⟨A, n, c, rfl, hrow, hb⟩
    rw [Hr.out] at hrow ⊢
    obtain rfl : n = 0 := by rw [← hrow.len]; rfl
    have Hb := hid_ hb
    clear hrow hb
    go_wp2_with fail
    go_loop [5] (fun vi => vi = .int .i64 0) (fun _ => 0)
    case atStart => rfl
    case round =>
      subst hrel
      go_wp2_with fail
      go_ret
      exact kindIs_mk Hk.out Hb.out
  | some rs =>
    have Hr := hid_ hr
    clear hr
    go_enter Tryz.func40, Tryz.ntmps40
    go_wp2_with fail
    refine Hc.out.mono ?_
    rintro e w1 ⟨A, n, c, rfl, hrow, hb⟩
    rw [Hr.out] at hrow ⊢
    have hrow' : Row w1 A n c (runeVals rs) := hrow
    obtain rfl : n = rs.length := by rw [← hrow'.len]; simp [runeVals]
    have hle := hrow'.le
    have Hb := hid_ hb
    have Hrow := hid_ hrow'
    clear hrow hrow' hb
    go_wp2_with fail
    go_loop [5] (fun vi => ∃ k : Nat, k ≤ rs.length ∧ vi = .int .i64 k ∧ Hid (∀ j (hj : j < rs.length), j < k → badRune rs[j] = false)) (fun vi => rs.length - (intOf vi).toNat)
    case atStart => exact ⟨0, by omega, rfl, hid_ (by intro j _ h; omega)⟩
    case round =>
      obtain ⟨k, hk, rfl, Hg⟩ := hrel
      by_cases hlt : k < rs.length
      · obtain ⟨b, off, rfl, hc⟩ := Hrow.out.at_ (k := k) (by simpa [runeVals] using hlt)
        have hcell : w1.cell? ⟨b, off + k, .none⟩ = some (.int .i32 (rs[k] : Nat)) := by rw [hc]; simp [runeVals]
        clear hc
        cases hbr : badRune rs[k]
        · have Hg2 := hid_ (show ∀ j (hj : j < rs.length), j < k + 1 → badRune rs[j] = false by
            intro j hj h
            by_cases e : j = k
            · subst e; exact hbr
            · exact Hg.out j hj (by omega))
          have hb2 : 32 ≤ rs[k] ∧ (rs[k] < 127 ∨ 159 < rs[k]) := by
            unfold badRune at hbr
            simp at hbr
            omega
          obtain ⟨g1, g2⟩ := hb2
          clear hbr
          generalize rs[k] = r at *
          rcases g2 with g2 | g2
          · go_wp2_with fail
            go_round
            case rel => exact ⟨k + 1, by omega, by go_num, Hg2⟩
            case measure => simp [intOf]; omega
          · have g3 : 127 ≤ r := by omega
            go_wp2_with fail
            go_round
            case rel => exact ⟨k + 1, by omega, by go_num, Hg2⟩
            case measure => simp [intOf]; omega
        · have Hk := hid_ (kind_bad (name_bad Hr.out hlt hbr))
          have hb2 : rs[k] < 32 ∨ (32 ≤ rs[k] ∧ 127 ≤ rs[k] ∧ rs[k] ≤ 159) := by
            unfold badRune at hbr
            simp at hbr
            omega
          clear hbr
          generalize rs[k] = r at *
          rcases hb2 with g1 | ⟨g0, g1, g2⟩
          all_goals
            go_wp2_with fail
            go_ret
            exact kindIs_mk Hk.out Hb.out
      · have Hk := hid_ (kind_good (name_good Hr.out (by omega) (by omega) (fun j hj => Hg.out j hj (by omega))))
        obtain rfl : k = rs.length := by omega
        go_wp2_with fail
        go_ret
        exact kindIs_mk Hk.out Hb.out
end Go.Proofs.YtlkpofhfkhdheaaGreatDoor
