/-
  What the reference's blank and One answer.
-/
import Derived.Test.YtlkpofhfkhdheaaGreatDoorFormOf
import Derived.Test.YtlkpofhfkhdheaaGreatDoorRefRight
import Derived.Test.YtlkpofhfkhdheaaGreatDoorRuleRow
namespace Go.Proofs.YtlkpofhfkhdheaaGreatDoor
open Go.RowKit Ru

theorem blank_yes {s : ByteArray} {k : Nat} (hk : k < s.size) (h : s[k] = 32) : blankF s = true := by
  unfold blankF
  refine decide_eq_true ?_
  have hge := Lib.indexByte_ge s.data.toList 32
  rcases (show Lib.indexByte s.data.toList 32 = -1 ∨ 0 ≤ Lib.indexByte s.data.toList 32 by omega) with e | e
  · refine absurd ?_ (Lib.indexByte_none e k)
    have hk' : k < s.data.toList.length := by simpa using hk
    rw [List.getElem?_eq_getElem hk']
    exact congrArg some h
  · exact e
theorem blank_no {s : ByteArray} (h : ∀ k (hk : k < s.size), s[k] ≠ 32) : blankF s = false := by
  unfold blankF
  refine decide_eq_false fun e => ?_
  obtain ⟨o, ho⟩ := Int.eq_ofNat_of_zero_le e
  have h1 := (Lib.indexByte_some ho).1
  obtain ⟨hl, h2⟩ := List.getElem?_eq_some_iff.1 h1
  exact h o (by simpa using hl) h2
theorem ret_bool {a b : Bool} (h : a = b) : Ending.returned (.bool b) = .returned (.bool a) := by rw [h]
theorem byte_nat {c : UInt8} : (c.toNat = 32) ↔ c = 32 := by
  rw [← UInt8.toNat_inj]
  rfl
set_option maxHeartbeats 1000000 in
theorem refblank_any (s : ByteArray) (w : World) (hs : s.size ≤ 9223372036854775807) :
    Calls Tryz.prog 41 #[.string s] w fun e w' => e = .returned (.bool (blankF s)) ∧ w = w' := by
  go_enter Tryz.func41, Tryz.ntmps41
  go_wp2_with fail
  go_loop [3] (fun vi => ∃ k : Nat, k ≤ s.size ∧ vi = .int .i64 (k : Nat) ∧ Hid (∀ j (hj : j < s.size), j < k → s[j] ≠ 32)) (fun vi => s.size - (intOf vi).toNat)
  case atStart => exact ⟨0, Nat.zero_le _, rfl, hid_ (fun j _ h => absurd h (by omega))⟩
  case round =>
    obtain ⟨k, hk, rfl, Hg⟩ := hrel
    by_cases hlt : k < s.size
    · by_cases hc : s[k] = 32
      · have Hf := hid_ (blank_yes hlt hc)
        have e1 : (((s[k].toNat : Nat) : Int) == 32) = true := by rw [hc]; rfl
        clear hc
        go_wp2_with fail
        go_ret
        exact ⟨ret_bool Hf.out, rfl⟩
      · have e1 : (((s[k].toNat : Nat) : Int) == 32) = false := by
          rw [beq_eq_false_iff_ne]
          intro e
          exact hc (byte_nat.1 (by omega))
        have Hg2 := hid_ (show ∀ j (hj : j < s.size), j < k + 1 → s[j] ≠ 32 from fun j hj h => by
          by_cases e : j = k
          · subst e; exact hc
          · exact Hg.out j hj (by omega))
        clear hc
        go_wp2_with fail
        go_round
        case rel => exact ⟨k + 1, by omega, by go_num, Hg2⟩
        case measure => simp [intOf] <;> omega
    · have Hf := hid_ (blank_no fun j hj => Hg.out j hj (by omega))
      go_wp2_with fail
      go_ret
      exact ⟨ret_bool Hf.out, rfl⟩

set_option maxRecDepth 20000 in
set_option maxHeartbeats 2000000 in
theorem refone_any (r : RuleD) (w : World) (hr : r.Wf) :
    Calls Tryz.prog 23 #[ruleVal r] w (BoolIs w (ruleOk r)) := by
  have Hn := hid_ (fun W => refname_any r.text W hr.text)
  have Hc := hid_ (fun W => refblank_any r.text W hr.text)
  have Hlow := hid_ (rule_low (r := r))
  have Hhigh := hid_ (rule_high (r := r))
  have Hmid := hid_ (rule_mid (r := r))
  have hnm := hr.num
  clear hr
  obtain ⟨kp, wh, nm, tx⟩ := r
  simp only at hnm Hn Hc Hlow Hhigh Hmid
  generalize ruleOk _ = ok at *
  have Ha := hid_ ((Below.refl w.heap.size w).alloc (Nat.le_refl _) (.cells #[.bool kp, .string wh, .int .u64 (nm : Nat), .string tx] 38))
  cases hw : whatF wh
  · obtain ⟨e1, e2, e3, e4, e5, e6, e7, e8⟩ := what_always hw
    rw [hw] at Hlow Hhigh Hmid
    clear hw
    by_cases hz : nm = 0
    · have Hk := hid_ (Hmid.out (by show 0 ≤ nm; omega) (by show nm ≤ 0; omega))
      have z1 : ((nm : Int) == 0) = true := by rw [beq_iff_eq]; omega
      clear hz
      have Hk2 := hid_ (show ok = tx.toList.isEmpty from Hk.out)
      go_enter Tryz.func23, Tryz.ntmps23
      go_wp2_with fail
      go_ret
      exact boolIs_mk Hk2.out Ha.out
    · have Hk := hid_ (Hhigh.out (by show 0 < nm; omega))
      have z1 : ((nm : Int) == 0) = false := by rw [beq_eq_false_iff_ne]; omega
      clear hz
      go_enter Tryz.func23, Tryz.ntmps23
      go_wp2_with fail
      go_ret
      exact boolIs_mk Hk.out Ha.out
  · obtain ⟨e1, e2, e3, e4, e5, e6, e7, e8⟩ := what_fail hw
    rw [hw] at Hlow Hhigh Hmid
    clear hw
    by_cases hz : nm = 0
    · have Hk := hid_ (Hmid.out (by show 0 ≤ nm; omega) (by show nm ≤ 0; omega))
      have z1 : ((nm : Int) == 0) = true := by rw [beq_iff_eq]; omega
      clear hz
      have Hk2 := hid_ (show ok = tx.toList.isEmpty from Hk.out)
      go_enter Tryz.func23, Tryz.ntmps23
      go_wp2_with fail
      go_ret
      exact boolIs_mk Hk2.out Ha.out
    · have Hk := hid_ (Hhigh.out (by show 0 < nm; omega))
      have z1 : ((nm : Int) == 0) = false := by rw [beq_eq_false_iff_ne]; omega
      clear hz
      go_enter Tryz.func23, Tryz.ntmps23
      go_wp2_with fail
      go_ret
      exact boolIs_mk Hk.out Ha.out
  · obtain ⟨e1, e2, e3, e4, e5, e6, e7, e8⟩ := what_root hw
    rw [hw] at Hlow Hhigh Hmid
    clear hw
    by_cases hz : nm = 0
    · have Hk := hid_ (Hmid.out (by show 0 ≤ nm; omega) (by show nm ≤ 0; omega))
      have z1 : ((nm : Int) == 0) = true := by rw [beq_iff_eq]; omega
      clear hz
      have Hk2 := hid_ (show ok = tx.toList.isEmpty from Hk.out)
      go_enter Tryz.func23, Tryz.ntmps23
      go_wp2_with fail
      go_ret
      exact boolIs_mk Hk2.out Ha.out
    · have Hk := hid_ (Hhigh.out (by show 0 < nm; omega))
      have z1 : ((nm : Int) == 0) = false := by rw [beq_eq_false_iff_ne]; omega
      clear hz
      go_enter Tryz.func23, Tryz.ntmps23
      go_wp2_with fail
      go_ret
      exact boolIs_mk Hk.out Ha.out
  · obtain ⟨e1, e2, e3, e4, e5, e6, e7, e8⟩ := what_slow hw
    rw [hw] at Hlow Hhigh Hmid
    clear hw
    by_cases hz : nm ≤ 1099511627776
    · have Hk := hid_ (Hmid.out (by show 0 ≤ nm; omega) hz)
      have z1 : decide ((nm : Int) ≤ 1099511627776) = true := decide_eq_true (by omega)
      clear hz
      have Hk2 := hid_ (show ok = tx.toList.isEmpty from Hk.out)
      go_enter Tryz.func23, Tryz.ntmps23
      go_wp2_with fail
      go_ret
      exact boolIs_mk Hk2.out Ha.out
    · have Hk := hid_ (Hhigh.out (by show 1099511627776 < nm; omega))
      have z1 : decide ((nm : Int) ≤ 1099511627776) = false := decide_eq_false (by omega)
      go_enter Tryz.func23, Tryz.ntmps23
      go_wp2_with fail
      go_ret
      exact boolIs_mk Hk.out Ha.out
  · obtain ⟨e1, e2, e3, e4, e5, e6, e7, e8⟩ := what_many hw
    rw [hw] at Hlow Hhigh Hmid
    clear hw
    by_cases hz0 : nm < 1
    · have Hk := hid_ (Hlow.out (by show nm < 1; omega))
      have z1 : decide ((1 : Int) ≤ (nm : Int)) = false := decide_eq_false (by omega)
      go_enter Tryz.func23, Tryz.ntmps23
      go_wp2_with fail
      go_ret
      exact boolIs_mk Hk.out Ha.out
    have z0 : decide ((1 : Int) ≤ (nm : Int)) = true := decide_eq_true (by omega)
    by_cases hz : nm ≤ 16
    · have Hk := hid_ (Hmid.out (by show 1 ≤ nm; omega) hz)
      have z1 : decide ((nm : Int) ≤ 16) = true := decide_eq_true (by omega)
      have Hk2 := hid_ (show ok = tx.toList.isEmpty from Hk.out)
      go_enter Tryz.func23, Tryz.ntmps23
      go_wp2_with fail
      go_ret
      exact boolIs_mk Hk2.out Ha.out
    · have Hk := hid_ (Hhigh.out (by show 16 < nm; omega))
      have z1 : decide ((nm : Int) ≤ 16) = false := decide_eq_false (by omega)
      go_enter Tryz.func23, Tryz.ntmps23
      go_wp2_with fail
      go_ret
      exact boolIs_mk Hk.out Ha.out
  · obtain ⟨e1, e2, e3, e4, e5, e6, e7, e8⟩ := what_hash hw
    rw [hw] at Hlow Hhigh Hmid
    clear hw
    by_cases hz : nm ≤ 1000
    · have Hk := hid_ (Hmid.out (by show 0 ≤ nm; omega) hz)
      have z1 : decide ((nm : Int) ≤ 1000) = true := decide_eq_true (by omega)
      clear hz
      have Hk2 := hid_ (show ok = tx.toList.isEmpty from Hk.out)
      go_enter Tryz.func23, Tryz.ntmps23
      go_wp2_with fail
      go_ret
      exact boolIs_mk Hk2.out Ha.out
    · have Hk := hid_ (Hhigh.out (by show 1000 < nm; omega))
      have z1 : decide ((nm : Int) ≤ 1000) = false := decide_eq_false (by omega)
      go_enter Tryz.func23, Tryz.ntmps23
      go_wp2_with fail
      go_ret
      exact boolIs_mk Hk.out Ha.out
  · obtain ⟨e1, e2, e3, e4, e5, e6, e7, e8⟩ := what_service hw
    rw [hw] at Hlow Hhigh Hmid
    clear hw
    by_cases hz : nm = 0
    · have Hk := hid_ (show ok = (nameOk tx && !blankF tx) from Hmid.out (by show 0 ≤ nm; omega) (by show nm ≤ 0; omega))
      have z1 : ((nm : Int) == 0) = true := by rw [beq_iff_eq]; omega
      clear hz
      cases hno : nameOk tx
      · have Hk4 := hid_ (show ok = false by rw [Hk.out, hno]; rfl)
        have Hkd := hid_ (kind_bad hno)
        clear hno
        go_enter Tryz.func23, Tryz.ntmps23
        go_wp2_with fail
        refine Calls.mono (Hn.out _) ?_
        rintro e w1 ⟨rfl, hb⟩
        rw [Hkd.out]
        go_wp2_with fail
        go_ret
        exact boolIs_mk Hk4.out (Ha.out.trans (hb.mono Ha.out.size))
      · have Hk4 := hid_ (show ok = !blankF tx by rw [Hk.out, hno]; rfl)
        have Hkd := hid_ (kind_good hno)
        clear hno
        generalize blankF tx = bl at *
        go_enter Tryz.func23, Tryz.ntmps23
        go_wp2_with fail
        refine Calls.mono (Hn.out _) ?_
        rintro e w1 ⟨rfl, hb⟩
        rw [Hkd.out]
        have Hb := hid_ (Ha.out.trans (hb.mono Ha.out.size))
        obtain ⟨hcc, _⟩ := bcell hb
        have hzz : w.heap.size < w1.heap.size := by have := hb.size; simp at this; omega
        clear hb
        go_wp2_with fail
        refine Calls.mono (Hc.out _) ?_
        rintro e w2 ⟨rfl, rfl⟩
        go_wp2_with fail
        go_ret
        exact boolIs_mk Hk4.out Hb.out
    · have Hk := hid_ (Hhigh.out (by show 0 < nm; omega))
      have z1 : ((nm : Int) == 0) = false := by rw [beq_eq_false_iff_ne]; omega
      clear hz
      go_enter Tryz.func23, Tryz.ntmps23
      go_wp2_with fail
      go_ret
      exact boolIs_mk Hk.out Ha.out
  · obtain ⟨e1, e2, e3, e4, e5, e6, e7, e8⟩ := what_name hw
    rw [hw] at Hlow Hhigh Hmid
    clear hw
    by_cases hz : nm = 0
    · have Hk := hid_ (show ok = (nameOk tx && !blankF tx) from Hmid.out (by show 0 ≤ nm; omega) (by show nm ≤ 0; omega))
      have z1 : ((nm : Int) == 0) = true := by rw [beq_iff_eq]; omega
      clear hz
      cases hno : nameOk tx
      · have Hk4 := hid_ (show ok = false by rw [Hk.out, hno]; rfl)
        have Hkd := hid_ (kind_bad hno)
        clear hno
        go_enter Tryz.func23, Tryz.ntmps23
        go_wp2_with fail
        refine Calls.mono (Hn.out _) ?_
        rintro e w1 ⟨rfl, hb⟩
        rw [Hkd.out]
        go_wp2_with fail
        go_ret
        exact boolIs_mk Hk4.out (Ha.out.trans (hb.mono Ha.out.size))
      · have Hk4 := hid_ (show ok = !blankF tx by rw [Hk.out, hno]; rfl)
        have Hkd := hid_ (kind_good hno)
        clear hno
        generalize blankF tx = bl at *
        go_enter Tryz.func23, Tryz.ntmps23
        go_wp2_with fail
        refine Calls.mono (Hn.out _) ?_
        rintro e w1 ⟨rfl, hb⟩
        rw [Hkd.out]
        have Hb := hid_ (Ha.out.trans (hb.mono Ha.out.size))
        obtain ⟨hcc, _⟩ := bcell hb
        have hzz : w.heap.size < w1.heap.size := by have := hb.size; simp at this; omega
        clear hb
        go_wp2_with fail
        refine Calls.mono (Hc.out _) ?_
        rintro e w2 ⟨rfl, rfl⟩
        go_wp2_with fail
        go_ret
        exact boolIs_mk Hk4.out Hb.out
    · have Hk := hid_ (Hhigh.out (by show 0 < nm; omega))
      have z1 : ((nm : Int) == 0) = false := by rw [beq_eq_false_iff_ne]; omega
      clear hz
      go_enter Tryz.func23, Tryz.ntmps23
      go_wp2_with fail
      go_ret
      exact boolIs_mk Hk.out Ha.out
  · obtain ⟨e1, e2, e3, e4, e5, e6, e7, e8⟩ := what_other hw
    rw [hw] at Hlow Hhigh Hmid
    clear hw
    have Hk : Hid (ok = false) := by
      by_cases hz : nm ≤ 0
      · exact Hmid.out (by show 0 ≤ nm; omega) hz
      · exact Hhigh.out (by show 0 < nm; omega)
    go_enter Tryz.func23, Tryz.ntmps23
    go_wp2_with fail
    go_ret
    exact boolIs_mk Hk.out Ha.out
end Go.Proofs.YtlkpofhfkhdheaaGreatDoor
