/-
  What right answers.
-/
import Derived.Test.YtlkpofhfkhdheaaGreatDoorFormOf
import Derived.Test.YtlkpofhfkhdheaaGreatDoorShelf
import Derived.Test.YtlkpofhfkhdheaaGreatDoorRefRight
namespace Go.Proofs.YtlkpofhfkhdheaaGreatDoor
open Go.RowKit Ru

theorem contains_any (s : ByteArray) (w : World) : Calls Tryz.prog 39 #[.string s, .string ⟨#[32]⟩] w fun e w' => e = .returned (.bool (blankF s)) ∧ w = w' :=
  (Sh.strings_Contains_one s 32 w).mono fun _ _ ⟨h1, h2⟩ => ⟨h1, h2.symm⟩

set_option maxHeartbeats 2000000 in
theorem right_any (r : RuleD) (w : World) (hr : r.Wf) :
    Calls Tryz.prog 22 #[ruleVal r] w (BoolIs w (ruleOk r)) := by
  have Hb := hid_ (fun W => bounds_any r.what W)
  have Hf := hid_ (fun W => form_any r.what W)
  have Hn := hid_ (fun W => name_any r.text W hr.text)
  have Hc := hid_ (fun W => contains_any r.text W)
  have Hlow := hid_ (rule_low (r := r))
  have Hhigh := hid_ (rule_high (r := r))
  have Hmid := hid_ (rule_mid (r := r))
  have hfs := form_lt (whatF r.what)
  have hn := hr.num
  clear hr
  obtain ⟨kp, wh, nm, tx⟩ := r
  simp only at hfs hn Hb Hf Hn Hc Hlow Hhigh Hmid
  generalize ruleOk _ = ok at *
  generalize loN (whatF wh) = lo at *
  generalize hiN (whatF wh) = hi at *
  generalize formN (whatF wh) = fm at *
  have a0 := (Below.refl w.heap.size w).alloc (Nat.le_refl _) (.cells #[.bool kp, .string wh, .int .u64 (nm : Nat), .string tx] 49)
  have Ha := hid_ a0
  clear a0
  by_cases h1 : nm < lo
  · have Hk := hid_ (Hlow.out h1)
    have e1 : decide (nm < lo) = true := decide_eq_true h1
    clear h1
    go_enter Tryz.func22, Tryz.ntmps22
    go_wp2_with (go_at_call 37; (with_reducible refine Calls.mono (Hb.out _) ?_); rintro e w' ⟨rfl, rfl⟩)
    go_ret
    exact boolIs_mk Hk.out Ha.out
  have e1 : decide (nm < lo) = false := decide_eq_false h1
  by_cases h2 : hi < nm
  · have Hk := hid_ (Hhigh.out h2)
    have e2 : decide (hi < nm) = true := decide_eq_true h2
    clear h1 h2
    go_enter Tryz.func22, Tryz.ntmps22
    go_wp2_with (go_at_call 37; (with_reducible refine Calls.mono (Hb.out _) ?_); rintro e w' ⟨rfl, rfl⟩)
    go_ret
    exact boolIs_mk Hk.out Ha.out
  have e2 : decide (hi < nm) = false := decide_eq_false h2
  have Hk := hid_ (Hmid.out (by omega) (by omega))
  clear h1 h2
  rcases hfs with rfl | rfl | rfl | rfl
  · go_enter Tryz.func22, Tryz.ntmps22
    go_wp2_with (first | (go_at_call 37; (with_reducible refine Calls.mono (Hb.out _) ?_); rintro e w' ⟨rfl, rfl⟩) | (go_at_call 31; (with_reducible refine Calls.mono (Hf.out _) ?_); rintro e w' ⟨rfl, rfl⟩))
    go_ret
    exact boolIs_mk Hk.out Ha.out
  · go_enter Tryz.func22, Tryz.ntmps22
    go_wp2_with (first | (go_at_call 37; (with_reducible refine Calls.mono (Hb.out _) ?_); rintro e w' ⟨rfl, rfl⟩) | (go_at_call 31; (with_reducible refine Calls.mono (Hf.out _) ?_); rintro e w' ⟨rfl, rfl⟩))
    go_ret
    exact boolIs_mk Hk.out Ha.out
  · go_enter Tryz.func22, Tryz.ntmps22
    go_wp2_with (first | (go_at_call 37; (with_reducible refine Calls.mono (Hb.out _) ?_); rintro e w' ⟨rfl, rfl⟩) | (go_at_call 31; (with_reducible refine Calls.mono (Hf.out _) ?_); rintro e w' ⟨rfl, rfl⟩))
    go_ret
    exact boolIs_mk Hk.out Ha.out
  · have Hk3 := hid_ (show ok = (nameOk tx && !blankF tx) by rw [Hk.out]; rfl)
    cases hno : nameOk tx
    · have Hk4 := hid_ (show ok = false by rw [Hk3.out, hno]; rfl)
      have Hkd := hid_ (kind_bad hno)
      clear hno
      go_enter Tryz.func22, Tryz.ntmps22
      go_wp2_with (first | (go_at_call 37; (with_reducible refine Calls.mono (Hb.out _) ?_); rintro e w' ⟨rfl, rfl⟩) | (go_at_call 31; (with_reducible refine Calls.mono (Hf.out _) ?_); rintro e w' ⟨rfl, rfl⟩))
      refine (Hn.out _).mono ?_
      rintro e w1 ⟨rfl, hb1⟩
      rw [Hkd.out]
      have Hb1 := hid_ (Ha.out.trans (hb1.mono Ha.out.size))
      clear hb1
      go_wp2_with fail
      go_ret
      exact boolIs_mk Hk4.out Hb1.out
    · have Hk4 := hid_ (show ok = !blankF tx by rw [Hk3.out, hno]; rfl)
      have Hkd := hid_ (kind_good hno)
      clear hno
      generalize blankF tx = bl at *
      go_enter Tryz.func22, Tryz.ntmps22
      go_wp2_with (first | (go_at_call 37; (with_reducible refine Calls.mono (Hb.out _) ?_); rintro e w' ⟨rfl, rfl⟩) | (go_at_call 31; (with_reducible refine Calls.mono (Hf.out _) ?_); rintro e w' ⟨rfl, rfl⟩))
      refine (Hn.out _).mono ?_
      rintro e w1 ⟨rfl, hb1⟩
      rw [Hkd.out]
      have hz : w.heap.size < w1.heap.size := by have := hb1.size; simp at this; omega
      obtain ⟨hc, hf⟩ := bcell hb1
      have Hb1 := hid_ (Ha.out.trans (hb1.mono Ha.out.size))
      clear hb1 hf
      go_wp2_with (go_at_call 39; (with_reducible refine Calls.mono (Hc.out _) ?_); rintro e w' ⟨rfl, rfl⟩)
      go_ret
      exact boolIs_mk Hk4.out Hb1.out
end Go.Proofs.YtlkpofhfkhdheaaGreatDoor
