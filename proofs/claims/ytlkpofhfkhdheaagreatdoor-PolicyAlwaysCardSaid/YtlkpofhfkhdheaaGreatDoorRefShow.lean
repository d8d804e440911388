/-
  What the reference's Digits, Line and Show answer.
-/
import Derived.Test.YtlkpofhfkhdheaaGreatDoorShowAll
import Derived.Test.YtlkpofhfkhdheaaGreatDoorStr
namespace Go.Proofs.YtlkpofhfkhdheaaGreatDoor
open Go.RowKit Ru

theorem ba_empty (a : ByteArray) : ⟨#[]⟩ ++ a = a := by
  apply ba_ext
  rw [ba_append]
  rfl
theorem digits_small {n : Nat} (h : n < 10) : digitsS n = ⟨#[UInt8.ofNat (48 + n)]⟩ := by
  unfold digitsS
  rw [Lib.decDigits, dif_pos h]
theorem digits_step {n : Nat} (h : ¬ n < 10) : digitsS n = digitsS (n / 10) ++ ⟨#[UInt8.ofNat (48 + n % 10)]⟩ := by
  apply ba_ext
  rw [ba_append]
  unfold digitsS
  show Lib.decDigits n = Lib.decDigits (n / 10) ++ [UInt8.ofNat (48 + n % 10)]
  rw [Lib.decDigits, dif_neg h]
/-- string([]byte{c}) -/
theorem one_string (w : World) (b : Nat) (k : Int) (x : UInt8) (hc : w.cell? ⟨b, 0, none⟩ = some (.int .u8 k)) (hx : k = (x.toNat : Int)) :
    (convert 70 9 (.slice (some ⟨b, 0, none⟩) 1 1)).run Tryz.prog w = .ok (.string ⟨#[x]⟩) w := by
  have h : Sl w (some ⟨b, 0, none⟩) 1 1 [x] := ⟨fun _ => ⟨b, 0, rfl, fun j u hu => by
    rcases j with _ | j
    · cases hu; rw [Nat.add_zero, hc, hx]; rfl
    · simp [bytes] at hu⟩, rfl, Nat.le_refl _, by omega, fun e => by cases e⟩
  exact sl_string h
theorem ofNat_digit (n : Nat) : 48 + (n : Int) % 10 = ((UInt8.ofNat (48 + n % 10)).toNat : Int) := by
  rw [UInt8.toNat_ofNat']
  omega
set_option maxRecDepth 20000 in
set_option maxHeartbeats 2000000 in
theorem refdigits_any (n : Nat) (hn : n ≤ 1099511627776) (w : World) :
    Calls Tryz.prog 36 #[.int .u64 (n : Nat)] w (StrIs w (digitsS n)) := by
  induction n using Nat.strongRecOn generalizing w with
  | _ n ih =>
    have x0 : (0 : Int) ≤ (n : Int) := by omega
    have x1 : (n : Int) ≤ 1099511627776 := by omega
    by_cases h : n < 10
    · have e1 : decide (n < 10) = true := decide_eq_true h
      go_enter Tryz.func36, Tryz.ntmps36
      go_wp2_with fail
      rw [one_string _ _ _ (UInt8.ofNat (48 + n % 10)) (at_new _ _ _) (ofNat_digit n)]
      have Hd := hid_ (show digitsS n = ⟨#[UInt8.ofNat (48 + n % 10)]⟩ by rw [digits_small h, Nat.mod_eq_of_lt h])
      generalize (⟨#[UInt8.ofNat (48 + n % 10)]⟩ : ByteArray) = x at *
      go_wp2_with fail
      go_ret
      exact strIs_mk Hd.out ((Below.refl _ _).alloc (Nat.le_refl _) _)
    · have e1 : decide (n < 10) = false := decide_eq_false h
      have Hih := hid_ (fun W => ih (n / 10) (by omega) (by omega) W)
      have hsz := digits_size (n / 10) (by omega)
      have Hst := hid_ (digits_step h)
      have hq : ((n / 10 : Nat) : Int) = (n : Int) / 10 := by omega
      rw [hq] at Hih
      clear ih hq
      generalize digitsS (n / 10) = dg at *
      go_enter Tryz.func36, Tryz.ntmps36
      go_wp2_with fail
      rw [one_string _ _ _ (UInt8.ofNat (48 + n % 10)) (at_new _ _ _) (ofNat_digit n)]
      have Ha := hid_ (show Below w.heap.size w (w.alloc (.cells #[.int .u8 (48 + (n : Int) % 10)] 5)) from (Below.refl _ _).alloc (Nat.le_refl _) _)
      have h1 : (⟨#[UInt8.ofNat (48 + n % 10)]⟩ : ByteArray).size = 1 := rfl
      generalize (⟨#[UInt8.ofNat (48 + n % 10)]⟩ : ByteArray) = x at *
      go_wp2_with fail
      refine Calls.mono (Hih.out _) ?_
      rintro e w1 ⟨rfl, hb1⟩
      have Hb1 := hid_ (Ha.out.trans (hb1.mono Ha.out.size))
      clear hb1
      go_wp2_with fail
      go_ret
      exact strIs_mk Hst.out Hb1.out

theorem lineN_2 {r : RuleD} (h : formN (whatF r.what) = 2) : lineS r = verbS r.keep ++ r.what ++ ⟨#[32]⟩ ++ digitsS r.num := by
  unfold lineS lineN
  rw [h, if_pos rfl]
  apply ba_ext
  simp only [ba_append, List.append_assoc]
theorem lineN_3 {r : RuleD} (h : formN (whatF r.what) = 3) : lineS r = verbS r.keep ++ r.what ++ ⟨#[32]⟩ ++ r.text := by
  unfold lineS lineN
  rw [h, if_neg (by decide), if_pos rfl]
  apply ba_ext
  simp only [ba_append, List.append_assoc]
theorem lineN_0 {r : RuleD} (h : formN (whatF r.what) = 0 ∨ formN (whatF r.what) = 1) : lineS r = verbS r.keep ++ r.what := by
  unfold lineS lineN
  rcases h with h | h
  · rw [h, if_neg (by decide), if_neg (by decide)]
  · rw [h, if_neg (by decide), if_neg (by decide)]
set_option maxRecDepth 20000 in
set_option maxHeartbeats 4000000 in
theorem refline_any (r : RuleD) (w : World) (h1 : r.what.size ≤ 200) (h2 : r.text.size ≤ 200) (h3 : r.num ≤ 1099511627776) :
    Calls Tryz.prog 19 #[ruleVal r] w (StrIs w (lineS r)) := by
  have Hd := hid_ (fun W => refdigits_any r.num h3 W)
  have hds := digits_size r.num (by omega)
  have H0 := hid_ (lineN_0 (r := r))
  have H2 := hid_ (lineN_2 (r := r))
  have H3 := hid_ (lineN_3 (r := r))
  clear h3
  obtain ⟨kp, wh, nm, tx⟩ := r
  simp only at h1 h2 Hd hds H0 H2 H3
  generalize lineS _ = ln at *
  generalize hdg : digitsS nm = dg at *
  clear hdg
  have Ha := hid_ ((Below.refl w.heap.size w).alloc (Nat.le_refl _) (.cells #[.bool kp, .string wh, .int .u64 (nm : Nat), .string tx] 38))
  cases hw : whatF wh
  · obtain ⟨e1, e2, e3, e4, e5, e6, e7, e8⟩ := what_always hw
    have Hk := hid_ (H0.out (by rw [hw]; decide))
    clear hw H0 H2 H3
    cases kp
    all_goals
      go_enter Tryz.func19, Tryz.ntmps19
      go_wp2_with fail
      go_ret
      exact strIs_mk Hk.out Ha.out
  · obtain ⟨e1, e2, e3, e4, e5, e6, e7, e8⟩ := what_fail hw
    have Hk := hid_ (H0.out (by rw [hw]; decide))
    clear hw H0 H2 H3
    cases kp
    all_goals
      go_enter Tryz.func19, Tryz.ntmps19
      go_wp2_with fail
      go_ret
      exact strIs_mk Hk.out Ha.out
  · obtain ⟨e1, e2, e3, e4, e5, e6, e7, e8⟩ := what_root hw
    have Hk := hid_ (H0.out (by rw [hw]; decide))
    clear hw H0 H2 H3
    cases kp
    all_goals
      go_enter Tryz.func19, Tryz.ntmps19
      go_wp2_with fail
      go_ret
      exact strIs_mk Hk.out Ha.out
  · obtain ⟨e1, e2, e3, e4, e5, e6, e7, e8⟩ := what_slow hw
    have Hk := hid_ (H2.out (by rw [hw]; decide))
    clear hw H0 H2 H3
    cases kp
    all_goals
      go_enter Tryz.func19, Tryz.ntmps19
      go_wp2_with fail
      refine Calls.mono (Hd.out _) ?_
      rintro e w1 ⟨rfl, hb1⟩
      have Hb1 := hid_ (Ha.out.trans (hb1.mono Ha.out.size))
      clear hb1
      go_wp2_with fail
      go_ret
      exact strIs_mk Hk.out Hb1.out
  · obtain ⟨e1, e2, e3, e4, e5, e6, e7, e8⟩ := what_many hw
    have Hk := hid_ (H2.out (by rw [hw]; decide))
    clear hw H0 H2 H3
    cases kp
    all_goals
      go_enter Tryz.func19, Tryz.ntmps19
      go_wp2_with fail
      refine Calls.mono (Hd.out _) ?_
      rintro e w1 ⟨rfl, hb1⟩
      have Hb1 := hid_ (Ha.out.trans (hb1.mono Ha.out.size))
      clear hb1
      go_wp2_with fail
      go_ret
      exact strIs_mk Hk.out Hb1.out
  · obtain ⟨e1, e2, e3, e4, e5, e6, e7, e8⟩ := what_hash hw
    have Hk := hid_ (H2.out (by rw [hw]; decide))
    clear hw H0 H2 H3
    cases kp
    all_goals
      go_enter Tryz.func19, Tryz.ntmps19
      go_wp2_with fail
      refine Calls.mono (Hd.out _) ?_
      rintro e w1 ⟨rfl, hb1⟩
      have Hb1 := hid_ (Ha.out.trans (hb1.mono Ha.out.size))
      clear hb1
      go_wp2_with fail
      go_ret
      exact strIs_mk Hk.out Hb1.out
  · obtain ⟨e1, e2, e3, e4, e5, e6, e7, e8⟩ := what_service hw
    have Hk := hid_ (H3.out (by rw [hw]; decide))
    clear hw H0 H2 H3
    cases kp
    all_goals
      go_enter Tryz.func19, Tryz.ntmps19
      go_wp2_with fail
      go_ret
      exact strIs_mk Hk.out Ha.out
  · obtain ⟨e1, e2, e3, e4, e5, e6, e7, e8⟩ := what_name hw
    have Hk := hid_ (H3.out (by rw [hw]; decide))
    clear hw H0 H2 H3
    cases kp
    all_goals
      go_enter Tryz.func19, Tryz.ntmps19
      go_wp2_with fail
      go_ret
      exact strIs_mk Hk.out Ha.out
  · obtain ⟨e1, e2, e3, e4, e5, e6, e7, e8⟩ := what_other hw
    have Hk := hid_ (H0.out (by rw [hw]; decide))
    clear hw H0 H2 H3
    cases kp
    all_goals
      go_enter Tryz.func19, Tryz.ntmps19
      go_wp2_with fail
      go_ret
      exact strIs_mk Hk.out Ha.out
end Go.Proofs.YtlkpofhfkhdheaaGreatDoor
