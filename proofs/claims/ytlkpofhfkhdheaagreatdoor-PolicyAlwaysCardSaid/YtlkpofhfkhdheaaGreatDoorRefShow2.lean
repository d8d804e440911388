/-
  What the reference's Show answers.
-/
import Derived.Test.YtlkpofhfkhdheaaGreatDoorRefShow
namespace Go.Proofs.YtlkpofhfkhdheaaGreatDoor
open Go.RowKit Ru

theorem joinS_snoc : ∀ (a : List ByteArray) (x : ByteArray), a ≠ [] → joinS (a ++ [x]) = joinS a ++ ⟨#[10]⟩ ++ x
  | [], _, h => absurd rfl h
  | [y], x, _ => by
    apply ba_ext
    show (y ++ (⟨#[10]⟩ ++ x)).data.toList = (y ++ ⟨#[10]⟩ ++ x).data.toList
    simp only [ba_append, List.append_assoc]
  | y :: z :: r, x, _ => by
    have ih := joinS_snoc (z :: r) x (by simp)
    apply ba_ext
    show (y ++ (⟨#[10]⟩ ++ joinS ((z :: r) ++ [x]))).data.toList = (y ++ (⟨#[10]⟩ ++ joinS (z :: r)) ++ ⟨#[10]⟩ ++ x).data.toList
    rw [ih]
    simp only [ba_append, List.append_assoc]
/-- The text of the first so many. -/
def textK (rs : List RuleD) (k : Nat) : ByteArray := textS (rs.take k)
theorem textK_one {rs : List RuleD} (h : 0 < rs.length) : textK rs 1 = lineS rs[0] := by
  unfold textK
  match rs, h with
  | r :: rs, _ => rfl
theorem textK_succ {rs : List RuleD} {k : Nat} (h : k < rs.length) (h0 : 0 < k) : textK rs (k + 1) = textK rs k ++ ⟨#[10]⟩ ++ lineS rs[k] := by
  unfold textK textS
  rw [List.take_succ_eq_append_getElem h, List.map_append]
  refine joinS_snoc _ _ fun e => ?_
  have h1 := congrArg List.length e
  rw [List.length_map, List.length_take] at h1
  have h2 : ([] : List ByteArray).length = 0 := rfl
  omega
theorem ok_num {r : RuleD} (h : ruleOk r = true) : r.num ≤ 1099511627776 := by
  unfold ruleOk at h
  simp only [Bool.and_eq_true, decide_eq_true_eq] at h
  have : hiN (whatF r.what) ≤ 1099511627776 := by cases whatF r.what <;> simp [hiN]
  omega
theorem textK_size {rs : List RuleD} (hsm : ∀ r ∈ rs, r.text.size ≤ 200 ∧ r.what.size ≤ 200) (hwf : ∀ r ∈ rs, r.Wf) (k : Nat) (hk : k ≤ 16) : (textK rs k).size ≤ 16 * 501 := by
  have hjs := join_size ((rs.take k).map lineS) (fun x hx => by
    obtain ⟨r, hr, rfl⟩ := List.mem_map.1 hx
    have hr' := List.mem_of_mem_take hr
    exact line_size (hsm r hr').2 (hsm r hr').1 (hwf r hr').num)
  rw [List.length_map, List.length_take] at hjs
  have : (textK rs k).size = (joinS ((rs.take k).map lineS)).size := rfl
  omega

set_option maxRecDepth 20000 in
set_option maxHeartbeats 4000000 in
theorem refshow_any (A : Option Addr) (n c : Nat) (rs : List RuleD) (w : World) (hs : RuleRow w A n c rs) (hwf : ∀ r ∈ rs, r.Wf) (hsm : ∀ r ∈ rs, r.text.size ≤ 200 ∧ r.what.size ≤ 200) :
    Calls Tryz.prog 9 #[.slice A n c] w (ShowPost w rs) := by
  have Hr := hid_ (refrightall_any A n c rs w hs hwf)
  obtain rfl := hs.len
  have hle := hs.cap
  have hmx := hs.max
  by_cases hk : rightK rs = 0
  · have Hlong := hid_ (show_long hk)
    have Hgood := hid_ (show_good hk)
    obtain ⟨h16, hall⟩ := right_len hk
    have Hs := hid_ hs
    have Hc := hid_ (fun (W : World) r (h : r ∈ rs) => refline_any r W (hsm r h).2 (hsm r h).1 (ok_num (List.all_eq_true.1 hall r h)))
    have Hsz := hid_ (textK_size hsm hwf)
    have Hlz := hid_ (fun r (h : r ∈ rs) => line_size (hsm r h).2 (hsm r h).1 (hwf r h).num)
    rw [hk] at Hr
    clear hs hwf hsm hall hk
    go_enter Tryz.func9, Tryz.ntmps9
    go_wp2_with fail
    refine Calls.mono Hr.out ?_
    rintro e w1 ⟨rfl, hb1⟩
    have Hb1 := hid_ hb1
    clear hb1
    go_wp2_with fail
    go_loopw [5, 6] (fun vs vi wr => ∃ (k : Nat) (s : ByteArray), k ≤ rs.length ∧ vs = .string s ∧ vi = .int .i64 (k : Nat) ∧ Hid (s = textK rs k) ∧ Hid (Below w.heap.size w wr)) (fun _ vi _ => rs.length - (intOf vi).toNat)
    case atStart => exact ⟨0, _, Nat.zero_le _, rfl, rfl, hid_ rfl, Hb1⟩
    case round =>
      obtain ⟨k, s, hk, rfl, rfl, Hk, Hw⟩ := hrel
      have hsz : s.size ≤ 16 * 501 := by rw [Hk.out]; exact Hsz.out k (by omega)
      by_cases hlt : k < rs.length
      · obtain ⟨b, off, rfl, hc⟩ := (Hs.out.below Hw.out).at_ hlt
        obtain ⟨c0, c1, c2, c3⟩ := hc
        have Hck := hid_ (fun W => Hc.out W rs[k] (List.getElem_mem hlt))
        have hlz := Hlz.out rs[k] (List.getElem_mem hlt)
        have x1 : (k : Int) < (rs.length : Int) := by omega
        have x2 : (0 : Int) ≤ (k : Int) := by omega
        by_cases h0 : 0 < k
        · have e1 : decide (0 < k) = true := decide_eq_true h0
          have Hn := hid_ (show s ++ ⟨#[10]⟩ ++ lineS rs[k] = textK rs (k + 1) by rw [Hk.out]; exact (textK_succ hlt h0).symm)
          generalize rs[k] = r at *
          generalize lineS r = ln at *
          go_wp2_with fail
          refine Calls.mono (Hck.out _) ?_
          rintro e w2 ⟨rfl, hb2⟩
          have Hw2 := hid_ (Hw.out.trans (hb2.mono Hw.out.size))
          clear hb2 c0 c1 c2 c3
          go_wp2_with fail
          go_roundw
          case rel => exact ⟨k + 1, _, by omega, rfl, by go_num, Hn, Hw2⟩
          case measure => simp [intOf] <;> omega
        · obtain rfl : k = 0 := by omega
          have e1 : decide (0 < 0) = false := rfl
          have Hn := hid_ (show s ++ lineS rs[0] = textK rs 1 by
            rw [Hk.out, textK_one hlt]
            exact ba_empty _)
          simp only [Nat.zero_mul, Nat.add_zero] at c0 c1 c2 c3
          generalize rs[0] = r at *
          generalize lineS r = ln at *
          go_wp2_with fail
          refine Calls.mono (Hck.out _) ?_
          rintro e w2 ⟨rfl, hb2⟩
          have Hw2 := hid_ (Hw.out.trans (hb2.mono Hw.out.size))
          clear hb2 c0 c1 c2 c3
          go_wp2_with fail
          go_roundw
          case rel => exact ⟨1, _, by omega, rfl, by go_num, Hn, Hw2⟩
          case measure => simp [intOf] <;> omega
      · obtain rfl : k = rs.length := by omega
        have Ht := hid_ (show textS rs = s by rw [Hk.out]; unfold textK; rw [List.take_length])
        rw [Ht.out] at Hlong Hgood
        clear Hk
        by_cases hlg : 2048 < s.size
        · have Hk := hid_ (Hlong.out hlg)
          have e1 : decide ((2048 : Int) < (s.size : Int)) = true := decide_eq_true (by omega)
          go_wp2_with fail
          go_ret2
          exact showPost_mk Hk.out.1 Hk.out.2 Hw.out
        · have Hk := hid_ (Hgood.out hlg)
          have e1 : decide ((2048 : Int) < (s.size : Int)) = false := decide_eq_false (by omega)
          go_wp2_with fail
          go_ret2
          exact showPost_mk Hk.out.1 Hk.out.2 Hw.out
  · have Hk := hid_ (show_bad hk)
    have hkb : (rightK rs != 0) = true := by rw [bne_iff_ne]; exact hk
    generalize rightK rs = kk at *
    clear hs hwf hsm hk
    go_enter Tryz.func9, Tryz.ntmps9
    go_wp2_with fail
    refine Calls.mono Hr.out ?_
    rintro e w1 ⟨rfl, hb1⟩
    have Hb1 := hid_ hb1
    clear hb1
    go_wp2_with fail
    go_ret2
    exact showPost_mk Hk.out.1 Hk.out.2 Hb1.out
end Go.Proofs.YtlkpofhfkhdheaaGreatDoor
