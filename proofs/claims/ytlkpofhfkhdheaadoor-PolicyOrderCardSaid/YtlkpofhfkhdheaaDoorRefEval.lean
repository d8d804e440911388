/-
  What the reference's Eval answers.
-/
import Derived.Test.YtlkpofhfkhdheaaDoorRefHolds
namespace Go.Proofs.YtlkpofhfkhdheaaDoor
open Go.RowKit Ru

set_option maxRecDepth 20000 in
set_option maxHeartbeats 2000000 in
theorem refeval_any (A : Option Addr) (n c : Nat) (rs : List RuleD) (A2 : Option Addr) (n2 c2 : Nat) (ss : List SpanD) (w : World) (hr : RuleRow w A n c rs) (hrw : ∀ r ∈ rs, r.Wf) (hs : SpanRow w A2 n2 c2 ss) (hwf : ∀ s ∈ ss, s.Ok) (hp : ∀ r ∈ rs, r.text.size ≤ 1000000) :
    Calls Tryd.prog 12 #[.slice A n c, .slice A2 n2 c2] w (IntIs w (evalF rs ss)) := by
  obtain rfl := hr.len
  obtain rfl := hs.len
  have hle := hr.cap
  have hmx := hr.max
  have hle2 := hs.cap
  have hmx2 := hs.max
  by_cases h0 : ss.length = 0
  · obtain rfl : ss = [] := List.length_eq_zero_iff.1 h0
    have Hk := hid_ (eval_none rs)
    clear hr hs hrw hwf hp h0
    go_enter Tryd.func12, Tryd.ntmps12
    go_wp2_with fail
    go_ret
    exact intIs_mk Hk.out (Below.refl _ _)
  have e0 : ((ss.length : Int) == 0) = false := by rw [beq_eq_false_iff_ne]; omega
  have hne : ss ≠ [] := by rintro rfl; simp at h0
  have Hr := hid_ hr
  have Hc := hid_ (fun (W : World) (hb : Below w.heap.size w W) r (h : r ∈ rs) => refholds_any r (hrw r h) A2 ss.length c2 ss W (hs.below hb) hwf (hp r h))
  have Hdrop := hid_ (eval_drop (rs := rs) hne)
  have Hat := hid_ (fun (k : Nat) h hk => eval_at (rs := rs) hne (k := k) h hk)
  clear hr hs hrw hwf hp h0 hne
  go_enter Tryd.func12, Tryd.ntmps12
  go_wp2_with fail
  go_loopw [5] (fun vi wr => ∃ k : Nat, k ≤ rs.length ∧ vi = .int .i64 (k : Nat) ∧ Hid (∀ j (hj : j < rs.length), j < k → holdsF rs[j] ss = false) ∧ Hid (Below w.heap.size w wr)) (fun vi _ => rs.length - (intOf vi).toNat)
  case atStart => exact ⟨0, Nat.zero_le _, rfl, hid_ (fun j _ h => absurd h (by omega)), hid_ (Below.refl _ _)⟩
  case round =>
    obtain ⟨k, hk, rfl, Hg, Hw⟩ := hrel
    by_cases hlt : k < rs.length
    · obtain ⟨b, off, rfl, hc⟩ := Hr.out.at_ hlt
      have Hat0 := hid_ hc
      obtain ⟨c0, c1, c2', c3⟩ := hc.keep_ (fun p hp => Hw.out.cell hp)
      clear hc
      have x1 : (k : Int) < (rs.length : Int) := by omega
      have x2 : (0 : Int) ≤ (k : Int) := by omega
      have Hcc := hid_ (Hc.out wr Hw.out rs[k] (List.getElem_mem hlt))
      cases hh : holdsF rs[k] ss
      · have Hn := hid_ (show ∀ j (hj : j < rs.length), j < k + 1 → holdsF rs[j] ss = false from fun j hj h2 => by
          by_cases e : j = k
          · subst e; exact hh
          · exact Hg.out j hj (by omega))
        rw [hh] at Hcc
        clear hh
        go_wp2_with fail
        refine Calls.mono Hcc.out ?_
        rintro e w1 ⟨rfl, hb1⟩
        have Hw2 := hid_ (Hw.out.trans (hb1.mono Hw.out.size))
        clear hb1 c0 c1 c2' c3
        go_wp2_with fail
        go_roundw
        case rel => exact ⟨k + 1, by omega, by go_num, Hn, Hw2⟩
        case measure => simp [intOf] <;> omega
      · have Hk := hid_ (Hat.out k (first_hit (p := fun r => holdsF r ss) hlt hh Hg.out) hlt)
        rw [hh] at Hcc
        clear hh
        go_wp2_with fail
        refine Calls.mono Hcc.out ?_
        rintro e w1 ⟨rfl, hb1⟩
        have Hw2 := hid_ (Hw.out.trans (hb1.mono Hw.out.size))
        clear hb1 c0 c1 c2' c3
        obtain ⟨d0, _, _, _⟩ := Hat0.out.keep_ (fun p hp => Hw2.out.cell hp)
        cases hkp : rs[k].keep
        · have Hk3 := hid_ (show evalF rs ss = 2 by rw [Hk.out, hkp]; rfl)
          rw [hkp] at d0
          clear hkp
          go_wp2_with fail
          go_ret
          exact intIs_mk Hk3.out Hw2.out
        · have Hk3 := hid_ (show evalF rs ss = 1 by rw [Hk.out, hkp]; rfl)
          rw [hkp] at d0
          clear hkp
          go_wp2_with fail
          go_ret
          exact intIs_mk Hk3.out Hw2.out
    · obtain rfl : k = rs.length := by omega
      have Hk := hid_ (Hdrop.out (by rw [first_miss (p := fun r => holdsF r ss) fun j hj => Hg.out j hj hj]; decide))
      go_wp2_with fail
      go_ret
      exact intIs_mk Hk.out Hw.out
end Go.Proofs.YtlkpofhfkhdheaaDoor
