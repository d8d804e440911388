/-
  The law's own bounds on what it is given, and its look at the spans.
-/
import Derived.Test.YtlkpofhfkhdheaaGreatDoorRuleRow
import Derived.Test.YtlkpofhfkhdheaaGreatDoorRefRight
import Derived.Test.YtlkpofhfkhdheaaGreatDoorSpanRow
namespace Go.Proofs.YtlkpofhfkhdheaaGreatDoor
open Go.RowKit Ru

def lightR (r : RuleD) : Bool := decide (r.text.size ≤ 200) && decide (r.what.size ≤ 200)
def lightS (s : SpanD) : Bool := decide (s.name.size ≤ 200) && decide (s.service.size ≤ 200)
def lightF (rs : List RuleD) (ss : List SpanD) : Bool := decide (rs.length ≤ 100) && (decide (ss.length ≤ 100) && (rs.all lightR && ss.all lightS))
theorem light_all {rs : List RuleD} {ss : List SpanD} (h : lightF rs ss = true) : rs.length ≤ 100 ∧ ss.length ≤ 100 ∧ (∀ r ∈ rs, r.text.size ≤ 200 ∧ r.what.size ≤ 200) ∧ ∀ s ∈ ss, s.name.size ≤ 200 ∧ s.service.size ≤ 200 := by
  unfold lightF at h
  simp only [Bool.and_eq_true, decide_eq_true_eq, List.all_eq_true] at h
  refine ⟨h.1, h.2.1, fun r hr => ?_, fun s hs => ?_⟩
  · have := h.2.2.1 r hr
    unfold lightR at this
    simpa using this
  · have := h.2.2.2 s hs
    unfold lightS at this
    simpa using this

set_option maxRecDepth 20000 in
set_option maxHeartbeats 2000000 in
theorem light_any (A : Option Addr) (n c : Nat) (rs : List RuleD) (B : Option Addr) (m d : Nat) (ss : List SpanD) (w : World) (hr : RuleRow w A n c rs) (hs : SpanRow w B m d ss) (hrw : ∀ r ∈ rs, r.Wf) (hsw : ∀ s ∈ ss, s.Wf) :
    Calls Tryz.prog 5 #[.slice A n c, .slice B m d] w (BoolIs w (lightF rs ss)) := by
  obtain rfl := hr.len
  obtain rfl := hs.len
  by_cases h1 : 100 < rs.length
  · have e1 : decide ((100 : Int) < (rs.length : Int)) = true := decide_eq_true (by omega)
    have Hf := hid_ (show lightF rs ss = false by unfold lightF; rw [decide_eq_false (by omega)]; rfl)
    go_enter Tryz.func5, Tryz.ntmps5
    go_wp2_with fail
    go_ret
    exact boolIs_mk Hf.out (Below.refl _ _)
  have e1 : decide ((100 : Int) < (rs.length : Int)) = false := decide_eq_false (by omega)
  by_cases h2 : 100 < ss.length
  · have e2 : decide ((100 : Int) < (ss.length : Int)) = true := decide_eq_true (by omega)
    have Hf := hid_ (show lightF rs ss = false by unfold lightF; rw [decide_eq_false (show ¬ ss.length ≤ 100 by omega)]; simp)
    go_enter Tryz.func5, Tryz.ntmps5
    go_wp2_with fail
    go_ret
    exact boolIs_mk Hf.out (Below.refl _ _)
  have e2 : decide ((100 : Int) < (ss.length : Int)) = false := decide_eq_false (by omega)
  have Hr := hid_ hr
  have Hs := hid_ hs
  have Hrw := hid_ hrw
  have Hsw := hid_ hsw
  clear hr hs hrw hsw
  go_enter Tryz.func5, Tryz.ntmps5
  go_wp2_with fail
  go_loop [5] (fun vi => ∃ k : Nat, k ≤ rs.length ∧ vi = .int .i64 (k : Nat) ∧ Hid (∀ j (hj : j < rs.length), j < k → lightR rs[j] = true)) (fun vi => rs.length - (intOf vi).toNat)
  case atStart => exact ⟨0, Nat.zero_le _, rfl, hid_ (fun j _ h => absurd h (by omega))⟩
  case round =>
    obtain ⟨k, hk, rfl, Hg⟩ := hrel
    by_cases hlt : k < rs.length
    · obtain ⟨b, off, rfl, hc⟩ := Hr.out.at_ hlt
      obtain ⟨c0, c1, c2, c3⟩ := hc
      have hwf := Hrw.out rs[k] (List.getElem_mem hlt)
      have hw1 := hwf.what
      have hw2 := hwf.text
      clear c0 c2
      have bad : lightR rs[k] = false → lightF rs ss = false := fun hb => by
        unfold lightF
        rw [show rs.all lightR = false from List.all_eq_false.2 ⟨_, List.getElem_mem hlt, by rw [hb]; decide⟩]
        simp
      have next : lightR rs[k] = true → Hid (∀ j (hj : j < rs.length), j < k + 1 → lightR rs[j] = true) := fun hb => hid_ (fun j hj h => by
        by_cases e : j = k
        · subst e; exact hb
        · exact Hg.out j hj (by omega))
      by_cases t1 : 200 < rs[k].text.size
      · have Hf := hid_ (bad (by unfold lightR; rw [decide_eq_false (by omega)]; rfl))
        have q1 : decide ((200 : Int) < (rs[k].text.size : Int)) = true := decide_eq_true (by omega)
        clear bad next
        go_wp2_with fail
        go_ret
        exact boolIs_mk Hf.out (Below.refl _ _)
      · have q1 : decide ((200 : Int) < (rs[k].text.size : Int)) = false := decide_eq_false (by omega)
        by_cases t2 : 200 < rs[k].what.size
        · have Hf := hid_ (bad (by unfold lightR; rw [decide_eq_false (show ¬ rs[k].what.size ≤ 200 by omega)]; simp))
          have q2 : decide ((200 : Int) < (rs[k].what.size : Int)) = true := decide_eq_true (by omega)
          clear bad next
          go_wp2_with fail
          go_ret
          exact boolIs_mk Hf.out (Below.refl _ _)
        · have q2 : decide ((200 : Int) < (rs[k].what.size : Int)) = false := decide_eq_false (by omega)
          have Hg2 := next (by unfold lightR; rw [decide_eq_true (by omega), decide_eq_true (by omega)]; rfl)
          clear bad next
          go_wp2_with fail
          go_round
          case rel => exact ⟨k + 1, by omega, by go_num, Hg2⟩
          case measure => simp [intOf] <;> omega
    · obtain rfl : k = rs.length := by omega
      have Hall := hid_ (show rs.all lightR = true from List.all_eq_true.2 fun r hr => by
        obtain ⟨j, hj, rfl⟩ := List.getElem_of_mem hr
        exact Hg.out j hj hj)
      clear Hg
      go_wp2_with fail
      go_loop [6] (fun vi => ∃ k : Nat, k ≤ ss.length ∧ vi = .int .i64 (k : Nat) ∧ Hid (∀ j (hj : j < ss.length), j < k → lightS ss[j] = true)) (fun vi => ss.length - (intOf vi).toNat)
      case atStart => exact ⟨0, Nat.zero_le _, rfl, hid_ (fun j _ h => absurd h (by omega))⟩
      case round =>
        obtain ⟨k, hk, rfl, Hg⟩ := hrel
        by_cases hlt : k < ss.length
        · obtain ⟨b, off, rfl, hc⟩ := Hs.out.at_ hlt
          obtain ⟨c0, c1, c2, c3, c4, c5, c6, c7⟩ := hc
          have hwf := Hsw.out ss[k] (List.getElem_mem hlt)
          have hw1 := hwf.name
          have hw2 := hwf.service
          clear c0 c1 c2 c3 c4 c7
          have bad : lightS ss[k] = false → lightF rs ss = false := fun hb => by
            unfold lightF
            rw [show ss.all lightS = false from List.all_eq_false.2 ⟨_, List.getElem_mem hlt, by rw [hb]; decide⟩]
            simp
          have next : lightS ss[k] = true → Hid (∀ j (hj : j < ss.length), j < k + 1 → lightS ss[j] = true) := fun hb => hid_ (fun j hj h => by
            by_cases e : j = k
            · subst e; exact hb
            · exact Hg.out j hj (by omega))
          by_cases t1 : 200 < ss[k].name.size
          · have Hf := hid_ (bad (by unfold lightS; rw [decide_eq_false (by omega)]; rfl))
            have q1 : decide ((200 : Int) < (ss[k].name.size : Int)) = true := decide_eq_true (by omega)
            clear bad next
            go_wp2_with fail
            go_ret
            exact boolIs_mk Hf.out (Below.refl _ _)
          · have q1 : decide ((200 : Int) < (ss[k].name.size : Int)) = false := decide_eq_false (by omega)
            by_cases t2 : 200 < ss[k].service.size
            · have Hf := hid_ (bad (by unfold lightS; rw [decide_eq_false (show ¬ ss[k].service.size ≤ 200 by omega)]; simp))
              have q2 : decide ((200 : Int) < (ss[k].service.size : Int)) = true := decide_eq_true (by omega)
              clear bad next
              go_wp2_with fail
              go_ret
              exact boolIs_mk Hf.out (Below.refl _ _)
            · have q2 : decide ((200 : Int) < (ss[k].service.size : Int)) = false := decide_eq_false (by omega)
              have Hg2 := next (by unfold lightS; rw [decide_eq_true (by omega), decide_eq_true (by omega)]; rfl)
              clear bad next
              go_wp2_with fail
              go_round
              case rel => exact ⟨k + 1, by omega, by go_num, Hg2⟩
              case measure => simp [intOf] <;> omega
        · obtain rfl : k = ss.length := by omega
          have Hf := hid_ (show lightF rs ss = true by
            unfold lightF
            rw [decide_eq_true (by omega), decide_eq_true (by omega), Hall.out, List.all_eq_true.2 fun r hr => by
              obtain ⟨j, hj, rfl⟩ := List.getElem_of_mem hr
              exact Hg.out j hj hj]
            rfl)
          go_wp2_with fail
          go_ret
          exact boolIs_mk Hf.out (Below.refl _ _)
end Go.Proofs.YtlkpofhfkhdheaaGreatDoor
