/-
  What Right answers of many rules, the program's and the reference's.
-/
import Derived.Test.YtlkpofhfkhdheaaGreatDoorIndexFunc
import Derived.Test.YtlkpofhfkhdheaaGreatDoorRefRule
namespace Go.Proofs.YtlkpofhfkhdheaaGreatDoor
open Go.RowKit Ru

/-- Right of rules: 4 too many, 7 one is none. -/
def rightK (rs : List RuleD) : Int := if 16 < rs.length then 4 else if rs.all ruleOk = true then 0 else 7
theorem rightK_many {rs : List RuleD} (h : 16 < rs.length) : rightK rs = 4 := by unfold rightK; rw [if_pos h]
theorem rightK_ok {rs : List RuleD} (h : ¬ 16 < rs.length) (h2 : rs.all ruleOk = true) : rightK rs = 0 := by unfold rightK; rw [if_neg h, if_pos h2]
theorem rightK_bad {rs : List RuleD} (h : ¬ 16 < rs.length) (h2 : rs.all ruleOk = false) : rightK rs = 7 := by unfold rightK; rw [if_neg h, if_neg (by rw [h2]; decide)]
theorem any_not (rs : List RuleD) : (rs.any fun r => !ruleOk r) = !(rs.all ruleOk) := by
  induction rs with
  | nil => rfl
  | cons r rs ih => rw [List.any_cons, List.all_cons, ih]; cases ruleOk r <;> rfl
set_option maxHeartbeats 1000000 in
theorem notright_any (r : RuleD) (w : World) (hr : r.Wf) : Calls Tryz.prog 21 #[ruleVal r] w (BoolIs w (!ruleOk r)) := by
  have Hr := hid_ (fun W => right_any r W hr)
  have Ha := hid_ ((Below.refl w.heap.size w).alloc (Nat.le_refl _) (.cells (ruleCells r) 49))
  clear hr
  cases hok : ruleOk r
  all_goals
    rw [hok] at Hr
    clear hok
    go_enter Tryz.func21, Tryz.ntmps21
    go_wp2_with fail
    refine Calls.mono (Hr.out _) ?_
    rintro e w1 ⟨rfl, hb1⟩
    go_wp2_with fail
    go_ret
    exact boolIs_mk rfl (Ha.out.trans (hb1.mono Ha.out.size))
set_option maxHeartbeats 1000000 in
theorem rulecontains_any (p : RuleD → Bool) (g : Nat) (lb : Array Value) (eg : ∀ args w, (callFunc g args).run Tryz.prog w = .ok (.enter g args) w) (A : Option Addr) (n c : Nat) (rs : List RuleD) (w : World)
    (hs : RuleRow w A n c rs) (hwf : ∀ r ∈ rs, r.Wf) (hp : PredR g lb p rs w) :
    Calls Tryz.prog 20 #[.slice A n c, .func (.func g) #[] lb] w (BoolIs w (rs.any p)) := by
  have H := hid_ (ruleidx_any p g lb eg A n c rs w hs hwf hp)
  have Hk := hid_ (first_any p rs)
  clear hs hwf hp
  generalize firstF p rs = k at *
  go_enter Tryz.func20, Tryz.ntmps20
  go_wp2_with (go_at_call 25; (with_reducible refine Calls.mono H.out ?_); rintro e w' ⟨rfl, hb'⟩)
  go_ret
  exact boolIs_mk Hk.out.symm hb'
set_option maxHeartbeats 1000000 in
theorem polright_any (A : Option Addr) (n c : Nat) (rs : List RuleD) (w : World) (hs : RuleRow w A n c rs) (hwf : ∀ r ∈ rs, r.Wf) :
    Calls Tryz.prog 10 #[.slice A n c] w (KindIs w (rightK rs)) := by
  obtain rfl := hs.len
  have hle := hs.cap
  have hmx := hs.max
  by_cases h1 : 16 < rs.length
  · have e1 : decide ((16 : Int) < (rs.length : Int)) = true := decide_eq_true (by omega)
    have Hk := hid_ (rightK_many h1)
    clear hs
    go_enter Tryz.func10, Tryz.ntmps10
    go_wp2_with fail
    go_ret
    exact kindIs_mk Hk.out (Below.refl _ _)
  have e1 : decide ((16 : Int) < (rs.length : Int)) = false := decide_eq_false (by omega)
  have Hc := hid_ (rulecontains_any (fun r => !ruleOk r) 21 #[] (enters_of Tryz.func21 (by kernel_rfl) rfl) A rs.length c rs w hs hwf (fun W r _ _ hr => notright_any r W hr))
  rw [any_not] at Hc
  cases ha : rs.all ruleOk
  · rw [ha] at Hc
    have Hk := hid_ (rightK_bad h1 ha)
    clear hs ha h1
    go_enter Tryz.func10, Tryz.ntmps10
    go_wp2_with fail
    refine Calls.mono Hc.out ?_
    rintro e w1 ⟨rfl, hb1⟩
    go_wp2_with fail
    go_ret
    exact kindIs_mk Hk.out hb1
  · rw [ha] at Hc
    have Hk := hid_ (rightK_ok h1 ha)
    clear hs ha h1
    go_enter Tryz.func10, Tryz.ntmps10
    go_wp2_with fail
    refine Calls.mono Hc.out ?_
    rintro e w1 ⟨rfl, hb1⟩
    go_wp2_with fail
    go_ret
    exact kindIs_mk Hk.out hb1
set_option maxHeartbeats 1000000 in
theorem refrightall_any (A : Option Addr) (n c : Nat) (rs : List RuleD) (w : World) (hs : RuleRow w A n c rs) (hwf : ∀ r ∈ rs, r.Wf) :
    Calls Tryz.prog 11 #[.slice A n c] w (KindIs w (rightK rs)) := by
  obtain rfl := hs.len
  have hle := hs.cap
  have hmx := hs.max
  by_cases h1 : 16 < rs.length
  · have e1 : decide ((16 : Int) < (rs.length : Int)) = true := decide_eq_true (by omega)
    have Hk := hid_ (rightK_many h1)
    clear hs
    go_enter Tryz.func11, Tryz.ntmps11
    go_wp2_with fail
    go_ret
    exact kindIs_mk Hk.out (Below.refl _ _)
  have e1 : decide ((16 : Int) < (rs.length : Int)) = false := decide_eq_false (by omega)
  have Hs := hid_ hs
  have Ho := hid_ (fun W r (h : r ∈ rs) => refone_any r W (hwf r h))
  have Hgood := hid_ (rightK_ok h1)
  have Hbad := hid_ (rightK_bad h1)
  clear hs hwf h1
  go_enter Tryz.func11, Tryz.ntmps11
  go_wp2_with fail
  go_loopw [3] (fun vi wr => ∃ k : Nat, k ≤ rs.length ∧ vi = .int .i64 (k : Nat) ∧ Hid (∀ j (hj : j < rs.length), j < k → ruleOk rs[j] = true) ∧ Hid (Below w.heap.size w wr)) (fun vi _ => rs.length - (intOf vi).toNat)
  case atStart => exact ⟨0, Nat.zero_le _, rfl, hid_ (fun j _ h => absurd h (by omega)), hid_ (Below.refl _ _)⟩
  case round =>
    obtain ⟨k, hk, rfl, Hg, Hw⟩ := hrel
    by_cases hlt : k < rs.length
    · obtain ⟨b, off, rfl, hc⟩ := (Hs.out.below Hw.out).at_ hlt
      obtain ⟨c0, c1, c2, c3⟩ := hc
      have Hc := hid_ (fun W => Ho.out W rs[k] (List.getElem_mem hlt))
      cases ho : ruleOk rs[k]
      · rw [ho] at Hc
        have Hk := hid_ (Hbad.out (List.all_eq_false.2 ⟨_, List.getElem_mem hlt, by rw [ho]; decide⟩))
        clear ho
        go_wp2_with fail
        refine Calls.mono (Hc.out _) ?_
        rintro e w1 ⟨rfl, hb1⟩
        have Hw2 := hid_ (Hw.out.trans (hb1.mono Hw.out.size))
        go_wp2_with fail
        go_ret
        exact kindIs_mk Hk.out Hw2.out
      · rw [ho] at Hc
        have Hg2 := hid_ (show ∀ j (hj : j < rs.length), j < k + 1 → ruleOk rs[j] = true from fun j hj h => by
          by_cases e : j = k
          · subst e; exact ho
          · exact Hg.out j hj (by omega))
        clear ho
        go_wp2_with fail
        refine Calls.mono (Hc.out _) ?_
        rintro e w1 ⟨rfl, hb1⟩
        have Hw2 := hid_ (Hw.out.trans (hb1.mono Hw.out.size))
        clear hb1 c0 c1 c2 c3
        go_wp2_with fail
        go_roundw
        case rel => exact ⟨k + 1, by omega, by go_num, Hg2, Hw2⟩
        case measure => simp [intOf] <;> omega
    · obtain rfl : k = rs.length := by omega
      have Hk := hid_ (Hgood.out (List.all_eq_true.2 fun r hr => by
        obtain ⟨j, hj, rfl⟩ := List.getElem_of_mem hr
        exact Hg.out j hj hj))
      go_wp2_with fail
      go_ret
      exact kindIs_mk Hk.out Hw.out
end Go.Proofs.YtlkpofhfkhdheaaGreatDoor
