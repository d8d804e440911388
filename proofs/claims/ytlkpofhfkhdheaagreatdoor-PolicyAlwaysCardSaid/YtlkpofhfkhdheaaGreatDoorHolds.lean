/-
  What Holds and Eval answer.
-/
import Derived.Test.YtlkpofhfkhdheaaGreatDoorQuestion
namespace Go.Proofs.YtlkpofhfkhdheaaGreatDoor
open Go.RowKit Ru

/-- Does a rule hold of spans? -/
def holdsF (r : RuleD) (ss : List SpanD) : Bool := ruleOk r && ss.any (questF r ss.length)
/-- The first rule that holds: 1 keep, 2 drop; 0: of no spans. -/
def evalF (rs : List RuleD) (ss : List SpanD) : Int := if ss = [] then 0 else match rs.find? (fun r => holdsF r ss) with | some r => if r.keep then 1 else 2 | none => 2
theorem find_first {α : Type} (p : α → Bool) (l : List α) : l.find? p = if 0 ≤ firstF p l then l[(firstF p l).toNat]? else none := by
  unfold firstF
  cases h : l.findIdx? p with
  | none =>
    rw [List.findIdx?_eq_none_iff] at h
    rw [List.find?_eq_none.2 (by intro x hx; rw [h x hx]; decide)]
    rfl
  | some k =>
    obtain ⟨hk, h1, h2⟩ := List.findIdx?_eq_some_iff_getElem.1 h
    rw [if_pos (show (0 : Int) ≤ (k : Int) by omega)]
    show l.find? p = l[k]?
    rw [List.getElem?_eq_getElem hk, List.find?_eq_some_iff_getElem]
    exact ⟨h1, k, hk, rfl, fun j hj => by simpa using h2 j hj⟩
theorem first_lt {α : Type} {p : α → Bool} {l : List α} {k : Nat} (h : firstF p l = (k : Int)) : k < l.length := by
  unfold firstF at h
  cases h2 : l.findIdx? p with
  | none => rw [h2] at h; simp at h
  | some j =>
    rw [h2] at h
    obtain ⟨hk, _, _⟩ := List.findIdx?_eq_some_iff_getElem.1 h2
    have : (j : Int) = (k : Int) := h
    omega

set_option maxHeartbeats 2000000 in
theorem holds_any (r : RuleD) (hr : r.Wf) (A : Option Addr) (n c : Nat) (ss : List SpanD) (w : World) (hs : SpanRow w A n c ss) (hn : n ≤ 1000000) (hwf : ∀ s ∈ ss, s.Ok) (hm : MatchOk r w) :
    Calls Tryz.prog 27 #[ruleVal r, .slice A n c] w (BoolIs w (holdsF r ss)) := by
  have Hr := hid_ (fun W => right_any r W hr)
  have Hq := hid_ (fun (W : World) (h : Below w.heap.size w W) => question_any r n (by omega) W (fun hw W' s hb => hm hw W' s (h.trans (hb.mono h.size))))
  have Hs := hid_ hs
  have Hwf := hid_ hwf
  have Hlen := hid_ hs.len
  have Hb0 := hid_ (whole_new w 49 (ruleCells r))
  have Ha := hid_ ((Below.refl w.heap.size w).alloc (Nat.le_refl _) (.cells (ruleCells r) 49))
  have Hk := hid_ (show holdsF r ss = (ruleOk r && ss.any (questF r n)) by unfold holdsF; rw [Hlen.out])
  clear hs hwf hm hr
  cases hok : ruleOk r
  · rw [hok] at Hr Hk
    have Hf := hid_ (show holdsF r ss = false by rw [Hk.out]; rfl)
    clear hok
    go_enter Tryz.func27, Tryz.ntmps27
    go_wp2_with fail
    refine Calls.mono (Hr.out _) ?_
    rintro e w1 ⟨rfl, hb1⟩
    go_wp2_with fail
    go_ret
    exact boolIs_mk Hf.out (Ha.out.trans (hb1.mono Ha.out.size))
  · rw [hok] at Hr Hk
    clear hok
    go_enter Tryz.func27, Tryz.ntmps27
    go_wp2_with fail
    refine Calls.mono (Hr.out _) ?_
    rintro e w1 ⟨rfl, hb1⟩
    have Hb1 := hid_ (Ha.out.trans (hb1.mono Ha.out.size))
    have Hbox := hid_ (Hb0.out.below hb1 Hb0.out.lt)
    have k0 := Hbox.out.cell 0 (.bool r.keep) rfl
    have k1 := Hbox.out.cell 1 (.string r.what) rfl
    have k2 := Hbox.out.cell 2 (.int .u64 (r.num : Nat)) rfl
    have k3 := Hbox.out.cell 3 (.string r.text) rfl
    clear hb1
    go_wp2_with fail
    refine Calls.mono (Hq.out _ Hb1.out) ?_
    rintro e w2 ⟨g, lb, rfl, eg, hp, hb2⟩
    have Hb2 := hid_ (Hb1.out.trans (hb2.mono Hb1.out.size))
    have Hc := hid_ (spancontains_any (questF r n) g lb eg A n c ss w2 (Hs.out.below Hb2.out) Hwf.out hp)
    clear hb2 hp eg k0 k1 k2 k3
    go_wp2_with fail
    refine Calls.mono Hc.out ?_
    rintro e w3 ⟨rfl, hb3⟩
    go_wp2_with fail
    go_ret
    exact boolIs_mk (by rw [Hk.out]; rfl) (Hb2.out.trans (hb3.mono Hb2.out.size))

set_option maxHeartbeats 1000000 in
theorem holdsof_any (r : RuleD) (hr : r.Wf) (b : Nat) (A : Option Addr) (n c : Nat) (ss : List SpanD) (w W : World) (hW : Below w.heap.size w W) (hs : SpanRow w A n c ss) (hn : n ≤ 1000000) (hwf : ∀ s ∈ ss, s.Ok) (hm : MatchOk r w) (hb : Whole W b 34 #[.slice A n c]) :
    Calls Tryz.prog 26 #[ruleVal r, .pointer (some ⟨b, 0, none⟩)] W (BoolIs W (holdsF r ss)) := by
  have H := hid_ (fun (W' : World) (h : Below w.heap.size w W') => holds_any r hr A n c ss W' (hs.below h) hn hwf (fun hw W2 s hb => hm hw W2 s (h.trans (hb.mono h.size))))
  have c0 := hb.cell 0 _ rfl
  have hlt := hb.lt
  have hne : b ≠ W.heap.size := by omega
  have Ha := hid_ ((Below.refl W.heap.size W).alloc (Nat.le_refl _) (.cells (ruleCells r) 49))
  have HW := hid_ hW
  clear hs hwf hm hb hr hW
  go_enter Tryz.func26, Tryz.ntmps26
  go_wp2_with fail
  refine Calls.mono (H.out _ (HW.out.trans (Ha.out.mono HW.out.size))) ?_
  rintro e w1 ⟨rfl, hb1⟩
  go_wp2_with fail
  go_ret
  exact boolIs_mk rfl (Ha.out.trans (hb1.mono Ha.out.size))
theorem eval_none (rs : List RuleD) : evalF rs [] = 0 := by unfold evalF; rw [if_pos rfl]
theorem eval_drop {rs : List RuleD} {ss : List SpanD} (hne : ss ≠ []) (h : ¬ 0 ≤ firstF (fun r => holdsF r ss) rs) : evalF rs ss = 2 := by
  unfold evalF
  rw [if_neg hne, find_first, if_neg h]
theorem eval_at {rs : List RuleD} {ss : List SpanD} (hne : ss ≠ []) {k : Nat} (h : firstF (fun r => holdsF r ss) rs = (k : Int)) (hk : k < rs.length) : evalF rs ss = if rs[k].keep then 1 else 2 := by
  unfold evalF
  rw [if_neg hne, find_first, h, if_pos (by omega), Int.toNat_natCast, List.getElem?_eq_getElem hk]
set_option maxHeartbeats 2000000 in
theorem eval_any (A : Option Addr) (n c : Nat) (rs : List RuleD) (A2 : Option Addr) (n2 c2 : Nat) (ss : List SpanD) (w : World) (hr : RuleRow w A n c rs) (hrw : ∀ r ∈ rs, r.Wf) (hs : SpanRow w A2 n2 c2 ss) (hn : n2 ≤ 1000000) (hwf : ∀ s ∈ ss, s.Ok) (hm : ∀ r ∈ rs, MatchOk r w) :
    Calls Tryz.prog 13 #[.slice A n c, .slice A2 n2 c2] w (IntIs w (evalF rs ss)) := by
  have hl2 := hs.len
  have hln := hr.len
  have hnc := hr.cap
  have hcm := hr.max
  have hnc2 := hs.cap
  have hcm2 := hs.max
  have Ha := hid_ ((Below.refl w.heap.size w).alloc (Nat.le_refl _) (.cells #[.slice A2 n2 c2] 34))
  have Hb0 := hid_ (whole_new w 34 #[.slice A2 n2 c2])
  by_cases h0 : n2 = 0
  · subst h0
    obtain rfl : ss = [] := List.length_eq_zero_iff.1 hl2
    have Hk := hid_ (eval_none rs)
    clear hr hs hm hwf hrw hl2 hln
    go_enter Tryz.func13, Tryz.ntmps13
    go_wp2_with fail
    go_ret
    exact intIs_mk Hk.out Ha.out
  have e0 : ((n2 : Int) == 0) = false := by rw [beq_eq_false_iff_ne]; omega
  have hne : ss ≠ [] := by rintro rfl; simp at hl2; omega
  have Hidx := hid_ (ruleidx_any (fun r => holdsF r ss) 26 #[.pointer (some ⟨w.heap.size, 0, none⟩)] (enters_of Tryz.func26 (by kernel_rfl) rfl) A n c rs _ (hr.below Ha.out) hrw
    (fun W r hW hrm hrwf => holdsof_any r hrwf w.heap.size A2 n2 c2 ss w W (Ha.out.trans (hW.mono Ha.out.size)) hs hn hwf (hm r hrm) (Hb0.out.below hW Hb0.out.lt)))
  have Hr := hid_ hr
  have Hdrop := hid_ (eval_drop (rs := rs) hne)
  have Hat := hid_ (fun (k : Nat) h hk => eval_at (rs := rs) hne (k := k) h hk)
  have Hflt := hid_ (fun (k : Nat) (h : firstF (fun r => holdsF r ss) rs = (k : Int)) => first_lt h)
  have hge : -1 ≤ firstF (fun r => holdsF r ss) rs := by unfold firstF; split <;> omega
  clear hr hs hm hwf hrw h0 hl2
  generalize evalF rs ss = ev at *
  generalize firstF (fun r => holdsF r ss) rs = k at *
  rcases (show k = -1 ∨ 0 ≤ k by omega) with rfl | hk
  · have Hk := hid_ (Hdrop.out (by omega))
    clear hge hne hln
    go_enter Tryz.func13, Tryz.ntmps13
    go_wp2_with fail
    refine Calls.mono Hidx.out ?_
    rintro e w1 ⟨rfl, hb1⟩
    go_wp2_with fail
    go_ret
    exact intIs_mk Hk.out (Ha.out.trans (hb1.mono Ha.out.size))
  · obtain ⟨j, rfl⟩ := Int.eq_ofNat_of_zero_le hk
    have hjl := Hflt.out j rfl
    have Hk := hid_ (Hat.out j rfl hjl)
    have i1 : (j : Int) < (n : Int) := by omega
    have hg : decide ((0 : Int) ≤ (j : Int)) = true := decide_eq_true hk
    clear hge hne
    go_enter Tryz.func13, Tryz.ntmps13
    go_wp2_with fail
    refine Calls.mono Hidx.out ?_
    rintro e w1 ⟨rfl, hb1⟩
    have Hb1 := hid_ (Ha.out.trans (hb1.mono Ha.out.size))
    obtain ⟨b, off, rfl, r0, _, _, _⟩ := (Hr.out.below Hb1.out).at_ hjl
    have Hk2 := hid_ Hk.out
    generalize rs[j] = r at *
    clear hb1 hln
    cases hkp : r.keep
    · rw [hkp] at r0
      have Hk3 := hid_ (show ev = 2 by rw [Hk2.out, hkp]; rfl)
      clear hkp
      go_wp2_with fail
      go_ret
      exact intIs_mk Hk3.out Hb1.out
    · rw [hkp] at r0
      have Hk3 := hid_ (show ev = 1 by rw [Hk2.out, hkp]; rfl)
      clear hkp
      go_wp2_with fail
      go_ret
      exact intIs_mk Hk3.out Hb1.out
end Go.Proofs.YtlkpofhfkhdheaaGreatDoor
