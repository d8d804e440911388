/-
  What the reference's one, Holds and Eval answer.
-/
import Derived.Test.YtlkpofhfkhdheaaDoorRefRule
import Derived.Test.YtlkpofhfkhdheaaDoorRefMatch2
import Derived.Test.YtlkpofhfkhdheaaDoorHolds
import Derived.StillTailTactics
namespace Go.Proofs.YtlkpofhfkhdheaaDoor
open Go.RowKit Ru

set_option maxHeartbeats 1000000 in
theorem rmix_in (n : Nat) (w : World) :
    Calls Tryd.prog 44 #[.int .u64 (n : Nat)] w fun e w' => e = .returned (.int .u64 (mixI (n : Int))) ∧ w = w' := by
  go_enter Tryd.func44, Tryd.ntmps44
  go_wp2_with fail
  go_ret
  exact ⟨rfl, rfl⟩
theorem rmix_any (n : Nat) (w : World) :
    Calls Tryd.prog 44 #[.int .u64 (n : Nat)] w fun e w' => e = .returned (.int .u64 (mixN n : Nat)) ∧ w = w' := by
  rw [← mixI_eq]
  exact rmix_in n w
/-- What a rule says of one span, by definition. -/
def oneF (r : RuleD) (s : SpanD) : Bool :=
  match whatF r.what with
  | .always => true
  | .fail => s.fail
  | .root => ((s.parent : Int) == 0)
  | .slow => decide (r.num ≤ s.len)
  | .many => false
  | .hash => decide (mixN s.trace % 1000 < r.num)
  | .service => (s.service.toList == r.text.toList)
  | .name => matchS r.text s.name
  | .other => false
theorem quest_one {r : RuleD} (h : whatF r.what ≠ .many) (n : Nat) (s : SpanD) : questF r n s = oneF r s := by
  unfold questF oneF
  cases hw : whatF r.what <;> first | rfl | exact absurd hw h
theorem quest_many {r : RuleD} (h : whatF r.what = .many) (n : Nat) (s : SpanD) : questF r n s = decide (r.num ≤ n) := by
  unfold questF
  rw [h]
theorem holds_not_many {r : RuleD} (hk : ruleOk r = true) (h : whatF r.what ≠ .many) (ss : List SpanD) : holdsF r ss = ss.any (oneF r) := by
  unfold holdsF
  rw [hk, Bool.true_and]
  congr 1
  funext s
  exact quest_one h _ _
theorem holds_many {r : RuleD} (hk : ruleOk r = true) (h : whatF r.what = .many) (ss : List SpanD) : holdsF r ss = (decide (0 < ss.length) && decide (r.num ≤ ss.length)) := by
  unfold holdsF
  rw [hk, Bool.true_and]
  cases ss with
  | nil => simp
  | cons s ss =>
    rw [List.any_cons, quest_many h]
    cases hd : decide (r.num ≤ (s :: ss).length)
    · simp only [Bool.false_or, Bool.and_false]
      refine List.any_eq_false.2 fun x _ => ?_
      rw [quest_many h, hd]
      decide
    · simp
/-- Both boxes of a call with a rule and a span. -/
theorem two_boxes (w : World) (r : RuleD) (s : SpanD) : Below w.heap.size w ((w.alloc (.cells (ruleCells r) 34)).alloc (.cells (spanCells s) 39)) :=
  ((Below.refl w.heap.size w).alloc (Nat.le_refl _) _).alloc (by simp) _
set_option maxRecDepth 20000 in
set_option maxHeartbeats 2000000 in
theorem ro_always (r : RuleD) (s : SpanD) (w : World) (hw : whatF r.what = .always) :
    Calls Tryd.prog 20 #[ruleVal r, spanVal s] w (BoolIs w (oneF r s)) := by
  have Hk := hid_ (show oneF r s = true by unfold oneF; rw [hw])
  have Ha := hid_ (two_boxes w r s)
  obtain ⟨e1, e2, e3, e4, e5, e6, e7, e8⟩ := what_always hw
  clear hw
  obtain ⟨kp, wh, nm, tx⟩ := r
  obtain ⟨t, i, p, st, ln, sv, na, f⟩ := s
  simp only at Hk e1 e2 e3 e4 e5 e6 e7 e8
  generalize oneF _ _ = ok at *
  go_enter Tryd.func20, Tryd.ntmps20
  go_wp2_with fail
  go_ret
  exact boolIs_mk Hk.out Ha.out
set_option maxRecDepth 20000 in
set_option maxHeartbeats 2000000 in
theorem ro_fail (r : RuleD) (s : SpanD) (w : World) (hw : whatF r.what = .fail) :
    Calls Tryd.prog 20 #[ruleVal r, spanVal s] w (BoolIs w (oneF r s)) := by
  have Hk := hid_ (show oneF r s = s.fail by unfold oneF; rw [hw])
  have Ha := hid_ (two_boxes w r s)
  obtain ⟨e1, e2, e3, e4, e5, e6, e7, e8⟩ := what_fail hw
  clear hw
  obtain ⟨kp, wh, nm, tx⟩ := r
  obtain ⟨t, i, p, st, ln, sv, na, f⟩ := s
  simp only at Hk e1 e2 e3 e4 e5 e6 e7 e8
  generalize oneF _ _ = ok at *
  go_enter Tryd.func20, Tryd.ntmps20
  go_wp2_with fail
  go_ret
  exact boolIs_mk Hk.out Ha.out
set_option maxRecDepth 20000 in
set_option maxHeartbeats 2000000 in
theorem ro_root (r : RuleD) (s : SpanD) (w : World) (hw : whatF r.what = .root) :
    Calls Tryd.prog 20 #[ruleVal r, spanVal s] w (BoolIs w (oneF r s)) := by
  have Hk := hid_ (show oneF r s = ((s.parent : Int) == 0) by unfold oneF; rw [hw])
  have Ha := hid_ (two_boxes w r s)
  obtain ⟨e1, e2, e3, e4, e5, e6, e7, e8⟩ := what_root hw
  clear hw
  obtain ⟨kp, wh, nm, tx⟩ := r
  obtain ⟨t, i, p, st, ln, sv, na, f⟩ := s
  simp only at Hk e1 e2 e3 e4 e5 e6 e7 e8
  generalize oneF _ _ = ok at *
  go_enter Tryd.func20, Tryd.ntmps20
  go_wp2_with fail
  go_ret
  exact boolIs_mk Hk.out Ha.out
set_option maxRecDepth 20000 in
set_option maxHeartbeats 2000000 in
theorem ro_slow (r : RuleD) (s : SpanD) (w : World) (hw : whatF r.what = .slow) :
    Calls Tryd.prog 20 #[ruleVal r, spanVal s] w (BoolIs w (oneF r s)) := by
  have Hk := hid_ (show oneF r s = decide (r.num ≤ s.len) by unfold oneF; rw [hw])
  have Ha := hid_ (two_boxes w r s)
  obtain ⟨e1, e2, e3, e4, e5, e6, e7, e8⟩ := what_slow hw
  clear hw
  obtain ⟨kp, wh, nm, tx⟩ := r
  obtain ⟨t, i, p, st, ln, sv, na, f⟩ := s
  simp only at Hk e1 e2 e3 e4 e5 e6 e7 e8
  generalize oneF _ _ = ok at *
  go_enter Tryd.func20, Tryd.ntmps20
  go_wp2_with fail
  go_ret
  exact boolIs_mk Hk.out Ha.out
set_option maxRecDepth 20000 in
set_option maxHeartbeats 2000000 in
theorem ro_many (r : RuleD) (s : SpanD) (w : World) (hw : whatF r.what = .many) :
    Calls Tryd.prog 20 #[ruleVal r, spanVal s] w (BoolIs w (oneF r s)) := by
  have Hk := hid_ (show oneF r s = false by unfold oneF; rw [hw])
  have Ha := hid_ (two_boxes w r s)
  obtain ⟨e1, e2, e3, e4, e5, e6, e7, e8⟩ := what_many hw
  clear hw
  obtain ⟨kp, wh, nm, tx⟩ := r
  obtain ⟨t, i, p, st, ln, sv, na, f⟩ := s
  simp only at Hk e1 e2 e3 e4 e5 e6 e7 e8
  generalize oneF _ _ = ok at *
  go_enter Tryd.func20, Tryd.ntmps20
  go_wp2_with fail
  go_ret
  exact boolIs_mk Hk.out Ha.out
set_option maxRecDepth 20000 in
set_option maxHeartbeats 2000000 in
theorem ro_hash (r : RuleD) (s : SpanD) (w : World) (hw : whatF r.what = .hash) :
    Calls Tryd.prog 20 #[ruleVal r, spanVal s] w (BoolIs w (oneF r s)) := by
  have Hk := hid_ (show oneF r s = decide (mixN s.trace % 1000 < r.num) by unfold oneF; rw [hw])
  have Ha := hid_ (two_boxes w r s)
  obtain ⟨e1, e2, e3, e4, e5, e6, e7, e8⟩ := what_hash hw
  clear hw
  have Hm := hid_ (fun (W : World) => rmix_any s.trace W)
  have hml := mix_lt s.trace
  obtain ⟨kp, wh, nm, tx⟩ := r
  obtain ⟨t, i, p, st, ln, sv, na, f⟩ := s
  simp only at Hk e1 e2 e3 e4 e5 e6 e7 e8 Hm hml
  generalize mixN t = m at *
  generalize oneF _ _ = ok at *
  go_enter Tryd.func20, Tryd.ntmps20
  go_wp2_with fail
  go_quiet ((go_at_call 44; exact Calls.quiet_of_same (quiet_flip (Hm.out _))))
  go_wp2_with fail
  go_ret
  exact boolIs_mk (by rw [Hk.out, Bool.eq_iff_iff]; simp; omega) (below_drewN Ha.out _)
set_option maxRecDepth 20000 in
set_option maxHeartbeats 2000000 in
theorem ro_service (r : RuleD) (s : SpanD) (w : World) (hw : whatF r.what = .service) :
    Calls Tryd.prog 20 #[ruleVal r, spanVal s] w (BoolIs w (oneF r s)) := by
  have Hk := hid_ (show oneF r s = (s.service.toList == r.text.toList) by unfold oneF; rw [hw])
  have Ha := hid_ (two_boxes w r s)
  obtain ⟨e1, e2, e3, e4, e5, e6, e7, e8⟩ := what_service hw
  clear hw
  obtain ⟨kp, wh, nm, tx⟩ := r
  obtain ⟨t, i, p, st, ln, sv, na, f⟩ := s
  simp only at Hk e1 e2 e3 e4 e5 e6 e7 e8
  generalize oneF _ _ = ok at *
  go_enter Tryd.func20, Tryd.ntmps20
  go_wp2_with fail
  go_ret
  exact boolIs_mk Hk.out Ha.out
set_option maxRecDepth 20000 in
set_option maxHeartbeats 2000000 in
theorem ro_name (r : RuleD) (s : SpanD) (w : World) (hw : whatF r.what = .name) (hp : r.text.size ≤ 1000000) (hs : s.name.size ≤ 1000000) :
    Calls Tryd.prog 20 #[ruleVal r, spanVal s] w (BoolIs w (oneF r s)) := by
  have Hk := hid_ (show oneF r s = matchS r.text s.name by unfold oneF; rw [hw])
  have Ha := hid_ (two_boxes w r s)
  obtain ⟨e1, e2, e3, e4, e5, e6, e7, e8⟩ := what_name hw
  clear hw
  have Hm := hid_ (fun (W : World) => rmatch_any r.text s.name W hp hs)
  clear hp hs
  obtain ⟨kp, wh, nm, tx⟩ := r
  obtain ⟨t, i, p, st, ln, sv, na, f⟩ := s
  simp only at Hk e1 e2 e3 e4 e5 e6 e7 e8 Hm
  generalize oneF _ _ = ok at *
  go_enter Tryd.func20, Tryd.ntmps20
  go_wp2_with fail
  refine Calls.mono (Hm.out _) ?_
  rintro e w1 ⟨rfl, hb⟩
  go_wp2_with fail
  go_ret
  exact boolIs_mk Hk.out (Ha.out.trans (hb.mono Ha.out.size))
set_option maxRecDepth 20000 in
set_option maxHeartbeats 2000000 in
theorem ro_other (r : RuleD) (s : SpanD) (w : World) (hw : whatF r.what = .other) :
    Calls Tryd.prog 20 #[ruleVal r, spanVal s] w (BoolIs w (oneF r s)) := by
  have Hk := hid_ (show oneF r s = false by unfold oneF; rw [hw])
  have Ha := hid_ (two_boxes w r s)
  obtain ⟨e1, e2, e3, e4, e5, e6, e7, e8⟩ := what_other hw
  clear hw
  obtain ⟨kp, wh, nm, tx⟩ := r
  obtain ⟨t, i, p, st, ln, sv, na, f⟩ := s
  simp only at Hk e1 e2 e3 e4 e5 e6 e7 e8
  generalize oneF _ _ = ok at *
  go_enter Tryd.func20, Tryd.ntmps20
  go_wp2_with fail
  go_ret
  exact boolIs_mk Hk.out Ha.out
theorem refquest_any (r : RuleD) (s : SpanD) (w : World) (hp : r.text.size ≤ 1000000) (hs : s.name.size ≤ 1000000) :
    Calls Tryd.prog 20 #[ruleVal r, spanVal s] w (BoolIs w (oneF r s)) := by
  cases hw : whatF r.what
  · exact ro_always r s w hw
  · exact ro_fail r s w hw
  · exact ro_root r s w hw
  · exact ro_slow r s w hw
  · exact ro_many r s w hw
  · exact ro_hash r s w hw
  · exact ro_service r s w hw
  · exact ro_name r s w hw hp hs
  · exact ro_other r s w hw

/-- The rule in its box. -/
abbrev RBoxR (W : World) (b : Nat) (r : RuleD) : Prop := Whole W b 34 (ruleCells r)
set_option maxRecDepth 20000 in
set_option maxHeartbeats 2000000 in
theorem refholds_any (r : RuleD) (hr : r.Wf) (A : Option Addr) (n c : Nat) (ss : List SpanD) (w : World) (hs : SpanRow w A n c ss) (hwf : ∀ s ∈ ss, s.Ok) (hp : r.text.size ≤ 1000000) :
    Calls Tryd.prog 10 #[ruleVal r, .slice A n c] w (BoolIs w (holdsF r ss)) := by
  obtain rfl := hs.len
  have hnc := Nat.le_trans hs.cap hs.max
  have Ho := hid_ (fun W => refone_any r W hr)
  have Hq := hid_ (fun W s (h : s ∈ ss) => refquest_any r s W hp (hwf s h).small)
  have Hs := hid_ hs
  have Hb0 := hid_ (whole_new w 34 (ruleCells r))
  have Ha := hid_ ((Below.refl w.heap.size w).alloc (Nat.le_refl _) (.cells (ruleCells r) 34))
  have Hany := hid_ (fun hk hm => holds_not_many (r := r) hk hm ss)
  have Hmany := hid_ (fun hk hm => holds_many (r := r) hk hm ss)
  have hnum := hr.num
  clear hs hwf hp hr
  cases hok : ruleOk r
  · rw [hok] at Ho
    have Hf := hid_ (show holdsF r ss = false by unfold holdsF; rw [hok]; rfl)
    clear hok
    go_enter Tryd.func10, Tryd.ntmps10
    go_wp2_with fail
    refine Calls.mono (Ho.out _) ?_
    rintro e w1 ⟨rfl, hb1⟩
    go_wp2_with fail
    go_ret
    exact boolIs_mk Hf.out (Ha.out.trans (hb1.mono Ha.out.size))
  rw [hok] at Ho
  by_cases hm : whatF r.what = .many
  · have Hf := hid_ (Hmany.out hok hm)
    obtain ⟨e1, e2, e3, e4, e5, e6, e7, e8⟩ := what_many hm
    clear hok hm
    have hwrap : IntKind.u64.wrap (ss.length : Int) = (ss.length : Int) := by rw [IntKind.wrap_u64]; omega
    by_cases h0 : 0 < ss.length
    · have z0 : decide ((0 : Int) < (ss.length : Int)) = true := decide_eq_true (by omega)
      have Hf2 := hid_ (show holdsF r ss = decide (r.num ≤ ss.length) by rw [Hf.out, decide_eq_true h0]; rfl)
      go_enter Tryd.func10, Tryd.ntmps10
      go_wp2_with fail
      refine Calls.mono (Ho.out _) ?_
      rintro e w1 ⟨rfl, hb1⟩
      have Hbox := hid_ (Hb0.out.below hb1 Hb0.out.lt)
      have k0 := Hbox.out.cell 0 (.bool r.keep) rfl
      have k1 := Hbox.out.cell 1 (.string r.what) rfl
      have k2 := Hbox.out.cell 2 (.int .u64 (r.num : Nat)) rfl
      have k3 := Hbox.out.cell 3 (.string r.text) rfl
      have Hb1 := hid_ (Ha.out.trans (hb1.mono Ha.out.size))
      clear hb1
      go_wp2_with fail
      go_ret
      exact boolIs_mk Hf2.out Hb1.out
    · have z0 : decide ((0 : Int) < (ss.length : Int)) = false := decide_eq_false (by omega)
      have Hf2 := hid_ (show holdsF r ss = false by rw [Hf.out, decide_eq_false h0]; rfl)
      go_enter Tryd.func10, Tryd.ntmps10
      go_wp2_with fail
      refine Calls.mono (Ho.out _) ?_
      rintro e w1 ⟨rfl, hb1⟩
      have Hbox := hid_ (Hb0.out.below hb1 Hb0.out.lt)
      have k0 := Hbox.out.cell 0 (.bool r.keep) rfl
      have k1 := Hbox.out.cell 1 (.string r.what) rfl
      have k2 := Hbox.out.cell 2 (.int .u64 (r.num : Nat)) rfl
      have k3 := Hbox.out.cell 3 (.string r.text) rfl
      have Hb1 := hid_ (Ha.out.trans (hb1.mono Ha.out.size))
      clear hb1
      go_wp2_with fail
      go_ret
      exact boolIs_mk Hf2.out Hb1.out
  have Hf := hid_ (Hany.out hok hm)
  have eM : (r.what.toList == [109, 97, 110, 121]) = false := by
    cases hw : whatF r.what
    · exact (what_always hw).2.2.2.2.1
    · exact (what_fail hw).2.2.2.2.1
    · exact (what_root hw).2.2.2.2.1
    · exact (what_slow hw).2.2.2.2.1
    · exact absurd hw hm
    · exact (what_hash hw).2.2.2.2.1
    · exact (what_service hw).2.2.2.2.1
    · exact (what_name hw).2.2.2.2.1
    · exact (what_other hw).2.2.2.2.1
  clear hok hm
  go_enter Tryd.func10, Tryd.ntmps10
  go_wp2_with fail
  refine Calls.mono (Ho.out _) ?_
  rintro e w1 ⟨rfl, hb1⟩
  have Hbox := hid_ (Hb0.out.below hb1 Hb0.out.lt)
  have k1 := Hbox.out.cell 1 (.string r.what) rfl
  have Hb1 := hid_ (Ha.out.trans (hb1.mono Ha.out.size))
  clear hb1
  go_wp2_with fail
  go_loopw [5] (fun vi wr => ∃ k : Nat, k ≤ ss.length ∧ vi = .int .i64 (k : Nat) ∧ Hid (∀ j (hj : j < ss.length), j < k → oneF r ss[j] = false) ∧ Hid (RBoxR wr w.heap.size r) ∧ Hid (Below w.heap.size w wr)) (fun vi _ => ss.length - (intOf vi).toNat)
  case atStart => exact ⟨0, Nat.zero_le _, rfl, hid_ (fun j _ h => absurd h (by omega)), Hbox, Hb1⟩
  case round =>
    clear Hbox Hb1 k1
    obtain ⟨k, hk, rfl, Hg, Hbox, Hw⟩ := hrel
    by_cases hlt : k < ss.length
    · obtain ⟨b, off, rfl, hc⟩ := (Hs.out.below Hw.out).at_ hlt
      obtain ⟨c0, c1, c2, c3, c4, c5, c6, c7⟩ := hc
      have k0 := Hbox.out.cell 0 (.bool r.keep) rfl
      have k1 := Hbox.out.cell 1 (.string r.what) rfl
      have k2 := Hbox.out.cell 2 (.int .u64 (r.num : Nat)) rfl
      have k3 := Hbox.out.cell 3 (.string r.text) rfl
      have x1 : (k : Int) < (ss.length : Int) := by omega
      have x2 : (0 : Int) ≤ (k : Int) := by omega
      have Hc := hid_ (fun W => Hq.out W ss[k] (List.getElem_mem hlt))
      have Hyes := hid_ (fun (h : oneF r ss[k] = true) => show ss.any (oneF r) = true from List.any_eq_true.2 ⟨_, List.getElem_mem hlt, h⟩)
      have Hno := hid_ (fun (h : oneF r ss[k] = false) => show ∀ j (hj : j < ss.length), j < k + 1 → oneF r ss[j] = false from fun j hj h2 => by
        by_cases e : j = k
        · subst e; exact h
        · exact Hg.out j hj (by omega))
      generalize ss[k] = s at *
      cases ho : oneF r s
      · have Hn := hid_ (Hno.out ho)
        rw [ho] at Hc
        clear ho
        go_wp2_with fail
        go_still_tail 5, (by kernel_rfl)
        go_wp2_with fail
        refine Calls.mono (Hc.out _) ?_
        rintro e w2 ⟨rfl, hb2⟩
        have Hw2 := hid_ ((Below.drew Hw.out).trans (hb2.mono (Below.drew Hw.out).size))
        have Hbox2 := hid_ (Whole.below (w := wr.drew) Hbox.out hb2 Hbox.out.lt)
        clear hb2 k0 k1 k2 k3 c0 c1 c2 c3 c4 c5 c6 c7
        go_wp2_with fail
        go_roundw
        case rel => exact ⟨k + 1, by omega, by go_num, Hn, Hbox2, Hw2⟩
        case measure => simp [intOf] <;> omega
      · have Hy := hid_ (Hyes.out ho)
        rw [ho] at Hc
        clear ho
        go_wp2_with fail
        go_still_tail 5, (by kernel_rfl)
        go_wp2_with fail
        refine Calls.mono (Hc.out _) ?_
        rintro e w2 ⟨rfl, hb2⟩
        have Hw2 := hid_ ((Below.drew Hw.out).trans (hb2.mono (Below.drew Hw.out).size))
        clear hb2 k0 k1 k2 k3 c0 c1 c2 c3 c4 c5 c6 c7
        go_wp2_with fail
        go_ret
        exact boolIs_mk (by rw [Hf.out, Hy.out]) Hw2.out
    · obtain rfl : k = ss.length := by omega
      have Hn := hid_ (show ss.any (oneF r) = false from List.any_eq_false.2 fun x hx => by
        obtain ⟨j, hj, rfl⟩ := List.getElem_of_mem hx
        rw [Hg.out j hj hj]
        decide)
      go_wp2_with fail
      go_ret
      exact boolIs_mk (by rw [Hf.out, Hn.out]) Hw.out
end Go.Proofs.YtlkpofhfkhdheaaDoor
