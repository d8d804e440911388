/-
  What a rule asks of a span: the function values that question makes.
-/
import Derived.Test.YtlkpofhfkhdheaaDoorMix
import Derived.Test.YtlkpofhfkhdheaaDoorMatchMath
namespace Go.Proofs.YtlkpofhfkhdheaaDoor
open Go.RowKit Ru

/-- A pattern matches a name: of right texts, rune by rune. -/
def matchS (p s : ByteArray) : Bool := match runesOf p 0, runesOf s 0 with | some a, some b => matchF a b | _, _ => false
/-- What a rule asks of one of so many spans. -/
def questF (r : RuleD) (count : Nat) (s : SpanD) : Bool :=
  match whatF r.what with
  | .always => true
  | .fail => s.fail
  | .root => ((s.parent : Int) == 0)
  | .slow => decide (r.num ≤ s.len)
  | .many => decide (r.num ≤ count)
  | .hash => decide (mixN s.trace % 1000 < r.num)
  | .service => (s.service.toList == r.text.toList)
  | .name => matchS r.text s.name
  | .other => false
/-- The rule's own box. -/
abbrev RBox (W : World) (b : Nat) (r : RuleD) : Prop := Whole W b 32 (ruleCells r)
set_option maxHeartbeats 1000000 in
theorem q_always (s : SpanD) (W : World) : Calls Tryd.prog 32 #[spanVal s] W (BoolIs W true) := by
  go_enter Tryd.func32, Tryd.ntmps32
  go_wp2_with fail
  go_ret
  exact boolIs_mk rfl ((Below.refl _ _).alloc (Nat.le_refl _) _)
set_option maxHeartbeats 1000000 in
theorem q_fail (s : SpanD) (W : World) : Calls Tryd.prog 33 #[spanVal s] W (BoolIs W s.fail) := by
  go_enter Tryd.func33, Tryd.ntmps33
  go_wp2_with fail
  go_ret
  exact boolIs_mk rfl ((Below.refl _ _).alloc (Nat.le_refl _) _)
set_option maxHeartbeats 1000000 in
theorem q_root (s : SpanD) (W : World) : Calls Tryd.prog 34 #[spanVal s] W (BoolIs W ((s.parent : Int) == 0)) := by
  go_enter Tryd.func34, Tryd.ntmps34
  go_wp2_with fail
  go_ret
  exact boolIs_mk rfl ((Below.refl _ _).alloc (Nat.le_refl _) _)
set_option maxHeartbeats 1000000 in
theorem q_slow (s : SpanD) (r : RuleD) (b : Nat) (W : World) (hb : RBox W b r) : Calls Tryd.prog 35 #[spanVal s, .pointer (some ⟨b, 0, none⟩)] W (BoolIs W (decide (r.num ≤ s.len))) := by
  have c2 := hb.cell 2 (.int .u64 (r.num : Nat)) rfl
  have hlt := hb.lt
  have hne : b ≠ W.heap.size := by omega
  clear hb
  go_enter Tryd.func35, Tryd.ntmps35
  go_wp2_with fail
  go_ret
  exact boolIs_mk (by simp) ((Below.refl _ _).alloc (Nat.le_refl _) _)
set_option maxHeartbeats 1000000 in
theorem q_many (s : SpanD) (r : RuleD) (b b2 k : Nat) (hk : k < 4611686018427387904) (W : World) (hb : RBox W b r) (h2 : Whole W b2 3 #[.int .i64 (k : Nat)]) : Calls Tryd.prog 36 #[spanVal s, .pointer (some ⟨b2, 0, none⟩), .pointer (some ⟨b, 0, none⟩)] W (BoolIs W (decide (r.num ≤ k))) := by
  have c2 := hb.cell 2 (.int .u64 (r.num : Nat)) rfl
  have d2 := h2.cell 0 (.int .i64 (k : Nat)) rfl
  have hlt := hb.lt
  have hlt2 := h2.lt
  have hne : b ≠ W.heap.size := by omega
  have hne2 : b2 ≠ W.heap.size := by omega
  have hw : IntKind.u64.wrap (k : Int) = (k : Int) := by rw [IntKind.wrap_u64]; omega
  clear hb h2
  go_enter Tryd.func36, Tryd.ntmps36
  go_wp2_with fail
  go_ret
  exact boolIs_mk (by simp) ((Below.refl _ _).alloc (Nat.le_refl _) _)
set_option maxHeartbeats 1000000 in
theorem q_hash (s : SpanD) (r : RuleD) (b : Nat) (W : World) (hb : RBox W b r) : Calls Tryd.prog 37 #[spanVal s, .pointer (some ⟨b, 0, none⟩)] W (BoolIs W (decide (mixN s.trace % 1000 < r.num))) := by
  have c2 := hb.cell 2 (.int .u64 (r.num : Nat)) rfl
  have hlt := hb.lt
  have hne : b ≠ W.heap.size := by omega
  have Hm := hid_ (fun (W : World) => mix_any s.trace W)
  have hml := mix_lt s.trace
  obtain ⟨t, i, p, st, ln, sv, nm, f⟩ := s
  simp only at Hm hml ⊢
  generalize mixN t = m at *
  clear hb
  go_enter Tryd.func37, Tryd.ntmps37
  go_wp2_with fail
  go_quiet ((go_at_call 15; exact Calls.quiet_of_same (quiet_flip (Hm.out _))))
  go_wp2_with fail
  go_ret
  exact boolIs_mk (by rw [Bool.eq_iff_iff]; simp; omega) (below_drewN ((Below.refl _ _).alloc (Nat.le_refl _) _) _)
set_option maxHeartbeats 1000000 in
theorem q_service (s : SpanD) (r : RuleD) (b : Nat) (W : World) (hb : RBox W b r) : Calls Tryd.prog 38 #[spanVal s, .pointer (some ⟨b, 0, none⟩)] W (BoolIs W (s.service.toList == r.text.toList)) := by
  have c3 := hb.cell 3 (.string r.text) rfl
  have hlt := hb.lt
  have hne : b ≠ W.heap.size := by omega
  clear hb
  go_enter Tryd.func38, Tryd.ntmps38
  go_wp2_with fail
  go_ret
  exact boolIs_mk rfl ((Below.refl _ _).alloc (Nat.le_refl _) _)
set_option maxHeartbeats 1000000 in
theorem q_name (s : SpanD) (r : RuleD) (b : Nat) (W : World) (hb : RBox W b r) (v : Bool) (hm : ∀ W', Below W.heap.size W W' → Calls Tryd.prog 40 #[.string r.text, .string s.name] W' (BoolIs W' v)) :
    Calls Tryd.prog 39 #[spanVal s, .pointer (some ⟨b, 0, none⟩)] W (BoolIs W v) := by
  have c3 := hb.cell 3 (.string r.text) rfl
  have hlt := hb.lt
  have hne : b ≠ W.heap.size := by omega
  have Hm := hid_ hm
  have Ha := hid_ ((Below.refl W.heap.size W).alloc (Nat.le_refl _) (.cells (spanCells s) 39))
  clear hb hm
  go_enter Tryd.func39, Tryd.ntmps39
  go_wp2_with fail
  refine Calls.mono (Hm.out _ Ha.out) ?_
  rintro e w' ⟨rfl, hb'⟩
  go_wp2_with fail
  go_ret
  exact boolIs_mk rfl (Ha.out.trans (hb'.mono Ha.out.size))
set_option maxHeartbeats 1000000 in
theorem q_other (s : SpanD) (W : World) : Calls Tryd.prog 41 #[spanVal s] W (BoolIs W false) := by
  go_enter Tryd.func41, Tryd.ntmps41
  go_wp2_with fail
  go_ret
  exact boolIs_mk rfl ((Below.refl _ _).alloc (Nat.le_refl _) _)

def QPost (w : World) (r : RuleD) (k : Nat) (e : Ending) (w' : World) : Prop :=
  ∃ g lb, e = .returned (.func (.func g) #[] lb) ∧ (∀ args w, (callFunc g args).run Tryd.prog w = .ok (.enter g args) w) ∧ PredS g lb (questF r k) w' ∧ Below w.heap.size w w'
theorem qpost_mk {w w' : World} {r : RuleD} {k g : Nat} {lb : Array Value} (eg : ∀ args w, (callFunc g args).run Tryd.prog w = .ok (.enter g args) w) (hp : PredS g lb (questF r k) w') (hb : Below w.heap.size w w') : QPost w r k (.returned (.func (.func g) #[] lb)) w' := ⟨g, lb, rfl, eg, hp, hb⟩
/-- What Match answers where a rule asks it. -/
def MatchOk (r : RuleD) (w : World) : Prop := whatF r.what = .name → ∀ (W : World) (s : SpanD), Below w.heap.size w W → s.Ok → Calls Tryd.prog 40 #[.string r.text, .string s.name] W (BoolIs W (matchS r.text s.name))
theorem two_box (w : World) (r : RuleD) (k : Nat) : RBox ((w.alloc (.cells (ruleCells r) 32)).alloc (.cells #[.int .i64 (k : Nat)] 3)) w.heap.size r ∧
    Whole ((w.alloc (.cells (ruleCells r) 32)).alloc (.cells #[.int .i64 (k : Nat)] 3)) (w.heap.size + 1) 3 #[.int .i64 (k : Nat)] ∧ Below w.heap.size w ((w.alloc (.cells (ruleCells r) 32)).alloc (.cells #[.int .i64 (k : Nat)] 3)) :=
  ⟨(whole_new w _ _).alloc _, whole_at _ _ _ _ (by simp), ((Below.refl _ _).alloc (Nat.le_refl _) _).alloc (by simp) _⟩
set_option maxHeartbeats 4000000 in
theorem question_any (r : RuleD) (k : Nat) (hk : k < 4611686018427387904) (w : World) (hm : MatchOk r w) :
    Calls Tryd.prog 18 #[ruleVal r, .int .i64 (k : Nat)] w (QPost w r k) := by
  obtain ⟨b1, b2, b3⟩ := two_box w r k
  have B1 := hid_ b1
  have B2 := hid_ b2
  have B3 := hid_ b3
  have HM := hid_ hm
  clear b1 b2 b3 hm
  cases hw : whatF r.what
  · obtain ⟨e1, e2, e3, e4, e5, e6, e7, e8⟩ := what_always hw
    have Hw := hid_ hw
    have Hq : Hid (PredS 32 #[] (questF r k) ((w.alloc (.cells (ruleCells r) 32)).alloc (.cells #[.int .i64 (k : Nat)] 3))) := hid_ (fun W s hW hs => by
      have h := q_always s W
      unfold questF
      rw [Hw.out]
      exact h)
    clear hw
    go_enter Tryd.func18, Tryd.ntmps18
    go_wp2_with fail
    go_ret
    exact qpost_mk (enters_of Tryd.func32 (by kernel_rfl) rfl) Hq.out B3.out
  · obtain ⟨e1, e2, e3, e4, e5, e6, e7, e8⟩ := what_fail hw
    have Hw := hid_ hw
    have Hq : Hid (PredS 33 #[] (questF r k) ((w.alloc (.cells (ruleCells r) 32)).alloc (.cells #[.int .i64 (k : Nat)] 3))) := hid_ (fun W s hW hs => by
      have h := q_fail s W
      unfold questF
      rw [Hw.out]
      exact h)
    clear hw
    go_enter Tryd.func18, Tryd.ntmps18
    go_wp2_with fail
    go_ret
    exact qpost_mk (enters_of Tryd.func33 (by kernel_rfl) rfl) Hq.out B3.out
  · obtain ⟨e1, e2, e3, e4, e5, e6, e7, e8⟩ := what_root hw
    have Hw := hid_ hw
    have Hq : Hid (PredS 34 #[] (questF r k) ((w.alloc (.cells (ruleCells r) 32)).alloc (.cells #[.int .i64 (k : Nat)] 3))) := hid_ (fun W s hW hs => by
      have h := q_root s W
      unfold questF
      rw [Hw.out]
      exact h)
    clear hw
    go_enter Tryd.func18, Tryd.ntmps18
    go_wp2_with fail
    go_ret
    exact qpost_mk (enters_of Tryd.func34 (by kernel_rfl) rfl) Hq.out B3.out
  · obtain ⟨e1, e2, e3, e4, e5, e6, e7, e8⟩ := what_slow hw
    have Hw := hid_ hw
    have Hq : Hid (PredS 35 #[.pointer (some ⟨w.heap.size, 0, none⟩)] (questF r k) ((w.alloc (.cells (ruleCells r) 32)).alloc (.cells #[.int .i64 (k : Nat)] 3))) := hid_ (fun W s hW hs => by
      have h := q_slow s r _ W (B1.out.below hW B1.out.lt)
      unfold questF
      rw [Hw.out]
      exact h)
    clear hw
    go_enter Tryd.func18, Tryd.ntmps18
    go_wp2_with fail
    go_ret
    exact qpost_mk (enters_of Tryd.func35 (by kernel_rfl) rfl) Hq.out B3.out
  · obtain ⟨e1, e2, e3, e4, e5, e6, e7, e8⟩ := what_many hw
    have Hw := hid_ hw
    have Hq : Hid (PredS 36 #[.pointer (some ⟨w.heap.size + 1, 0, none⟩), .pointer (some ⟨w.heap.size, 0, none⟩)] (questF r k) ((w.alloc (.cells (ruleCells r) 32)).alloc (.cells #[.int .i64 (k : Nat)] 3))) := hid_ (fun W s hW hs => by
      have h := q_many s r _ _ k hk W (B1.out.below hW B1.out.lt) (B2.out.below hW B2.out.lt)
      unfold questF
      rw [Hw.out]
      exact h)
    clear hw
    go_enter Tryd.func18, Tryd.ntmps18
    go_wp2_with fail
    go_ret
    exact qpost_mk (enters_of Tryd.func36 (by kernel_rfl) rfl) Hq.out B3.out
  · obtain ⟨e1, e2, e3, e4, e5, e6, e7, e8⟩ := what_hash hw
    have Hw := hid_ hw
    have Hq : Hid (PredS 37 #[.pointer (some ⟨w.heap.size, 0, none⟩)] (questF r k) ((w.alloc (.cells (ruleCells r) 32)).alloc (.cells #[.int .i64 (k : Nat)] 3))) := hid_ (fun W s hW hs => by
      have h := q_hash s r _ W (B1.out.below hW B1.out.lt)
      unfold questF
      rw [Hw.out]
      exact h)
    clear hw
    go_enter Tryd.func18, Tryd.ntmps18
    go_wp2_with fail
    go_ret
    exact qpost_mk (enters_of Tryd.func37 (by kernel_rfl) rfl) Hq.out B3.out
  · obtain ⟨e1, e2, e3, e4, e5, e6, e7, e8⟩ := what_service hw
    have Hw := hid_ hw
    have Hq : Hid (PredS 38 #[.pointer (some ⟨w.heap.size, 0, none⟩)] (questF r k) ((w.alloc (.cells (ruleCells r) 32)).alloc (.cells #[.int .i64 (k : Nat)] 3))) := hid_ (fun W s hW hs => by
      have h := q_service s r _ W (B1.out.below hW B1.out.lt)
      unfold questF
      rw [Hw.out]
      exact h)
    clear hw
    go_enter Tryd.func18, Tryd.ntmps18
    go_wp2_with fail
    go_ret
    exact qpost_mk (enters_of Tryd.func38 (by kernel_rfl) rfl) Hq.out B3.out
  · obtain ⟨e1, e2, e3, e4, e5, e6, e7, e8⟩ := what_name hw
    have Hw := hid_ hw
    have Hq : Hid (PredS 39 #[.pointer (some ⟨w.heap.size, 0, none⟩)] (questF r k) ((w.alloc (.cells (ruleCells r) 32)).alloc (.cells #[.int .i64 (k : Nat)] 3))) := hid_ (fun W s hW hs => by
      have h := q_name s r _ W (B1.out.below hW B1.out.lt) _ (fun W' hW' => HM.out Hw.out W' s ((B3.out.trans (hW.mono B3.out.size)).trans (hW'.mono (Nat.le_trans B3.out.size hW.size))) hs)
      unfold questF
      rw [Hw.out]
      exact h)
    clear hw
    go_enter Tryd.func18, Tryd.ntmps18
    go_wp2_with fail
    go_ret
    exact qpost_mk (enters_of Tryd.func39 (by kernel_rfl) rfl) Hq.out B3.out
  · obtain ⟨e1, e2, e3, e4, e5, e6, e7, e8⟩ := what_other hw
    have Hw := hid_ hw
    have Hq : Hid (PredS 41 #[] (questF r k) ((w.alloc (.cells (ruleCells r) 32)).alloc (.cells #[.int .i64 (k : Nat)] 3))) := hid_ (fun W s hW hs => by
      have h := q_other s W
      unfold questF
      rw [Hw.out]
      exact h)
    clear hw
    go_enter Tryd.func18, Tryd.ntmps18
    go_wp2_with fail
    go_ret
    exact qpost_mk (enters_of Tryd.func41 (by kernel_rfl) rfl) Hq.out B3.out
end Go.Proofs.YtlkpofhfkhdheaaDoor
