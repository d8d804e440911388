/-
  What a rule asks of a span: the function values that question makes.
-/
import Derived.Test.YtlkpofhfkhdheaaGreatDoorMix
import Derived.Test.YtlkpofhfkhdheaaGreatDoorMatchMath
namespace Go.Proofs.YtlkpofhfkhdheaaGreatDoor
open Go.RowKit Ru

/-- A pattern matches a name: of right texts, rune by rune. -/
def matchS (p s : ByteArray) : Bool := match runesOf p 0, runesOf s 0 with | some a, some b => matchF a b | _, _ => false
/-- What a rule asks of one of so many spans. -/
def questF (r : RuleD) (count : Nat) (s : SpanD) : Bool :=
  match whatF r.what with
  | .always => true
  | .fail => s.fail
  | .root => ((s.parent : Int) == 0)
  | .slow => decide (r.num ≤ s.len)
  | .many => decide (r.num ≤ count)
  | .hash => decide (mixN s.trace % 1000 < r.num)
  | .service => (s.service.toList == r.text.toList)
  | .name => matchS r.text s.name
  | .other => false
/-- The rule's own box. -/
abbrev RBox (W : World) (b : Nat) (r : RuleD) : Prop := Whole W b 49 (ruleCells r)
set_option maxHeartbeats 1000000 in
theorem q_always (s : SpanD) (W : World) : Calls Tryz.prog 56 #[spanVal s] W (BoolIs W true) := by
  go_enter Tryz.func56, Tryz.ntmps56
  go_wp2_with fail
  go_ret
  exact boolIs_mk rfl ((Below.refl _ _).alloc (Nat.le_refl _) _)
set_option maxHeartbeats 1000000 in
theorem q_fail (s : SpanD) (W : World) : Calls Tryz.prog 57 #[spanVal s] W (BoolIs W s.fail) := by
  go_enter Tryz.func57, Tryz.ntmps57
  go_wp2_with fail
  go_ret
  exact boolIs_mk rfl ((Below.refl _ _).alloc (Nat.le_refl _) _)
set_option maxHeartbeats 1000000 in
theorem q_root (s : SpanD) (W : World) : Calls Tryz.prog 58 #[spanVal s] W (BoolIs W ((s.parent : Int) == 0)) := by
  go_enter Tryz.func58, Tryz.ntmps58
  go_wp2_with fail
  go_ret
  exact boolIs_mk rfl ((Below.refl _ _).alloc (Nat.le_refl _) _)
set_option maxHeartbeats 1000000 in
theorem q_slow (s : SpanD) (r : RuleD) (b : Nat) (W : World) (hb : RBox W b r) : Calls Tryz.prog 59 #[spanVal s, .pointer (some ⟨b, 0, none⟩)] W (BoolIs W (decide (r.num ≤ s.len))) := by
  have c2 := hb.cell 2 (.int .u64 (r.num : Nat)) rfl
  have hlt := hb.lt
  have hne : b ≠ W.heap.size := by omega
  clear hb
  go_enter Tryz.func59, Tryz.ntmps59
  go_wp2_with fail
  go_ret
  exact boolIs_mk (by simp) ((Below.refl _ _).alloc (Nat.le_refl _) _)
set_option maxHeartbeats 1000000 in
theorem q_many (s : SpanD) (r : RuleD) (b b2 k : Nat) (hk : k < 4611686018427387904) (W : World) (hb : RBox W b r) (h2 : Whole W b2 3 #[.int .i64 (k : Nat)]) : Calls Tryz.prog 60 #[spanVal s, .pointer (some ⟨b2, 0, none⟩), .pointer (some ⟨b, 0, none⟩)] W (BoolIs W (decide (r.num ≤ k))) := by
  have c2 := hb.cell 2 (.int .u64 (r.num : Nat)) rfl
  have d2 := h2.cell 0 (.int .i64 (k : Nat)) rfl
  have hlt := hb.lt
  have hlt2 := h2.lt
  have hne : b ≠ W.heap.size := by omega
  have hne2 : b2 ≠ W.heap.size := by omega
  have hw : IntKind.u64.wrap (k : Int) = (k : Int) := by rw [IntKind.wrap_u64]; omega
  clear hb h2
  go_enter Tryz.func60, Tryz.ntmps60
  go_wp2_with fail
  go_ret
  exact boolIs_mk (by simp) ((Below.refl _ _).alloc (Nat.le_refl _) _)
set_option maxHeartbeats 1000000 in
theorem q_hash (s : SpanD) (r : RuleD) (b : Nat) (W : World) (hb : RBox W b r) : Calls Tryz.prog 61 #[spanVal s, .pointer (some ⟨b, 0, none⟩)] W (BoolIs W (decide (mixN s.trace % 1000 < r.num))) := by
  have c2 := hb.cell 2 (.int .u64 (r.num : Nat)) rfl
  have hlt := hb.lt
  have hne : b ≠ W.heap.size := by omega
  have Hm := hid_ (fun (W : World) => mix_any s.trace W)
  have hml := mix_lt s.trace
  obtain ⟨t, i, p, st, ln, sv, nm, f⟩ := s
  simp only at Hm hml ⊢
  generalize mixN t = m at *
  clear hb
  go_enter Tryz.func61, Tryz.ntmps61
  go_wp2_with fail
  go_quiet ((go_at_call 16; exact Calls.quiet_of_same (quiet_flip (Hm.out _))))
  go_wp2_with fail
  go_ret
  exact boolIs_mk (by rw [Bool.eq_iff_iff]; simp; omega) (below_drewN ((Below.refl _ _).alloc (Nat.le_refl _) _) _)
set_option maxHeartbeats 1000000 in
theorem q_service (s : SpanD) (r : RuleD) (b : Nat) (W : World) (hb : RBox W b r) : Calls Tryz.prog 62 #[spanVal s, .pointer (some ⟨b, 0, none⟩)] W (BoolIs W (s.service.toList == r.text.toList)) := by
  have c3 := hb.cell 3 (.string r.text) rfl
  have hlt := hb.lt
  have hne : b ≠ W.heap.size := by omega
  clear hb
  go_enter Tryz.func62, Tryz.ntmps62
  go_wp2_with fail
  go_ret
  exact boolIs_mk rfl ((Below.refl _ _).alloc (Nat.le_refl _) _)
set_option maxHeartbeats 1000000 in
theorem q_name (s : SpanD) (r : RuleD) (b : Nat) (W : World) (hb : RBox W b r) (v : Bool) (hm : ∀ W', Below W.heap.size W W' → Calls Tryz.prog 64 #[.string r.text, .string s.name] W' (BoolIs W' v)) :
    Calls Tryz.prog 63 #[spanVal s, .pointer (some ⟨b, 0, none⟩)] W (BoolIs W v) := by
  have c3 := hb.cell 3 (.string r.text) rfl
  have hlt := hb.lt
  have hne : b ≠ W.heap.size := by omega
  have Hm := hid_ hm
  have Ha := hid_ ((Below.refl W.heap.size W).alloc (Nat.le_refl _) (.cells (spanCells s) 46))
  clear hb hm
  go_enter Tryz.func63, Tryz.ntmps63
  go_wp2_with fail
  refine Calls.mono (Hm.out _ Ha.out) ?_
  rintro e w' ⟨rfl, hb'⟩
  go_wp2_with fail
  go_ret
  exact boolIs_mk rfl (Ha.out.trans (hb'.mono Ha.out.size))
set_option maxHeartbeats 1000000 in
theorem q_other (s : SpanD) (W : World) : Calls Tryz.prog 65 #[spanVal s] W (BoolIs W false) := by
  go_enter Tryz.func65, Tryz.ntmps65
  go_wp2_with fail
  go_ret
  exact boolIs_mk rfl ((Below.refl _ _).alloc (Nat.le_refl _) _)

def QPost (w : World) (r : RuleD) (k : Nat) (e : Ending) (w' : World) : Prop :=
  ∃ g lb, e = .returned (.func (.func g) #[] lb) ∧ (∀ args w, (callFunc g args).run Tryz.prog w = .ok (.enter g args) w) ∧ PredS g lb (questF r k) w' ∧ Below w.heap.size w w'
theorem qpost_mk {w w' : World} {r : RuleD} {k g : Nat} {lb : Array Value} (eg : ∀ args w, (callFunc g args).run Tryz.prog w = .ok (.enter g args) w) (hp : PredS g lb (questF r k) w') (hb : Below w.heap.size w w') : QPost w r k (.returned (.func (.func g) #[] lb)) w' := ⟨g, lb, rfl, eg, hp, hb⟩
/-- What Match answers where a rule asks it. -/
def MatchOk (r : RuleD) (w : World) : Prop := whatF r.what = .name → ∀ (W : World) (s : SpanD), Below w.heap.size w W → s.Ok → Calls Tryz.prog 64 #[.string r.text, .string s.name] W (BoolIs W (matchS r.text s.name))
theorem two_box (w : World) (r : RuleD) (k : Nat) : RBox ((w.alloc (.cells (ruleCells r) 49)).alloc (.cells #[.int .i64 (k : Nat)] 3)) w.heap.size r ∧
    Whole ((w.alloc (.cells (ruleCells r) 49)).alloc (.cells #[.int .i64 (k : Nat)] 3)) (w.heap.size + 1) 3 #[.int .i64 (k : Nat)] ∧ Below w.heap.size w ((w.alloc (.cells (ruleCells r) 49)).alloc (.cells #[.int .i64 (k : Nat)] 3)) :=
  ⟨(whole_new w _ _).alloc _, whole_at _ _ _ _ (by simp), ((Below.refl _ _).alloc (Nat.le_refl _) _).alloc (by simp) _⟩
set_option maxHeartbeats 4000000 in
theorem question_any (r : RuleD) (k : Nat) (hk : k < 4611686018427387904) (w : World) (hm : MatchOk r w) :
    Calls Tryz.prog 43 #[ruleVal r, .int .i64 (k : Nat)] w (QPost w r k) := by
  obtain ⟨b1, b2, b3⟩ := two_box w r k
  have B1 := hid_ b1
  have B2 := hid_ b2
  have B3 := hid_ b3
  have HM := hid_ hm
  clear b1 b2 b3 hm
  cases hw : whatF r.what
  · obtain ⟨e1, e2, e3, e4, e5, e6, e7, e8⟩ := what_always hw
    have Hw := hid_ hw
    have Hq : Hid (PredS 56 #[] (questF r k) ((w.alloc (.cells (ruleCells r) 49)).alloc (.cells #[.int .i64 (k : Nat)] 3))) := hid_ (fun W s hW hs => by
      have h := q_always s W
      unfold questF
      rw [Hw.out]
      exact h)
    clear hw
    go_enter Tryz.func43, Tryz.ntmps43
    go_wp2_with fail
    go_ret
    exact qpost_mk (enters_of Tryz.func56 (by kernel_rfl) rfl) Hq.out B3.out
  · obtain ⟨e1, e2, e3, e4, e5, e6, e7, e8⟩ := what_fail hw
    have Hw := hid_ hw
    have Hq : Hid (PredS 57 #[] (questF r k) ((w.alloc (.cells (ruleCells r) 49)).alloc (.cells #[.int .i64 (k : Nat)] 3))) := hid_ (fun W s hW hs => by
      have h := q_fail s W
      unfold questF
      rw [Hw.out]
      exact h)
    clear hw
    go_enter Tryz.func43, Tryz.ntmps43
    go_wp2_with fail
    go_ret
    exact qpost_mk (enters_of Tryz.func57 (by kernel_rfl) rfl) Hq.out B3.out
  · obtain ⟨e1, e2, e3, e4, e5, e6, e7, e8⟩ := what_root hw
    have Hw := hid_ hw
    have Hq : Hid (PredS 58 #[] (questF r k) ((w.alloc (.cells (ruleCells r) 49)).alloc (.cells #[.int .i64 (k : Nat)] 3))) := hid_ (fun W s hW hs => by
      have h := q_root s W
      unfold questF
      rw [Hw.out]
      exact h)
    clear hw
    go_enter Tryz.func43, Tryz.ntmps43
    go_wp2_with fail
    go_ret
    exact qpost_mk (enters_of Tryz.func58 (by kernel_rfl) rfl) Hq.out B3.out
  · obtain ⟨e1, e2, e3, e4, e5, e6, e7, e8⟩ := what_slow hw
    have Hw := hid_ hw
    have Hq : Hid (PredS 59 #[.pointer (some ⟨w.heap.size, 0, none⟩)] (questF r k) ((w.alloc (.cells (ruleCells r) 49)).alloc (.cells #[.int .i64 (k : Nat)] 3))) := hid_ (fun W s hW hs => by
      have h := q_slow s r _ W (B1.out.below hW B1.out.lt)
      unfold questF
      rw [Hw.out]
      exact h)
    clear hw
    go_enter Tryz.func43, Tryz.ntmps43
    go_wp2_with fail
    go_ret
    exact qpost_mk (enters_of Tryz.func59 (by kernel_rfl) rfl) Hq.out B3.out
  · obtain ⟨e1, e2, e3, e4, e5, e6, e7, e8⟩ := what_many hw
    have Hw := hid_ hw
    have Hq : Hid (PredS 60 #[.pointer (some ⟨w.heap.size + 1, 0, none⟩), .pointer (some ⟨w.heap.size, 0, none⟩)] (questF r k) ((w.alloc (.cells (ruleCells r) 49)).alloc (.cells #[.int .i64 (k : Nat)] 3))) := hid_ (fun W s hW hs => by
      have h := q_many s r _ _ k hk W (B1.out.below hW B1.out.lt) (B2.out.below hW B2.out.lt)
      unfold questF
      rw [Hw.out]
      exact h)
    clear hw
    go_enter Tryz.func43, Tryz.ntmps43
    go_wp2_with fail
    go_ret
    exact qpost_mk (enters_of Tryz.func60 (by kernel_rfl) rfl) Hq.out B3.out
  · obtain ⟨e1, e2, e3, e4, e5, e6, e7, e8⟩ := what_hash hw
    have Hw := hid_ hw
    have Hq : Hid (PredS 61 #[.pointer (some ⟨w.heap.size, 0, none⟩)] (questF r k) ((w.alloc (.cells (ruleCells r) 49)).alloc (.cells #[.int .i64 (k : Nat)] 3))) := hid_ (fun W s hW hs => by
      have h := q_hash s r _ W (B1.out.below hW B1.out.lt)
      unfold questF
      rw [Hw.out]
      exact h)
    clear hw
    go_enter Tryz.func43, Tryz.ntmps43
    go_wp2_with fail
    go_ret
    exact qpost_mk (enters_of Tryz.func61 (by kernel_rfl) rfl) Hq.out B3.out
  · obtain ⟨e1, e2, e3, e4, e5, e6, e7, e8⟩ := what_service hw
    have Hw := hid_ hw
    have Hq : Hid (PredS 62 #[.pointer (some ⟨w.heap.size, 0, none⟩)] (questF r k) ((w.alloc (.cells (ruleCells r) 49)).alloc (.cells #[.int .i64 (k : Nat)] 3))) := hid_ (fun W s hW hs => by
      have h := q_service s r _ W (B1.out.below hW B1.out.lt)
      unfold questF
      rw [Hw.out]
      exact h)
    clear hw
    go_enter Tryz.func43, Tryz.ntmps43
    go_wp2_with fail
    go_ret
    exact qpost_mk (enters_of Tryz.func62 (by kernel_rfl) rfl) Hq.out B3.out
  · obtain ⟨e1, e2, e3, e4, e5, e6, e7, e8⟩ := what_name hw
    have Hw := hid_ hw
    have Hq : Hid (PredS 63 #[.pointer (some ⟨w.heap.size, 0, none⟩)] (questF r k) ((w.alloc (.cells (ruleCells r) 49)).alloc (.cells #[.int .i64 (k : Nat)] 3))) := hid_ (fun W s hW hs => by
      have h := q_name s r _ W (B1.out.below hW B1.out.lt) _ (fun W' hW' => HM.out Hw.out W' s ((B3.out.trans (hW.mono B3.out.size)).trans (hW'.mono (Nat.le_trans B3.out.size hW.size))) hs)
      unfold questF
      rw [Hw.out]
      exact h)
    clear hw
    go_enter Tryz.func43, Tryz.ntmps43
    go_wp2_with fail
    go_ret
    exact qpost_mk (enters_of Tryz.func63 (by kernel_rfl) rfl) Hq.out B3.out
  · obtain ⟨e1, e2, e3, e4, e5, e6, e7, e8⟩ := what_other hw
    have Hw := hid_ hw
    have Hq : Hid (PredS 65 #[] (questF r k) ((w.alloc (.cells (ruleCells r) 49)).alloc (.cells #[.int .i64 (k : Nat)] 3))) := hid_ (fun W s hW hs => by
      have h := q_other s W
      unfold questF
      rw [Hw.out]
      exact h)
    clear hw
    go_enter Tryz.func43, Tryz.ntmps43
    go_wp2_with fail
    go_ret
    exact qpost_mk (enters_of Tryz.func65 (by kernel_rfl) rfl) Hq.out B3.out
end Go.Proofs.YtlkpofhfkhdheaaGreatDoor
