/-
  The law's look at the spans, and its own copy of the rules.
-/
import Derived.Test.YtlkpofhfkhdheaaGreatDoorLight
import Derived.Test.YtlkpofhfkhdheaaGreatDoorRuleOpen
import Derived.Test.YtlkpofhfkhdheaaGreatDoorSpanApp
import Derived.Test.YtlkpofhfkhdheaaGreatDoorParse
import Derived.Deep.RegionHeld3
import Derived.BigQuiet
namespace Go.Proofs.YtlkpofhfkhdheaaGreatDoor
open Go.RowKit Ru

def rightAll (ss : List SpanD) : Bool := ss.all fun s => rightF s == 0
set_option maxRecDepth 20000 in
set_option maxHeartbeats 2000000 in
theorem rightall_any (B : Option Addr) (m d : Nat) (ss : List SpanD) (w : World) (hs : SpanRow w B m d ss) (hsw : ∀ s ∈ ss, s.Wf) :
    Calls Tryz.prog 12 #[.slice B m d] w (BoolIs w (rightAll ss)) := by
  obtain rfl := hs.len
  have hle := hs.cap
  have hmx := hs.max
  have Hs := hid_ hs
  have Hsw := hid_ hsw
  clear hs hsw
  go_enter Tryz.func12, Tryz.ntmps12
  go_wp2_with fail
  go_loopw [3] (fun vi wr => ∃ k : Nat, k ≤ ss.length ∧ vi = .int .i64 (k : Nat) ∧ Hid (∀ j (hj : j < ss.length), j < k → (rightF ss[j] == 0) = true) ∧ Hid (Below w.heap.size w wr)) (fun vi _ => ss.length - (intOf vi).toNat)
  case atStart => exact ⟨0, Nat.zero_le _, rfl, hid_ (fun j _ h => absurd h (by omega)), hid_ (Below.refl _ _)⟩
  case round =>
    obtain ⟨k, hk, rfl, Hg, Hw⟩ := hrel
    by_cases hlt : k < ss.length
    · obtain ⟨b, off, rfl, hc⟩ := (Hs.out.below Hw.out).at_ hlt
      obtain ⟨c0, c1, c2, c3, c4, c5, c6, c7⟩ := hc
      have hwf := Hsw.out ss[k] (List.getElem_mem hlt)
      have Hc := hid_ (fun W => refright_any ss[k] W hwf)
      by_cases hz : rightF ss[k] = 0
      · rw [hz] at Hc
        have Hg2 := hid_ (show ∀ j (hj : j < ss.length), j < k + 1 → (rightF ss[j] == 0) = true from fun j hj h => by
          by_cases e : j = k
          · subst e; rw [hz]; rfl
          · exact Hg.out j hj (by omega))
        go_wp2_with fail
        refine Calls.mono (Hc.out _) ?_
        rintro e w1 ⟨rfl, hb1⟩
        have Hw2 := hid_ (Hw.out.trans (hb1.mono Hw.out.size))
        go_wp2_with fail
        go_roundw
        case rel => exact ⟨k + 1, by omega, by go_num, Hg2, Hw2⟩
        case measure => simp [intOf] <;> omega
      · have hzb : (rightF ss[k] == 0) = false := by rw [beq_eq_false_iff_ne]; exact hz
        have Hf := hid_ (show rightAll ss = false from List.all_eq_false.2 ⟨_, List.getElem_mem hlt, by rw [hzb]; decide⟩)
        generalize rightF ss[k] = z at *
        go_wp2_with fail
        refine Calls.mono (Hc.out _) ?_
        rintro e w1 ⟨rfl, hb1⟩
        have Hw2 := hid_ (Hw.out.trans (hb1.mono Hw.out.size))
        go_wp2_with fail
        go_ret
        exact boolIs_mk Hf.out Hw2.out
    · obtain rfl : k = ss.length := by omega
      have Hf := hid_ (show rightAll ss = true from List.all_eq_true.2 fun r hr => by
        obtain ⟨j, hj, rfl⟩ := List.getElem_of_mem hr
        exact Hg.out j hj hj)
      go_wp2_with fail
      go_ret
      exact boolIs_mk Hf.out Hw.out

/-- append(s, x..) on rules, s a row of the call's own. -/
theorem wpList_rules {w : World} {ops : Array Oper} {rest : List Oper} {o : Oper} {a : Act} {Q : Exit → Act → World → Prop} (hgd : Region.wanted o (yielded ops a.tmps) = true) (s x : Operand)
    (ho : o.op = .call { callee := .builtin .append, args := #[s, x], argTypes := #[28, 28] })
    (B : Nat) (A0 : Option Addr) (n0 c0 : Nat) (l0 : List RuleD) (hs : a.eval s = .slice A0 n0 c0) (hown : OwnRu 49 B w A0 n0 c0 l0)
    (A : Option Addr) (m c : Nat) (l : List RuleD) (hx : a.eval x = .slice A m c) (hl : RuleRow w A m c l)
    (N : Nat) (ys : List RuleD) (hN : n0 + m = N) (hys : l0 ++ l = ys) (hroom : N ≤ 1000000000000) (hB : B ≤ w.heap.size)
    (h : ∀ A' c' w', OwnRu 49 B w' A' N c' ys → Below B w w' → wpList Tryz.prog ops Q rest (a.put o.dst (.slice A' N c')) w') :
    wpList Tryz.prog ops Q (o :: rest) a w := by
  subst hys
  obtain ⟨i0, hi0, hz0, hz1, hz2⟩ := info_parts info_rule
  refine wpList_app w hgd s x 28 ho B 49 i0 _ 4 48 Tryz.underlying28 hi0 hz0 hz1 hz2 rfl (by omega) (.slice A0 n0 c0) n0 (rulesAll l0) hs hown A m c (rulesAll l) hx
    (by rw [rulesAll_length, hl.len]) hl.cells hl.nil (rulesAll_one l) N (rulesAll (l0 ++ l)) hN (rulesAll_append l0 l).symm (by unfold maxLen; omega) (by omega) hB ?_
  intro A' c' w' ho' hg hat
  exact h A' c' w' ho' ((Below.refl B w).grown hg hB (own_from hown))
/-- .. as one step of a region that draws its order. -/
theorem step_rules {w : World} {ops : Array Oper} {o : Oper} {a : Act} {K : Act → World → Prop} {Q : Exit → Act → World → Prop} {E : Prop} (hgd : Region.wanted o (yielded ops a.tmps) = true) (s x : Operand)
    (ho : o.op = .call { callee := .builtin .append, args := #[s, x], argTypes := #[28, 28] })
    (B : Nat) (A0 : Option Addr) (n0 c0 : Nat) (l0 : List RuleD) (hs : a.eval s = .slice A0 n0 c0) (hown : OwnRu 49 B w A0 n0 c0 l0)
    (A : Option Addr) (m c : Nat) (l : List RuleD) (hx : a.eval x = .slice A m c) (hl : RuleRow w A m c l)
    (N : Nat) (ys : List RuleD) (hN : n0 + m = N) (hys : l0 ++ l = ys) (hroom : N ≤ 1000000000000) (hB : B ≤ w.heap.size)
    (h : ∀ A' c' w', OwnRu 49 B w' A' N c' ys → Below B w w' → K (a.put o.dst (.slice A' N c')) w') :
    if Region.wanted o (yielded ops a.tmps) = true then Oper.wp Tryz.prog o a w K Q else E := by
  subst hys
  rw [if_pos hgd]
  obtain ⟨i0, hi0, hz0, hz1, hz2⟩ := info_parts info_rule
  obtain ⟨A', c', w', hrun, h2, h3, _⟩ := run_app (P := Tryz.prog) w B 28 o.type 49 i0 _ 4 48 Tryz.underlying28 hi0 hz0 hz1 hz2 rfl (by omega) (.slice A0 n0 c0) n0 (rulesAll l0) hown A m c (rulesAll l)
    (by rw [rulesAll_length, hl.len]) hl.cells hl.nil (rulesAll_one l) N (rulesAll (l0 ++ l)) hN (rulesAll_append l0 l).symm (by unfold maxLen; omega) (by omega) hB
  unfold Oper.wp execOp
  simp only [ho, resolve, invoke, builtin, Sem.run_bind, Sem.run_pure, Result.andThen_ok, List.map_toArray, List.map_cons, List.map_nil, hs, hx, hrun]
  exact h A' c' w' h2 ((Below.refl B w).grown h3 hB (own_from hown))
/-- A rule stands, in whatever world has come of w1 by new blocks. -/
abbrev RuleIn (w1 : World) (g o : Nat) (r : RuleD) (W : World) : Prop :=
  Below w1.heap.size w1 W ∧ W.cell? ⟨g, o, none⟩ = some (.bool r.keep) ∧ W.cell? ⟨g, o + 1, none⟩ = some (.string r.what) ∧ W.cell? ⟨g, o + 2, none⟩ = some (.int .u64 (r.num : Nat)) ∧ W.cell? ⟨g, o + 3, none⟩ = some (.string r.text)
theorem ruleIn_of {w1 W : World} {g o : Nat} {r : RuleD} (h : Below w1.heap.size w1 W) (hs : RuleAt W g o r) : RuleIn w1 g o r W := ⟨h, hs.c0, hs.c1, hs.c2, hs.c3⟩
theorem ruleIn_keep {w1 W W' : World} {g o : Nat} {r : RuleD} (h : RuleIn w1 g o r W) (hb : Below W.heap.size W W') : RuleIn w1 g o r W' := by
  obtain ⟨h0, a0, a1, a2, a3⟩ := h
  exact ruleIn_of (h0.trans (hb.mono h0.size)) (RuleAt.keep_ ⟨a0, a1, a2, a3⟩ fun p hp => hb.cell hp)
theorem ruleIn_keepB {w1 W W' : World} {g o : Nat} {r : RuleD} (hg : g < w1.heap.size) (h : RuleIn w1 g o r W) (hb : Below w1.heap.size W W') : RuleIn w1 g o r W' := by
  obtain ⟨h0, a0, a1, a2, a3⟩ := h
  have k : ∀ o', W'.cell? ⟨g, o', none⟩ = W.cell? ⟨g, o', none⟩ := fun o' => hb.cell (p := ⟨g, o', none⟩) hg
  exact ⟨h0.trans hb, by rw [k]; exact a0, by rw [k]; exact a1, by rw [k]; exact a2, by rw [k]; exact a3⟩
/-- A single rule, laid in a block of its own. -/
theorem rule_one (w : World) (r : RuleD) (T : TypeId) : RuleRow (w.alloc (.cells (ruleCells r) T)) (some ⟨w.heap.size, 0, .none⟩) 1 1 [r] := by
  refine ⟨fun _ => ⟨w.heap.size, 0, rfl, fun k hk => ?_⟩, rfl, Nat.le_refl _, by omega, fun e => by cases e⟩
  obtain rfl : k = 0 := by simpa using hk
  rw [Nat.zero_mul, Nat.add_zero]
  exact whole_ruleAt (whole_new w T (ruleCells r))

def OwnPost (w : World) (rs : List RuleD) (e : Ending) (w' : World) : Prop := ∃ A c, e = .returned (.slice A rs.length c) ∧ OwnRu 49 w.heap.size w' A rs.length c rs ∧ Below w.heap.size w w'
set_option maxRecDepth 20000 in
set_option maxHeartbeats 2000000 in
theorem own_any (B : Option Addr) (m d : Nat) (rs : List RuleD) (w : World) (hs : RuleRow w B m d rs) (hrw : ∀ r ∈ rs, r.Wf) (hm : m ≤ 1000000) :
    Calls Tryz.prog 8 #[.slice B m d] w (OwnPost w rs) := by
  obtain rfl := hs.len
  have Hs := hid_ hs
  have Hrw := hid_ hrw
  clear hs hrw
  go_enter Tryz.func8, Tryz.ntmps8
  go_wp2_with fail
  go_loopw [3, 4] (fun vo vi wr => ∃ (k : Nat) (A : Option Addr) (c : Nat), k ≤ rs.length ∧ vo = .slice A k c ∧ vi = .int .i64 (k : Nat) ∧ Hid (OwnRu 49 w.heap.size wr A k c (rs.take k)) ∧ Hid (Below w.heap.size w wr)) (fun _ vi _ => rs.length - (intOf vi).toNat)
  case atStart => exact ⟨0, none, 0, Nat.zero_le _, rfl, rfl, hid_ (OwnRu.none _ _ _), hid_ (Below.refl _ _)⟩
  case round =>
    obtain ⟨k, A, c, hk, rfl, rfl, Ho, Hw⟩ := hrel
    by_cases hlt : k < rs.length
    · obtain ⟨b, off, rfl, hc⟩ := Hs.out.at_ hlt
      have hbl := hc.lt
      have hc := hc.keep_ (fun p hp => Hw.out.cell hp)
      obtain ⟨c0, c1, c2, c3⟩ := hc
      have Htk := hid_ (show rs.take k ++ [rs[k]] = rs.take (k + 1) from (List.take_succ_eq_append_getElem hlt).symm)
      generalize hr : rs[k] = r at *
      have x1 : (k : Int) < (rs.length : Int) := by omega
      have x2 : (0 : Int) ≤ (k : Int) := by omega
      have hIn : RuleIn w b (off + k * 4) r wr := ruleIn_of Hw.out ⟨c0, c1, c2, c3⟩
      clear c0 c1 c2 c3
      go_wp2_with fail
      go_region_held3 (RuleIn w b (off + k * 4) r) (first | assumption | (refine ruleIn_keep (by assumption) (Below.drew (Below.refl _ _))) | (refine ruleIn_keep (by assumption) (Below.alloc (Below.refl _ _) (Nat.le_refl _) _)) | (refine ruleIn_keepB hbl (by assumption) (by assumption)))
        (first
          | (refine step_rules (by rfl) (.tmp 11) (.tmp 33) (by rfl) w.heap.size A k c (rs.take k) (by rfl) ?_ _ 1 1 [r] (by rfl) ?_ (k + 1) (rs.take (k + 1)) (by rfl) Htk.out (by omega) ?_ ?_; (exact Ho.out.later (by repeat (first | exact Below.refl _ _ | apply Below.drew | refine Below.alloc ?_ (Nat.le_refl _) _))); (first | exact rule_one _ r _ | exact (rule_one _ r _).below (Below.drew (Below.refl _ _))); (exact Below.size (And.left (by assumption))); (intro A1 c1 w1 ho1 hb1))
          | fail)
      all_goals
        go_wp2_with fail
        go_roundw
        case rel => exact ⟨k + 1, A1, c1, by omega, rfl, by go_num, hid_ ho1, hid_ (And.left (by assumption))⟩
        case measure => simp [intOf] <;> omega
    · obtain rfl : k = rs.length := by omega
      have ho := Ho.out
      rw [List.take_length] at ho
      go_wp2_with fail
      go_ret
      exact ⟨_, _, rfl, ho, Hw.out⟩
end Go.Proofs.YtlkpofhfkhdheaaGreatDoor
