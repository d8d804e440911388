/-
  What Parse answers to the text of rules that are right: the loop over its lines.
-/
import Derived.Test.YtlkpofhfkhdheaaGreatDoorParseAll
namespace Go.Proofs.YtlkpofhfkhdheaaGreatDoor
open Go.RowKit Ru
attribute [local go_sem] Oper.semAt_some

theorem info_rule : (Tryz.prog.info? 49).map (fun i => (i.zero, i.size, i.bytes)) = some (some (.agg #[.bool false, .string ⟨#[]⟩, .int .u64 0, .string ⟨#[]⟩]), 4, 48) := by kernel_rfl
/-- What stands between two rounds: the results, the list so far, the iterator's own, the block for deferred calls. -/
structure JC (w : World) (rs : List RuleD) (k : Nat) (W : World) : Prop where
  bel : Below w.heap.size w W
  r0 : Whole W w.heap.size 28 #[.slice none 0 0]
  r1 : Whole W (w.heap.size + 1) 25 #[.int .i64 0]
  row : ∃ A c, Whole W (w.heap.size + 1 + 1) 28 #[.slice A k c] ∧ OwnRu 49 w.heap.size W A k c (rs.take k)
  bs : ∃ v, Whole W (w.heap.size + 1 + 1 + 1) 9 #[v]
  bp : ∃ v, Whole W (w.heap.size + 1 + 1 + 1 + 1) 9 #[v]
  bv : ∃ v, Whole W (w.heap.size + 1 + 1 + 1 + 1 + 1) 3 #[v]
  def_ : W.heap[w.heap.size + 1 + 1 + 1 + 1 + 1 + 1]? = some (.deferred (some []))
theorem JC.move {w W W' : World} {rs : List RuleD} {k : Nat} (h : JC w rs k W) (hb : Below w.heap.size w W') (hk : ∀ g o, W.heap[g]? = some o → (o.isCells = true ∨ g = w.heap.size + 1 + 1 + 1 + 1 + 1 + 1) → W'.heap[g]? = W.heap[g]?) : JC w rs k W' := by
  obtain ⟨_, h0, h1, ⟨A, c, h2, h3⟩, ⟨v3, h4⟩, ⟨v4, h5⟩, ⟨v5, h6⟩, h7⟩ := h
  exact ⟨hb, (hk _ _ h0 (.inl rfl)).trans h0, (hk _ _ h1 (.inl rfl)).trans h1, ⟨A, c, (hk _ _ h2 (.inl rfl)).trans h2, h3.block fun g o hg ho => hk g o hg (.inl ho)⟩,
    ⟨v3, (hk _ _ h4 (.inl rfl)).trans h4⟩, ⟨v4, (hk _ _ h5 (.inl rfl)).trans h5⟩, ⟨v5, (hk _ _ h6 (.inl rfl)).trans h6⟩, (hk _ _ h7 (.inr rfl)).trans h7⟩
/-- The loop's record may turn. -/
theorem JC.rec_ {w W : World} {rs : List RuleD} {k : Nat} {lo : Loop} (h : JC w rs k W) (hl : W.heap[w.heap.size + 1 + 1 + 1 + 1 + 1 + 1 + 1]? = some (.loop lo)) (lo' : Loop) :
    JC w rs k (W.putObj (w.heap.size + 1 + 1 + 1 + 1 + 1 + 1 + 1) (.loop lo')) := by
  refine h.move (h.bel.trans (belowK_b (w := w) (Nat.le_refl _) W _ _ _ (by omega) hl rfl rfl)) fun g o hg ho => World.putObj_heap_other ?_
  rintro rfl
  rw [hl] at hg
  cases hg
  rcases ho with ho | ho
  · cases ho
  · omega
/-- The iterator's own text may turn. -/
theorem JC.text {w W : World} {rs : List RuleD} {k : Nat} (h : JC w rs k W) (v : Value) : JC w rs k (W.setCell ⟨w.heap.size + 1 + 1 + 1, 0, none⟩ v) := by
  obtain ⟨hb, h0, h1, ⟨A, c, h2, h3⟩, ⟨v3, h4⟩, ⟨v4, h5⟩, ⟨v5, h6⟩, h7⟩ := h
  refine ⟨hb.setCell (p := ⟨w.heap.size + 1 + 1 + 1, 0, none⟩) (by dsimp only; omega) v, h0.far (p := ⟨w.heap.size + 1 + 1 + 1, 0, none⟩) (by dsimp only; omega) v, h1.far (p := ⟨w.heap.size + 1 + 1 + 1, 0, none⟩) (by dsimp only; omega) v,
    ⟨A, c, h2.far (p := ⟨w.heap.size + 1 + 1 + 1, 0, none⟩) (by dsimp only; omega) v, ?_⟩, ⟨v, h4.store 0 v⟩, ⟨v4, h5.far (p := ⟨w.heap.size + 1 + 1 + 1, 0, none⟩) (by dsimp only; omega) v⟩, ⟨v5, h6.far (p := ⟨w.heap.size + 1 + 1 + 1, 0, none⟩) (by dsimp only; omega) v⟩, ?_⟩
  · have hne := h3.other h4 (by decide)
    refine World.ownsRow.kept h3 (row := some (w.heap.size + 1 + 1 + 1)) ?_ ?_
    · exact ⟨rfl, rfl, rfl, by show _ ≤ (W.heap.modify _ _).size; rw [Array.size_modify]; exact Nat.le_refl _, fun i _ hi => Below.heap_setCell W _ v i (by rintro rfl; exact hi rfl)⟩
    · exact .inr hne
  · exact (Below.heap_setCell W ⟨w.heap.size + 1 + 1 + 1, 0, none⟩ v _ (by dsimp only; omega)).trans h7

/-- Rows of rules, where a block of another type is stored into. -/
theorem ownRu_set {e : TypeId} {B : Nat} {w : World} {A : Option Addr} {n c : Nat} {rs : List RuleD} (h : OwnRu e B w A n c rs) {g : Nat} {t : TypeId} {cs : Array Value} (hg : Whole w g t cs) (hne : e ≠ t) (v : Value) : OwnRu e B (w.setCell ⟨g, 0, none⟩ v) A n c rs := by
  refine World.ownsRow.kept h (row := some g) ?_ (.inr (h.other hg hne))
  exact ⟨rfl, rfl, rfl, by show _ ≤ (w.heap.modify _ _).size; rw [Array.size_modify]; exact Nat.le_refl _, fun i _ hi => Below.heap_setCell w ⟨g, 0, none⟩ v i (by rintro rfl; exact hi rfl)⟩
/-- A rule in a block of its own. -/
theorem new_cells (W : World) (g : Nat) (hg : W.heap.size = g) (r : RuleD) (T : TypeId) : ∀ j u, (rcells r)[j]? = some u → (W.alloc (.cells (ruleCells r) T)).cell? ((⟨g, 0, none⟩ : Addr).add j) = some u := by
  subst hg
  intro j u hu
  rw [add_plain, World.cell?_alloc_mark, ← hu]
  simp [rcells, ruleCells]
theorem rcells_one (r : RuleD) : ∀ u ∈ rcells r, u.oneCell' = true := by
  intro u hu
  simp [rcells] at hu
  rcases hu with rfl | rfl | rfl | rfl
  all_goals rfl
theorem jc_start (w : World) (s : ByteArray) (rs : List RuleD) (lo : Loop) :
    JC w rs 0 ((((((((w.alloc (.cells #[.slice none 0 0] 28)).alloc (.cells #[.int .i64 0] 25)).alloc (.cells #[.slice none 0 0] 28)).alloc (.cells #[.string s] 9)).alloc (.cells #[.string ⟨#[10]⟩] 9)).alloc (.cells #[.int .i64 0] 3)).alloc (.deferred (some []))).alloc (.loop lo)) ∧
    ((((((((w.alloc (.cells #[.slice none 0 0] 28)).alloc (.cells #[.int .i64 0] 25)).alloc (.cells #[.slice none 0 0] 28)).alloc (.cells #[.string s] 9)).alloc (.cells #[.string ⟨#[10]⟩] 9)).alloc (.cells #[.int .i64 0] 3)).alloc (.deferred (some []))).alloc (.loop lo)).heap[w.heap.size + 1 + 1 + 1 + 1 + 1 + 1 + 1]? = some (.loop lo) ∧
    Whole ((((((((w.alloc (.cells #[.slice none 0 0] 28)).alloc (.cells #[.int .i64 0] 25)).alloc (.cells #[.slice none 0 0] 28)).alloc (.cells #[.string s] 9)).alloc (.cells #[.string ⟨#[10]⟩] 9)).alloc (.cells #[.int .i64 0] 3)).alloc (.deferred (some []))).alloc (.loop lo)) (w.heap.size + 1 + 1 + 1) 9 #[.string s] ∧
    Whole ((((((((w.alloc (.cells #[.slice none 0 0] 28)).alloc (.cells #[.int .i64 0] 25)).alloc (.cells #[.slice none 0 0] 28)).alloc (.cells #[.string s] 9)).alloc (.cells #[.string ⟨#[10]⟩] 9)).alloc (.cells #[.int .i64 0] 3)).alloc (.deferred (some []))).alloc (.loop lo)) (w.heap.size + 1 + 1 + 1 + 1) 9 #[.string ⟨#[10]⟩] ∧
    Whole ((((((((w.alloc (.cells #[.slice none 0 0] 28)).alloc (.cells #[.int .i64 0] 25)).alloc (.cells #[.slice none 0 0] 28)).alloc (.cells #[.string s] 9)).alloc (.cells #[.string ⟨#[10]⟩] 9)).alloc (.cells #[.int .i64 0] 3)).alloc (.deferred (some []))).alloc (.loop lo)) (w.heap.size + 1 + 1 + 1 + 1 + 1) 3 #[.int .i64 0] := by
  have b3 := ((((whole_at (((w.alloc (.cells #[.slice none 0 0] 28)).alloc (.cells #[.int .i64 0] 25)).alloc (.cells #[.slice none 0 0] 28)) (w.heap.size + 1 + 1 + 1) 9 #[.string s] (by simp)).alloc (.cells #[.string ⟨#[10]⟩] 9)).alloc (.cells #[.int .i64 0] 3)).alloc (.deferred (some []))).alloc (.loop lo)
  have b4 := (((whole_at ((((w.alloc (.cells #[.slice none 0 0] 28)).alloc (.cells #[.int .i64 0] 25)).alloc (.cells #[.slice none 0 0] 28)).alloc (.cells #[.string s] 9)) (w.heap.size + 1 + 1 + 1 + 1) 9 #[.string ⟨#[10]⟩] (by simp)).alloc (.cells #[.int .i64 0] 3)).alloc (.deferred (some []))).alloc (.loop lo)
  have b5 := ((whole_at (((((w.alloc (.cells #[.slice none 0 0] 28)).alloc (.cells #[.int .i64 0] 25)).alloc (.cells #[.slice none 0 0] 28)).alloc (.cells #[.string s] 9)).alloc (.cells #[.string ⟨#[10]⟩] 9)) (w.heap.size + 1 + 1 + 1 + 1 + 1) 3 #[.int .i64 0] (by simp)).alloc (.deferred (some []))).alloc (.loop lo)
  refine ⟨⟨?_, ?_, ?_, ⟨none, 0, ?_, OwnRu.none _ _ _⟩, ⟨_, b3⟩, ⟨_, b4⟩, ⟨_, b5⟩, ?_⟩, ?_, b3, b4, b5⟩
  · repeat (first | exact Below.refl _ _ | refine Below.alloc ?_ (by simp; omega) _ | refine Below.alloc ?_ (by simp) _)
  · exact (((((((whole_new w _ _).alloc _).alloc _).alloc _).alloc _).alloc _).alloc _).alloc _
  · exact ((((((whole_at (w.alloc (.cells #[.slice none 0 0] 28)) (w.heap.size + 1) _ _ (by simp)).alloc _).alloc _).alloc _).alloc _).alloc _).alloc _
  · exact (((((whole_at ((w.alloc (.cells #[.slice none 0 0] 28)).alloc (.cells #[.int .i64 0] 25)) (w.heap.size + 1 + 1) _ _ (by simp)).alloc _).alloc _).alloc _).alloc _).alloc _
  · have h := World.alloc_heap_new ((((((w.alloc (.cells #[.slice none 0 0] 28)).alloc (.cells #[.int .i64 0] 25)).alloc (.cells #[.slice none 0 0] 28)).alloc (.cells #[.string s] 9)).alloc (.cells #[.string ⟨#[10]⟩] 9)).alloc (.cells #[.int .i64 0] 3)) (.deferred (some []))
    simp only [World.size_alloc] at h
    exact (Below.heap_alloc _ _ _ (by simp)).trans h
  · have h := World.alloc_heap_new (((((((w.alloc (.cells #[.slice none 0 0] 28)).alloc (.cells #[.int .i64 0] 25)).alloc (.cells #[.slice none 0 0] 28)).alloc (.cells #[.string s] 9)).alloc (.cells #[.string ⟨#[10]⟩] 9)).alloc (.cells #[.int .i64 0] 3)).alloc (.deferred (some []))) (.loop lo)
    simp only [World.size_alloc] at h
    exact h
theorem count_any (s : ByteArray) (w : World) : Calls Tryz.prog 28 #[.string s, .string ⟨#[10]⟩] w fun e w' => e = .returned (.int .i64 (Lib.countByte s.data.toList 10)) ∧ w = w' :=
  (Sh.strings_Count_one s 10 w).mono fun _ _ ⟨h1, h2⟩ => ⟨h1, h2.symm⟩
/-- Its lines' lengths. -/
theorem line_ne (r : RuleD) : 5 ≤ (lineS r).size := by
  unfold lineS lineN
  split
  · rw [ba_assoc, verb_size]; omega
  · split
    · rw [ba_assoc, verb_size]; omega
    · rw [verb_size]; omega
theorem join_ne {rs : List RuleD} (h : rs ≠ []) : 5 ≤ (textS rs).size := by
  unfold textS
  match rs, h with
  | [r], _ => exact line_ne r
  | r :: q :: l, _ =>
    show 5 ≤ (lineS r ++ (⟨#[10]⟩ ++ joinS (lineS q :: l.map lineS))).size
    rw [ByteArray.size_append]
    have := line_ne r
    omega
def ParsePost (w : World) (rs : List RuleD) (e : Ending) (w' : World) : Prop :=
  ∃ A c, e = .returned (.tuple #[.slice A rs.length c, .int .i64 0]) ∧ OwnRu 49 w.heap.size w' A rs.length c rs ∧ Below w.heap.size w w'
set_option maxRecDepth 100000 in
set_option maxHeartbeats 8000000 in
theorem parse_any (rs : List RuleD) (hne : rs ≠ []) (hok : ∀ r ∈ rs, r.Wf ∧ ruleOk r = true ∧ (10 : UInt8) ∉ (lineS r).data.toList) (hlen : rs.length ≤ 16) (hsz : (textS rs).size ≤ 2048) (w : World) (htab : PowsB w) :
    Calls Tryz.prog 14 #[.string (textS rs)] w (ParsePost w rs) := by
  have hlne : rs.map lineS ≠ [] := by simpa using hne
  have h10 : ∀ x ∈ rs.map lineS, (10 : UInt8) ∉ x.data.toList := by
    intro x hx
    obtain ⟨r, hr, rfl⟩ := List.mem_map.1 hx
    exact (hok r hr).2.2
  have hcb := count_join (rs.map lineS) hlne h10
  rw [List.length_map] at hcb
  have hcb' : Lib.countByte (textS rs).data.toList 10 = rs.length - 1 := by unfold textS; omega
  have Hc := hid_ (fun W => count_any (textS rs) W)
  rw [hcb'] at Hc
  have Hsq := hid_ (fun W => splitseq_any (textS rs) W)
  have hj := join_ne hne
  have hpos := List.length_pos_iff.2 hne
  have Hln := hid_ (fun W (h : Below w.heap.size w W) (r : RuleD) (hr : r ∈ rs) => line_any r W (hok r hr).1 (hok r hr).2.1 (htab.later h))
  have he : ((textS rs).toList == []) = false := by
    rw [beq_eq_false_iff_ne]
    intro e
    have h2 : (textS rs).toList.length = (textS rs).size := by rw [ByteArray.toList_eq, Array.length_toList]; rfl
    rw [e] at h2
    simp at h2
    omega
  have he2 : (textS rs).toList.isEmpty = false := by
    rw [← Bool.not_eq_true]
    intro e
    rw [List.isEmpty_iff.1 e] at he
    simp at he
  have g1 : decide ((2048 : Int) < ((textS rs).size : Int)) = false := decide_eq_false (by omega)
  have gw : IntKind.i64.wrap (((rs.length - 1 : Nat) : Int) + 1) = (rs.length : Int) := by rw [IntKind.wrap_i64]; omega
  have g2 : decide ((16 : Int) < (rs.length : Int)) = false := decide_eq_false (by omega)
  have Hts := hid_ (show textS rs = joinS (rs.map lineS) from rfl)
  have Hsz := hid_ hsz
  have H10 := hid_ h10
  have Hlne := hid_ hlne
  clear hlne h10 hcb hcb' hok htab hsz hj hne
  generalize textS rs = s at *
  refine (callsIn_wide (n := 3)).1 ?_
  refine callsIn_of_wp_marks Tryz.func14 rfl trivial ?_ rfl
  simp only [Tryz.ntmps14, List.size_toArray, List.length_cons, List.length_nil, Nat.reduceAdd, Nat.reduceSub, Array.replicate_succ, Array.replicate_zero, List.push_toArray, List.append_toArray, List.nil_append, List.cons_append]
  gi_wp2_with (first | (refine ⟨trivial, ?_⟩; gi_at_call 28; refine (callsIn_wide.2 (Hc.out _)).mono ?_; rintro e w' ⟨rfl, rfl⟩) | (refine ⟨trivial, ?_⟩; gi_at_call 29; refine (callsIn_wide.2 (Hsq.out _)).mono ?_; rintro e w' ⟨rfl, rfl⟩))
  refine wide_range (w.heap.size + 1 + 1 + 1 + 1 + 1 + 1) (by simp) 67 _ rfl (enters_of Tryz.func67 (by kernel_rfl) rfl) ?_
  intro fn rec hrec
  have Hrec := hid_ hrec
  have hpend : (rec .ready none).pending = none := by rw [hrec]
  have hstate : (rec .ready none).state ≠ .busy := by rw [hrec]; intro e; cases e
  have Hpend := hid_ hpend
  have Hstate := hid_ hstate
  clear hrec hpend hstate
  obtain ⟨hJ0, hl0, hb3, hb4, hb5⟩ := jc_start w s rs (rec .ready none)
  refine (split_in (3 - 1) (w.heap.size + 1 + 1 + 1 + 1 + 1 + 1 + 1) (w.heap.size + 1 + 1 + 1) (w.heap.size + 1 + 1 + 1 + 1) (w.heap.size + 1 + 1 + 1 + 1 + 1) (by decide) (rs.map lineS) Hlne.out H10.out (by rw [← Hts.out]; have := Hsz.out; omega) (by omega) (by omega)
    (fun pre W => pre.length ≤ rs.length ∧ JC w rs pre.length W ∧ W.heap[w.heap.size + 1 + 1 + 1 + 1 + 1 + 1 + 1]? = some (.loop (rec .ready none))) ?hset ?hY _ (by rw [← Hts.out]; exact hb3) hb4 hb5 ⟨Nat.zero_le _, hJ0, hl0⟩).mono ?_
  case hset =>
    rintro pre W v ⟨h0, h1, h2⟩
    exact ⟨h0, h1.text v, (Below.heap_setCell W ⟨w.heap.size + 1 + 1 + 1, 0, none⟩ v _ (by dsimp only; omega)).trans h2⟩
  case hY =>
    rintro pre x rest W hls ⟨h0, hJ, hl⟩
    have hk : pre.length < rs.length := by have := congrArg List.length hls; simp at this; omega
    have hx : x = lineS rs[pre.length] := by
      have h := congrArg (fun l => l[pre.length]?) hls
      simp [List.getElem?_eq_getElem hk] at h
      exact h.symm
    have htk := List.take_succ_eq_append_getElem hk
    have hmem : rs[pre.length] ∈ rs := List.getElem_mem hk
    generalize rs[pre.length] = r at *
    subst hx
    have hJb := hJ.rec_ hl (rec .busy none)
    have hlb := World.putObj_heap_same (o := .loop (rec .busy none)) (Array.getElem?_eq_some_iff.1 hl).1
    have e3 : (W.putObj (w.heap.size + 1 + 1 + 1 + 1 + 1 + 1 + 1) (.loop (rec .busy none))).heap[w.heap.size + 1 + 1 + 1]? = W.heap[w.heap.size + 1 + 1 + 1]? := World.putObj_heap_other (by omega)
    have e4 : (W.putObj (w.heap.size + 1 + 1 + 1 + 1 + 1 + 1 + 1) (.loop (rec .busy none))).heap[w.heap.size + 1 + 1 + 1 + 1]? = W.heap[w.heap.size + 1 + 1 + 1 + 1]? := World.putObj_heap_other (by omega)
    have e5 : (W.putObj (w.heap.size + 1 + 1 + 1 + 1 + 1 + 1 + 1) (.loop (rec .busy none))).heap[w.heap.size + 1 + 1 + 1 + 1 + 1]? = W.heap[w.heap.size + 1 + 1 + 1 + 1 + 1]? := World.putObj_heap_other (by omega)
    refine wide_round rec Hrec.out hl rfl { tmps := #[.string s, undef, .pointer (some ⟨w.heap.size, 0, none⟩), .pointer (some ⟨w.heap.size + 1, 0, none⟩), .pointer (some ⟨w.heap.size + 1 + 1, 0, none⟩), .string (lineS r), undef, undef, .string s, .bool false, .string s, .int .i64 (s.size : Nat), .bool false, .bool false, .string s, .int .i64 ((rs.length - 1 : Nat) : Int), .int .i64 (rs.length : Nat), .bool false, .bool false, .string s, .func (.func 67) #[] #[.pointer (some ⟨w.heap.size + 1 + 1 + 1 + 1, 0, none⟩), .pointer (some ⟨w.heap.size + 1 + 1 + 1, 0, none⟩), .pointer (some ⟨w.heap.size + 1 + 1 + 1 + 1 + 1, 0, none⟩)], .string (lineS r), undef, undef, undef, undef, undef, undef, undef, undef, undef, undef, undef, undef], defers := [] } ?_
      (fun W' => JC w rs (pre.length + 1) W' ∧ W'.heap[w.heap.size + 1 + 1 + 1]? = W.heap[w.heap.size + 1 + 1 + 1]? ∧ W'.heap[w.heap.size + 1 + 1 + 1 + 1]? = W.heap[w.heap.size + 1 + 1 + 1 + 1]? ∧ W'.heap[w.heap.size + 1 + 1 + 1 + 1 + 1]? = W.heap[w.heap.size + 1 + 1 + 1 + 1 + 1]?) ?_ _ ?_
    · intro K hK
      gi_wp2
      exact hK
    · generalize W.putObj (w.heap.size + 1 + 1 + 1 + 1 + 1 + 1 + 1) (.loop (rec .busy none)) = Wb at hJb hlb e3 e4 e5 ⊢
      obtain ⟨A, c, hlrow, hown⟩ := hJb.row
      obtain ⟨i0, hi, hz0, hz1, hz2⟩ := info_parts info_rule
      have Hl1 := hid_ (Hln.out Wb hJb.bel r hmem)
      have Hkeep := hid_ (fun (g : Nat) (h : g < Wb.heap.size) (w1 : World) (hb : Below Wb.heap.size Wb w1) => hb.block g h)
      gi_wp2_with (first
        | (refine ⟨trivial, ?_⟩; gi_at_call 30; refine (CallsIn.inRound _ (callsIn_wide.2 Hl1.out)).mono ?_; rintro e w1 ⟨rfl, hb1⟩; have hl1 := hlrow.below hb1 hlrow.lt; have hlt1 := hl1.lt; have hown1 := hown.later hb1; have cl := hl1.cell 0 _ rfl; have fl := hl1.free 0)
        | (gi_at_builtin; refine wpListIn_append_own _ rfl (.tmp 29) (.tmp 31) 28 rfl w.heap.size 49 i0 _ 4 48 Tryz.underlying28 hi hz0 hz1 hz2 rfl (by decide) _ _ _ rfl (World.ownsRow.alloc (World.ownsRow.alloc hown1 _) _) ⟨w1.heap.size + 1, 0, none⟩ 1 1 (rcells r) rfl rfl (new_cells (w1.alloc (.cells (ruleCells r) 49)) (w1.heap.size + 1) (by simp) r 49) (rcells_one r) (by unfold maxLen; omega) (by omega) (by have := hJb.bel.size; have := hb1.size; simp; omega) ?_; intro v' w2 hown' hgrow _; obtain ⟨g', cap', rfl⟩ := ownsRow_succ hown'; have hl2 := ((hl1.alloc (.cells (ruleCells r) 49)).alloc (.cells (ruleCells r) 49)).grown hgrow (hown.other hlrow (by decide)); have cl2 := hl2.cell 0 _ rfl; have fl2 := hl2.free 0))
      have hbel2 : Below w.heap.size w w2 := by
        refine Below.trans ?_ ((Below.refl w.heap.size ((w1.alloc (.cells (ruleCells r) 49)).alloc (.cells (ruleCells r) 49))).grown hgrow (by have := hJb.bel.size; have := hb1.size; simp; omega) (fun k hk => (own_from hown k hk)))
        exact ((hJb.bel.trans (hb1.mono hJb.bel.size)).alloc (by have := hJb.bel.size; have := hb1.size; omega) _).alloc (by have := hJb.bel.size; have := hb1.size; simp; omega) _
      have keep : ∀ (g : Nat) (o : Obj), Wb.heap[g]? = some o → (Value.slice A pre.length c).ownBlock ≠ some g → g ≠ w.heap.size + 1 + 1 → (w2.setCell ⟨w.heap.size + 1 + 1, 0, none⟩ (.slice (some ⟨g', 0, none⟩) (pre.length + 1) cap')).heap[g]? = some o := by
        intro g o hg hne hne2
        have hlt := (Array.getElem?_eq_some_iff.1 hg).1
        have k1 : w1.heap[g]? = some o := (hb1.block g hlt).trans hg
        have hlt1 := (Array.getElem?_eq_some_iff.1 k1).1
        have k2 : ((w1.alloc (.cells (ruleCells r) 49)).alloc (.cells (ruleCells r) 49)).heap[g]? = some o := (Below.heap_alloc _ _ _ (by simp; omega)).trans ((Below.heap_alloc _ _ _ hlt1).trans k1)
        have k3 : w2.heap[g]? = some o := (hgrow.block g (by simp; omega) (Ne.symm hne)).trans k2
        exact (Below.heap_setCell w2 ⟨w.heap.size + 1 + 1, 0, none⟩ _ g hne2).trans k3
      obtain ⟨v3, hv3⟩ := hJb.bs
      obtain ⟨v4, hv4⟩ := hJb.bp
      obtain ⟨v5, hv5⟩ := hJb.bv
      have x3 := keep _ _ hv3 (hown.other hv3 (by decide)) (by omega)
      have x4 := keep _ _ hv4 (hown.other hv4 (by decide)) (by omega)
      have x5 := keep _ _ hv5 (hown.other hv5 (by decide)) (by omega)
      have hown2 : OwnRu 49 w.heap.size w2 (some ⟨g', 0, none⟩) (pre.length + 1) cap' (rs.take (pre.length + 1)) := by
        have h := hown'
        rw [show rulesAll (rs.take pre.length) ++ rcells r = rulesAll (rs.take (pre.length + 1)) by rw [htk, rulesAll_append]; simp [rulesAll]] at h
        exact h
      refine ⟨keep _ _ hlb (hown.object hlb rfl) (by omega), ⟨hbel2.setCell (p := ⟨w.heap.size + 1 + 1, 0, none⟩) (by dsimp only; omega) _, keep _ _ hJb.r0 (hown.other hJb.r0 (by decide)) (by omega), keep _ _ hJb.r1 (hown.other hJb.r1 (by decide)) (by omega),
        ⟨some ⟨g', 0, none⟩, cap', hl2.store 0 _, ownRu_set (t := 28) hown2 hl2 (by decide) _⟩, ⟨v3, x3⟩, ⟨v4, x4⟩, ⟨v5, x5⟩, keep _ _ hJb.def_ (hown.object hJb.def_ rfl) (by omega)⟩, ?_, ?_, ?_⟩
      · rw [x3, ← e3]; exact hv3.symm
      · rw [x4, ← e4]; exact hv4.symm
      · rw [x5, ← e5]; exact hv5.symm
    · rintro W' hb ⟨h1, h2, h3, h4⟩
      refine ⟨rfl, ⟨by rw [List.length_append, List.length_singleton]; omega, ?_, World.putObj_heap_same (Array.getElem?_eq_some_iff.1 hb).1⟩, (World.putObj_heap_other (by omega)).trans h2, (World.putObj_heap_other (by omega)).trans h3, (World.putObj_heap_other (by omega)).trans h4⟩
      rw [List.length_append, List.length_singleton]
      exact h1.rec_ hb (rec .ready none)
  rintro e W ⟨⟨v, rfl⟩, _, hJ, hl⟩
  rw [List.length_map] at hJ
  have he := run_endLoop (P := Tryz.prog) hl Hstate.out
  have hJ2 := hJ.rec_ hl { rec .ready none with state := .exhausted }
  obtain ⟨W2, hW2⟩ : ∃ W2, W.putObj (w.heap.size + 1 + 1 + 1 + 1 + 1 + 1 + 1) (.loop { rec .ready none with state := .exhausted }) = W2 := ⟨_, rfl⟩
  rw [hW2] at he hJ2
  refine ⟨(rec .ready none).pending, W2, he, ?_⟩
  rw [Hpend.out]
  clear hJ hl he hJ0 hl0 hb3 hb4 hb5 hW2
  obtain ⟨A, c, hlrow, hown⟩ := hJ2.row
  rw [List.take_length] at hown
  have cl := hlrow.cell 0 _ rfl
  have q0 := hJ2.r0.cell 0 _ rfl
  have q1 := hJ2.r1.cell 0 _ rfl
  have f0 := hJ2.r0.free 0
  have f1 := hJ2.r1.free 0
  gi_wp2
  have hn1 : w.heap.size ≠ w.heap.size + 1 := by omega
  have hr0 := (hJ2.r0.store 0 (.slice A rs.length c)).far (p := ⟨w.heap.size + 1, 0, none⟩) (by dsimp only; omega) (.int .i64 0)
  have hr1 := (hJ2.r1.far (p := ⟨w.heap.size, 0, none⟩) (by dsimp only; omega) (.slice A rs.length c)).store 0 (.int .i64 0)
  have hK : ((W2.setCell ⟨w.heap.size, 0, none⟩ (.slice A rs.length c)).setCell ⟨w.heap.size + 1, 0, none⟩ (.int .i64 0)).heap[w.heap.size + 1 + 1 + 1 + 1 + 1 + 1]? = some (.deferred (some [])) :=
    (Below.heap_setCell _ ⟨w.heap.size + 1, 0, none⟩ _ _ (by dsimp only; omega)).trans ((Below.heap_setCell _ ⟨w.heap.size, 0, none⟩ _ _ (by dsimp only; omega)).trans hJ2.def_)
  have hown3 := ownRu_set (t := 25) (ownRu_set (t := 28) hown hJ2.r0 (by decide) (.slice A rs.length c)) (hJ2.r1.far (p := ⟨w.heap.size, 0, none⟩) (by dsimp only; omega) (.slice A rs.length c)) (by decide) (.int .i64 0)
  have hbel3 := (hJ2.bel.setCell (p := ⟨w.heap.size, 0, none⟩) (Nat.le_refl _) (.slice A rs.length c)).setCell (p := ⟨w.heap.size + 1, 0, none⟩) (by dsimp only; omega) (.int .i64 0)
  generalize (W2.setCell ⟨w.heap.size, 0, none⟩ (.slice A rs.length c)).setCell ⟨w.heap.size + 1, 0, none⟩ (.int .i64 0) = W3 at hr0 hr1 hK hown3 hbel3 ⊢
  refine ⟨by simp, .inl ⟨_, _, rfl, run_takeDeferred hK, ?_⟩⟩
  have y0 := Whole.cell (w := W3.putObj (w.heap.size + 1 + 1 + 1 + 1 + 1 + 1) (.deferred none)) ((World.putObj_heap_other (by omega)).trans hr0) 0 (.slice A rs.length c) rfl
  have y1 := Whole.cell (w := W3.putObj (w.heap.size + 1 + 1 + 1 + 1 + 1 + 1) (.deferred none)) ((World.putObj_heap_other (by omega)).trans hr1) 0 (.int .i64 0) rfl
  have hown4 := ownsRow_putObj hown3 (.deferred none) hK rfl
  have hbel4 := hbel3.trans (belowK_b (w := w) (Nat.le_refl _) W3 _ _ (.deferred none) (by omega) hK rfl rfl)
  generalize W3.putObj (w.heap.size + 1 + 1 + 1 + 1 + 1 + 1) (.deferred none) = W4 at y0 y1 hown4 hbel4 ⊢
  exact ⟨.tuple #[.slice A rs.length c, .int .i64 0], by simp [results, Tryz.results14, go_sem, y0, y1], A, c, rfl, hown4, hbel4⟩
end Go.Proofs.YtlkpofhfkhdheaaGreatDoor
