/-
  A range over a function, at the wide fence: what the statement owes, and one round of it, also where the round's own variable is laid in memory.
-/
import Derived.Test.YtljlhaillmeedaaZGRA
import Derived.Test.YtljlhaillmeedaaZGRC
import Derived.Test.YtljlhaillmeedaaZGRD
import Derived.WalkKit
import Derived.RangeFuncOwn
import Derived.RangeFuncBox
import Derived.Deep.QuietTactic
import Derived.RangeFuncNested
import Derived.RangeFuncBound
import Derived.RangeFuncCalls
import Derived.RangeFuncLeaves
import Derived.Shelf.Abstract
import Derived.Shelf.RegionOpen
import Derived.OwnWalkIn
import Derived.TacticsInMore
import Derived.LoopNIn
import Derived.LoopIn
namespace Go.Proofs.Ytljlhaillmeedaa
set_option linter.unusedSimpArgs false
set_option linter.unusedVariables false
open Go.RowKit
attribute [local go_sem] Oper.semAt_some

theorem wide_range {P : Program} {n : Nat} {g : Operand} {ps : Array Tmp} {assign body : Code} {Q : Exit → Act → World → Prop} {a : Act} {w : World} (D : Nat) (hD : w.heap.size = D) (gf : Nat) (lb : Array Value) (hg : a.eval g = .func (.func gf) #[] lb)
    (eg : ∀ args w, (callFunc gf args).run P w = .ok (.enter gf args) w)
    (h : ∀ (fn : FuncId) (rec : LoopState → Option Code → Loop), rec = (fun st pe => { state := st, pending := pe, fn, tmps := a.tmps, params := ps, assign, body, defers := D }) →
      CallsIn Fence.wide (n - 1) P gf (#[.func (.yield (D + 1)) #[] #[]] ++ lb) ((w.alloc (.deferred (some []))).alloc (.loop (rec .ready none)))
        (rangePost Fence.wide n P (D + 1) Q { a with defers := { target := .collected D, args := #[] } :: a.defers })) :
    (Code.rangeFunc g ps assign body).wpIn Fence.wide n P Q a w := by
  subst hD
  refine wpIn_rangeFunc ?_
  intro fn _
  rw [show Fence.wide.round = none from rfl]
  obtain ⟨rec, hrec⟩ : ∃ rec : LoopState → Option Code → Loop, rec = fun st pe => { state := st, pending := pe, fn, tmps := a.tmps, params := ps, assign, body, defers := w.heap.size } := ⟨_, rfl⟩
  have h' := h fn rec hrec
  obtain ⟨W1, hW1⟩ : ∃ W1, (w.alloc (.deferred (some []))).alloc (.loop (rec .ready none)) = W1 := ⟨_, rfl⟩
  rw [hW1] at h'
  clear h
  refine ⟨w.heap.size + 1, [{ target := .collected w.heap.size, args := #[] }], W1, { target := .fn (.func gf) lb, args := #[.func (.yield (w.heap.size + 1)) #[] #[]] }, W1, gf,
    #[.func (.yield (w.heap.size + 1)) #[] #[]] ++ lb, W1, ?_, ?_, ?_, ?_, ?_, ?_⟩
  · rw [← hW1, hrec]; exact run_enterLoop_outer _ _ _ _ _
  · simp only [resolve, hg]
    simp [go_sem]
  · intro f' _; trivial
  · simp [invoke, go_sem, eg]
  · intro e; cases e
  · exact h'
/-- One round of it; W1: what the world is behind the round's variable. -/
theorem wide_round {P : Program} {m l : Nat} {fn : FuncId} {tmps : Array Value} {ps : Array Tmp} {assign body : Code} {ds : Nat} {args : Array Value} {W : World} (W1 : World) (rec : LoopState → Option Code → Loop)
    (hrec : rec = fun st pe => { state := st, pending := pe, fn, tmps, params := ps, assign, body, defers := ds }) (hl : W.heap[l]? = some (.loop (rec .ready none))) (hl1 : W1.heap[l]? = some (.loop (rec .ready none))) (hps : args.size = ps.size) (a₁ : Act)
    (hassign : ∀ K : Act → World → Prop, K a₁ W1 → assign.wpIn (Fence.wide.inRound l) m P (Exit.then K (fun _ _ _ => False)) { tmps := (ps.zip args).foldl (fun t (p, v) => t.setIfInBounds p v) tmps, defers := [] } W)
    (R' : World → Prop) (hbody : body.wpIn (Fence.wide.inRound l) m P (fun ex _ W' => ex = .normal ∧ W'.heap[l]? = some (.loop (rec .busy none)) ∧ R' W') a₁ (W1.putObj l (.loop (rec .busy none))))
    (R : Ending → World → Prop) (hR : ∀ W', W'.heap[l]? = some (.loop (rec .busy none)) → R' W' → R (.returned (.bool true)) (W'.putObj l (.loop (rec .ready none)))) :
    YieldAt Fence.wide m P l args W R := by
  have hy := run_yield (P := P) (args := args) hl (by rw [hrec]; exact hps)
  rw [hrec] at hy
  refine ⟨fn, _, assign, body, hy, roundIn_of_wpIn trivial (hassign _ ⟨_, run_beginRound hl1 (by rw [hrec]), ?_⟩)⟩
  have e1 : ({ rec .ready none with state := .busy } : Loop) = rec .busy none := by rw [hrec]
  rw [e1]
  refine wpIn_mono hbody ?_
  rintro e a3 W3 ⟨rfl, hb, hr⟩
  have := run_endRound (P := P) none hb
  have e2 : ({ rec .busy none with state := if (none : Option Code).isNone then .ready else .done, pending := none } : Loop) = rec .ready none := by rw [hrec]; rfl
  rw [e2] at this
  exact ⟨_, _, this, hR _ hb hr⟩
end Go.Proofs.Ytljlhaillmeedaa

/-
  What the library's Values, AppendSeq and Collect do at a row of spans.
-/
namespace Go.Proofs.Ytljlhaillmeedaa
set_option linter.unusedSimpArgs false
set_option linter.unusedVariables false
open Go.RowKit Ru

end Go.Proofs.Ytljlhaillmeedaa

/-
  What the library's AppendSeq, Collect make of the iterator over a row of spans: a row of the call's own that reads alike.
-/
namespace Go.Proofs.Ytljlhaillmeedaa
set_option linter.unusedSimpArgs false
set_option linter.unusedVariables false
open Go.RowKit Ru
attribute [local go_sem] Oper.semAt_some

theorem OwnSp.block {B : Nat} {w w' : World} {A : Option Addr} {n c : Nat} {rs : List SpanD} (h : OwnSp B w A n c rs) (hk : ∀ (g : Nat) (o : Obj), w.heap[g]? = some o → o.isCells = true → w'.heap[g]? = w.heap[g]?) : OwnSp B w' A n c rs := by
  obtain ⟨hx, h | ⟨g, cap, cur, e', hg, hh, r⟩⟩ := h
  · exact ⟨hx, .inl h⟩
  · exact ⟨hx, .inr ⟨g, cap, cur, e', hg, (hk g _ hh rfl).trans hh, r⟩⟩
theorem OwnSp.other {B : Nat} {w : World} {A : Option Addr} {n c : Nat} {rs : List SpanD} (h : OwnSp B w A n c rs) {g : Nat} {t : TypeId} {cs : Array Value} (hg : Whole w g t cs) (hne : 137 ≠ t) : (Value.slice A n c).ownBlock ≠ some g := by
  rcases h.2 with ⟨e', _⟩ | ⟨g', cap, cur, e', _, hh, _⟩
  · rw [e']; simp [Value.ownBlock]
  · rw [e']
    intro he
    have : g' = g := by simpa [Value.ownBlock] using he
    subst this
    unfold Whole at hg
    rw [hh] at hg
    injection hg with hg
    injection hg with _ ht
    exact hne ht
theorem OwnSp.object {B : Nat} {w : World} {A : Option Addr} {n c : Nat} {rs : List SpanD} (h : OwnSp B w A n c rs) {g : Nat} {o : Obj} (hg : w.heap[g]? = some o) (ho : o.isCells = false) : (Value.slice A n c).ownBlock ≠ some g := by
  rcases h.2 with ⟨e', _⟩ | ⟨g', cap, cur, e', _, hh, _⟩
  · rw [e']; simp [Value.ownBlock]
  · rw [e']
    intro he
    have : g' = g := by simpa [Value.ownBlock] using he
    subst this
    rw [hh] at hg
    cases hg
    cases ho
theorem Whole.grown {w w' : World} {g : Nat} {t : TypeId} {cs : Array Value} {row : Option Nat} (h : Whole w g t cs) (hb : w.grownBy w' row) (hg : row ≠ some g) : Whole w' g t cs := (hb.block g h.lt (Ne.symm hg)).trans h
theorem ownSp_set {B : Nat} {w : World} {A : Option Addr} {n c : Nat} {rs : List SpanD} (h : OwnSp B w A n c rs) {g : Nat} {t : TypeId} {cs : Array Value} (hg : Whole w g t cs) (hne : 137 ≠ t) (v : Value) : OwnSp B (w.setCell ⟨g, 0, Option.none⟩ v) A n c rs := by
  refine World.ownsRow.kept h (row := some g) ?_ (.inr (h.other hg hne))
  exact ⟨rfl, rfl, rfl, by show _ ≤ (w.heap.modify _ _).size; rw [Array.size_modify]; exact Nat.le_refl _, fun i _ hi => Below.heap_setCell w ⟨g, 0, Option.none⟩ v i (by rintro rfl; exact hi rfl)⟩
theorem span_cells (W : World) (g : Nat) (hg : W.heap.size = g) (s : SpanD) (T : TypeId) : ∀ j u, (cellsOf s)[j]? = some u → (W.alloc (.cells (spanCells s) T)).cell? ((⟨g, 0, none⟩ : Addr).add j) = some u := by
  subst hg
  intro j u hu
  rw [add_plain, World.cell?_alloc_mark, ← hu]
  simp [cellsOf, spanCells]
theorem cellsOf_one (s : SpanD) : ∀ u ∈ cellsOf s, u.oneCell' = true := by
  intro u hu
  simp [cellsOf] at hu
  rcases hu with rfl | rfl | rfl | rfl | rfl | rfl | rfl | rfl
  all_goals rfl
/-- What stands between two rounds: the list so far in its box, the block for deferred calls. -/
structure JA (w : World) (ss : List SpanD) (k : Nat) (W : World) : Prop where
  bel : Below w.heap.size w W
  row : ∃ A c, Whole W w.heap.size 66 #[.slice A k c] ∧ OwnSp w.heap.size W A k c (ss.take k)
  def_ : W.heap[w.heap.size + 1]? = some (.deferred (some []))
theorem JA.move {w W W' : World} {ss : List SpanD} {k : Nat} (h : JA w ss k W) (hb : Below w.heap.size w W') (hk : ∀ g o, W.heap[g]? = some o → (o.isCells = true ∨ g = w.heap.size + 1) → W'.heap[g]? = W.heap[g]?) : JA w ss k W' := by
  obtain ⟨_, ⟨A, c, h2, h3⟩, h7⟩ := h
  exact ⟨hb, ⟨A, c, (hk _ _ h2 (.inl rfl)).trans h2, h3.block fun g o hg ho => hk g o hg (.inl ho)⟩, (hk _ _ h7 (.inr rfl)).trans h7⟩
theorem JA.rec_ {w W : World} {ss : List SpanD} {k : Nat} {lo : Loop} (h : JA w ss k W) (hl : W.heap[w.heap.size + 1 + 1]? = some (.loop lo)) (lo' : Loop) : JA w ss k (W.putObj (w.heap.size + 1 + 1) (.loop lo')) := by
  refine h.move (h.bel.trans (belowK_b (w := w) (Nat.le_refl _) W _ _ _ (by omega) hl rfl rfl)) fun g o hg ho => World.putObj_heap_other ?_
  rintro rfl
  rw [hl] at hg
  cases hg
  rcases ho with ho | ho
  · cases ho
  · omega
theorem JA.alloc {w W : World} {ss : List SpanD} {k : Nat} (h : JA w ss k W) (o : Obj) : JA w ss k (W.alloc o) :=
  h.move (h.bel.alloc h.bel.size _) fun _ _ hg _ => Below.heap_alloc _ _ _ (Array.getElem?_eq_some_iff.1 hg).1
theorem ja_start (w : World) (ss : List SpanD) (lo : Loop) :
    JA w ss 0 (((w.alloc (.cells #[.slice none 0 0] 66)).alloc (.deferred (some []))).alloc (.loop lo)) ∧
    (((w.alloc (.cells #[.slice none 0 0] 66)).alloc (.deferred (some []))).alloc (.loop lo)).heap[w.heap.size + 1 + 1]? = some (.loop lo) := by
  refine ⟨⟨?_, ⟨none, 0, ?_, OwnSp.none _ _⟩, ?_⟩, ?_⟩
  · repeat (first | exact Below.refl _ _ | refine Below.alloc ?_ (by simp; omega) _ | refine Below.alloc ?_ (by simp) _)
  · exact ((whole_new w _ _).alloc _).alloc _
  · have h := World.alloc_heap_new (w.alloc (.cells #[.slice none 0 0] 66)) (.deferred (some []))
    simp only [World.size_alloc] at h
    exact (Below.heap_alloc _ _ _ (by simp)).trans h
  · have h := World.alloc_heap_new ((w.alloc (.cells #[.slice none 0 0] 66)).alloc (.deferred (some []))) (.loop lo)
    simp only [World.size_alloc] at h
    exact h
def OwnSpPost (w : World) (ss : List SpanD) (e : Ending) (w' : World) : Prop := ∃ A c, e = .returned (.slice A ss.length c) ∧ OwnSp w.heap.size w' A ss.length c ss ∧ Below w.heap.size w w'
theorem ownSpPost_mk {w w' : World} {ss : List SpanD} {A : Option Addr} {n c : Nat} (hn : ss.length = n) (h : OwnSp w.heap.size w' A n c ss) (hb : Below w.heap.size w w') : OwnSpPost w ss (.returned (.slice A n c)) w' := by
  subst hn
  exact ⟨A, c, rfl, h, hb⟩

end Go.Proofs.Ytljlhaillmeedaa

/-
  Spans by their Ids (register's seat holds no sorting of spans).
-/
namespace Go.Proofs.Ytljlhaillmeedaa
set_option linter.unusedSimpArgs false
set_option linter.unusedVariables false
open Go.RowKit Ru
instance : Inhabited SpanD := ⟨SpanD.zero⟩
/-- In ascending order of their Ids. -/
def ById (ss : List SpanD) : Prop := ∀ i j (_ : i < j) (hj : j < ss.length), ss[i].id ≤ ss[j].id
end Go.Proofs.Ytljlhaillmeedaa

/-
  What rises answers, at numbers, spans and members.
-/
namespace Go.Proofs.Ytljlhaillmeedaa
set_option linter.unusedSimpArgs false
set_option linter.unusedVariables false
open Go.RowKit Ru

end Go.Proofs.Ytljlhaillmeedaa

/-
  What the program's lengthRight, spansRight and membersRight answer.
-/
namespace Go.Proofs.Ytljlhaillmeedaa
set_option linter.unusedSimpArgs false
set_option linter.unusedVariables false
open Go.RowKit Ru

theorem risesFrom_iff : ∀ (l : List Nat) (a : Nat), risesFrom a l = true ↔ (∀ x ∈ l, a < x) ∧ l.Pairwise (· < ·)
  | [], a => by simp [risesFrom]
  | x :: r, a => by
    rw [risesFrom, Bool.and_eq_true, decide_eq_true_eq, risesFrom_iff r x, List.pairwise_cons]
    constructor
    · rintro ⟨h1, h2, h3⟩
      refine ⟨fun y hy => ?_, h2, h3⟩
      rcases List.mem_cons.1 hy with rfl | hy
      · exact h1
      · have := h2 y hy; omega
    · rintro ⟨h1, h2, h3⟩
      exact ⟨h1 x (by simp), h2, h3⟩
theorem rises_sorted {l : List Nat} (h : l.Pairwise (· ≤ ·)) : risesF l = (decide l.Nodup && l.all fun x => decide (0 < x)) := by
  rw [Bool.eq_iff_iff, Bool.and_eq_true, decide_eq_true_eq, List.all_eq_true]
  unfold risesF
  rw [risesFrom_iff]
  simp only [decide_eq_true_eq]
  constructor
  · rintro ⟨h1, h2⟩
    exact ⟨h2.imp (fun h => Nat.ne_of_lt h), h1⟩
  · rintro ⟨h1, h2⟩
    refine ⟨h2, ?_⟩
    have := h.and h1
    exact this.imp fun ⟨a, b⟩ => Nat.lt_of_le_of_ne a b
theorem rises_perm {ss ss' : List SpanD} (hp : ss'.Perm ss) (hs : ById ss') : risesF (ss'.map SpanD.id) = (decide (ss.map SpanD.id).Nodup && (ss.map SpanD.id).all fun x => decide (0 < x)) := by
  rw [rises_sorted]
  · have hm := hp.map SpanD.id
    rw [decide_eq_decide.2 hm.nodup_iff]
    congr 1
    rw [Bool.eq_iff_iff, List.all_eq_true, List.all_eq_true]
    exact ⟨fun h x hx => h x (hm.mem_iff.2 hx), fun h x hx => h x (hm.mem_iff.1 hx)⟩
  · rw [List.pairwise_map, List.pairwise_iff_getElem]
    intro i j hi hj hij
    exact hs i j hij hj
/-- A span is right, and of the trace. -/
def okSpan (tr : Nat) (s : SpanD) : Bool := decide (s.trace = tr) && (rightF s == 0)
/-- Spans are right, of the trace, no two of one Id. -/
def spansF (tr : Nat) (ss : List SpanD) : Bool := ss.all (okSpan tr) && decide (ss.map SpanD.id).Nodup
theorem okSpan_id {tr : Nat} {s : SpanD} (h : okSpan tr s = true) : 0 < s.id := by
  unfold okSpan at h
  rw [Bool.and_eq_true, beq_iff_eq] at h
  have := (arg_no (right_zero h.2).1).2.1
  omega
theorem spans_good {tr : Nat} {ss ss' : List SpanD} (ha : ∀ j (hj : j < ss.length), okSpan tr ss[j] = true) (hp : ss'.Perm ss) (hs : ById ss') : spansF tr ss = risesF (ss'.map SpanD.id) := by
  have h1 : ss.all (okSpan tr) = true := List.all_eq_true.2 fun s h => by
    obtain ⟨j, hj, rfl⟩ := List.getElem_of_mem h
    exact ha j hj
  have h2 : ((ss.map SpanD.id).all fun x => decide (0 < x)) = true := List.all_eq_true.2 fun x hx => by
    obtain ⟨s, h, rfl⟩ := List.mem_map.1 hx
    exact decide_eq_true (okSpan_id (List.all_eq_true.1 h1 s h))
  rw [rises_perm hp hs, h2, Bool.and_true]
  unfold spansF
  rw [h1, Bool.true_and]
theorem spans_bad {tr : Nat} {ss : List SpanD} {s : SpanD} (hm : s ∈ ss) (h : okSpan tr s = false) : spansF tr ss = false := by
  unfold spansF
  rw [List.all_eq_false.2 ⟨s, hm, by rw [h]; decide⟩]
  rfl

def SortedPost (w : World) (ss : List SpanD) (e : Ending) (w' : World) : Prop := ∃ A c ss', e = .returned (.slice A ss.length c) ∧ ss'.Perm ss ∧ ById ss' ∧ SpanRow w' A ss.length c ss' ∧ Below w.heap.size w w'
theorem ret_bool {a b : Bool} (h : a = b) : Ending.returned (.bool b) = .returned (.bool a) := by rw [h]
/-- A list's length: 1 to so many where there is one, else none. -/
def lengthF (is : Bool) (n m : Nat) : Bool := if is = true then decide (1 ≤ n) && decide (n ≤ m) else decide (n = 0)
end Go.Proofs.Ytljlhaillmeedaa

/-
  Packets as data: what packets of a kind have; what the program's partsOf and membersRight answer.
-/
namespace Go.Proofs.Ytljlhaillmeedaa
set_option linter.unusedSimpArgs false
set_option linter.unusedVariables false
open Go.RowKit Ru

/-- What packets of some kind have beside it. -/
structure PartsD where
  trace : Bool
  ballot : Bool
  answer : Bool
  verdict : Bool
  spans : Bool
  members : Bool
  ids : Bool
  deriving DecidableEq
abbrev partsVal (h : PartsD) : Value := .agg #[.bool h.trace, .bool h.ballot, .bool h.answer, .bool h.verdict, .bool h.spans, .bool h.members, .bool h.ids]
def partsCells (h : PartsD) : Array Value := #[.bool h.trace, .bool h.ballot, .bool h.answer, .bool h.verdict, .bool h.spans, .bool h.members, .bool h.ids]
def partsF (k : Int) : PartsD :=
  if k = 1 then ⟨true, false, false, false, true, false, false⟩ else
  if k = 2 then ⟨true, false, false, false, true, false, false⟩ else
  if k = 3 then ⟨false, false, false, false, false, true, false⟩ else
  if k = 4 then ⟨true, true, false, false, false, false, false⟩ else
  if k = 5 then ⟨true, true, true, true, false, false, false⟩ else
  if k = 6 then ⟨true, true, false, true, false, false, false⟩ else
  if k = 7 then ⟨true, true, true, false, false, false, false⟩ else
  if k = 8 then ⟨true, false, false, true, false, false, false⟩ else
  if k = 9 then ⟨true, true, false, false, true, false, false⟩ else
  if k = 10 then ⟨true, false, false, false, false, false, true⟩ else
  ⟨false, false, false, false, false, false, false⟩
theorem parts_1 : partsF 1 = ⟨true, false, false, false, true, false, false⟩ := by unfold partsF; simp
theorem parts_2 : partsF 2 = ⟨true, false, false, false, true, false, false⟩ := by unfold partsF; simp
theorem parts_3 : partsF 3 = ⟨false, false, false, false, false, true, false⟩ := by unfold partsF; simp
theorem parts_4 : partsF 4 = ⟨true, true, false, false, false, false, false⟩ := by unfold partsF; simp
theorem parts_5 : partsF 5 = ⟨true, true, true, true, false, false, false⟩ := by unfold partsF; simp
theorem parts_6 : partsF 6 = ⟨true, true, false, true, false, false, false⟩ := by unfold partsF; simp
theorem parts_7 : partsF 7 = ⟨true, true, true, false, false, false, false⟩ := by unfold partsF; simp
theorem parts_8 : partsF 8 = ⟨true, false, false, true, false, false, false⟩ := by unfold partsF; simp
theorem parts_9 : partsF 9 = ⟨true, true, false, false, true, false, false⟩ := by unfold partsF; simp
theorem parts_10 : partsF 10 = ⟨true, false, false, false, false, false, true⟩ := by unfold partsF; simp
theorem parts_none {k : Int} (h : ¬ (1 ≤ k ∧ k ≤ 10)) : partsF k = ⟨false, false, false, false, false, false, false⟩ := by
  unfold partsF
  rw [if_neg (by omega)]
  rw [if_neg (by omega)]
  rw [if_neg (by omega)]
  rw [if_neg (by omega)]
  rw [if_neg (by omega)]
  rw [if_neg (by omega)]
  rw [if_neg (by omega)]
  rw [if_neg (by omega)]
  rw [if_neg (by omega)]
  rw [if_neg (by omega)]
theorem kind_cases {k : Int} (h : 1 ≤ k ∧ k ≤ 10) : k = 1 ∨ k = 2 ∨ k = 3 ∨ k = 4 ∨ k = 5 ∨ k = 6 ∨ k = 7 ∨ k = 8 ∨ k = 9 ∨ k = 10 := by omega
def PartsPost (w : World) (h : PartsD) (e : Ending) (w' : World) : Prop := e = .returned (partsVal h) ∧ Below w.heap.size w w'
theorem partsPost_mk {w w' : World} {h : PartsD} {v : Value} (e : partsVal h = v) (hb : Below w.heap.size w w') : PartsPost w h (.returned v) w' := ⟨by rw [e], hb⟩
/-- A member is right. -/
def okMem (m : MemberD) : Bool := decide (0 < m.inc) && (decide (0 ≤ m.state) && decide (m.state ≤ 2))
/-- Members are right, and rise. -/
def membersF (ms : List MemberD) : Bool := ms.all okMem && risesF (ms.map MemberD.id)
theorem mems_bad {ms : List MemberD} {m : MemberD} (hm : m ∈ ms) (h : okMem m = false) : membersF ms = false := by
  unfold membersF
  rw [List.all_eq_false.2 ⟨m, hm, by rw [h]; decide⟩]
  rfl
theorem mems_good {ms : List MemberD} (h : ∀ j (hj : j < ms.length), okMem ms[j] = true) : membersF ms = risesF (ms.map MemberD.id) := by
  unfold membersF
  rw [List.all_eq_true.2 fun m hm => by
    obtain ⟨j, hj, rfl⟩ := List.getElem_of_mem hm
    exact h j hj]
  rfl
end Go.Proofs.Ytljlhaillmeedaa

/-
  A packet as a value; what the program's numbersRight and answerRight answer.
-/
namespace Go.Proofs.Ytljlhaillmeedaa
set_option linter.unusedSimpArgs false
set_option linter.unusedVariables false
open Go.RowKit Ru

/-- A packet. -/
structure PackD where
  kind : Int
  trace : Nat
  bn : Nat
  bnode : Nat
  sn : Nat
  snode : Nat
  v : Int
  ok : Bool
  spans : List SpanD
  members : List MemberD
  ids : List Nat
/-- Where a packet's lists lie. -/
structure PackS where
  a1 : Option Addr
  c1 : Nat
  a2 : Option Addr
  c2 : Nat
  a3 : Option Addr
  c3 : Nat
abbrev packVal (p : PackD) (s : PackS) : Value := .agg #[.int .i64 p.kind, .int .u64 (p.trace : Nat), .int .u64 (p.bn : Nat), .int .u64 (p.bnode : Nat), .int .u64 (p.sn : Nat), .int .u64 (p.snode : Nat), .int .i64 p.v, .bool p.ok, .slice s.a1 p.spans.length s.c1, .slice s.a2 p.members.length s.c2, .slice s.a3 p.ids.length s.c3]
def packCells (p : PackD) (s : PackS) : Array Value := #[.int .i64 p.kind, .int .u64 (p.trace : Nat), .int .u64 (p.bn : Nat), .int .u64 (p.bnode : Nat), .int .u64 (p.sn : Nat), .int .u64 (p.snode : Nat), .int .i64 p.v, .bool p.ok, .slice s.a1 p.spans.length s.c1, .slice s.a2 p.members.length s.c2, .slice s.a3 p.ids.length s.c3]
structure PackIn (w : World) (p : PackD) (s : PackS) : Prop where
  r1 : SpanRow w s.a1 p.spans.length s.c1 p.spans
  r2 : MemRow w s.a2 p.members.length s.c2 p.members
  r3 : Row w s.a3 p.ids.length s.c3 (idVals p.ids)
theorem PackIn.below {w w' : World} {p : PackD} {s : PackS} (h : PackIn w p s) (hb : Below w.heap.size w w') : PackIn w' p s := ⟨h.r1.below hb, h.r2.below hb, h.r3.below hb⟩
structure PackD.Wf (p : PackD) : Prop where
  trace : p.trace < 18446744073709551616
  bn : p.bn < 18446744073709551616
  bnode : p.bnode < 18446744073709551616
  sn : p.sn < 18446744073709551616
  snode : p.snode < 18446744073709551616
  spans : ∀ s ∈ p.spans, s.Wf
  members : ∀ m ∈ p.members, m.Wf
  ids : ∀ n ∈ p.ids, n < 18446744073709551616

def vLeast (h : PartsD) : Int := if h.answer then 0 else if h.verdict then 1 else 0
def vMost (h : PartsD) : Int := if h.verdict then 3 else 0
def ballotF (is : Bool) (n node : Nat) : Bool := if is then decide (n ≠ 0) else decide (n = 0) && decide (node = 0)
def numbersF (h : PartsD) (p : PackD) : Bool := (h.trace == decide (p.trace ≠ 0)) && (ballotF h.ballot p.bn p.bnode && (decide (vLeast h ≤ p.v) && decide (p.v ≤ vMost h)))
/-- A ballot that is not zero. -/
def isB (n node : Nat) : Bool := !(decide (n = 0) && decide (node = 0))
def answerF (h : PartsD) (p : PackD) : Bool :=
  if h.answer then if p.ok then isB p.sn p.snode == decide (p.v ≠ 0) else isB p.sn p.snode && decide (p.v = 0) else !p.ok && !isB p.sn p.snode
set_option maxRecDepth 100000 in
theorem ballot_equalIn (a b : Nat) (w : World) : (Op.equalIn 10000 50 (.agg #[.int .u64 (a : Nat), .int .u64 (b : Nat)]) (.agg #[.int .u64 0, .int .u64 0])).run Try.prog w = .ok (!isB a b) w := by
  rw [run_equalIn_agg w 9999 50 _ _ (by kernel_rfl) (by kernel_rfl)]
  simp [Program.fieldsOf, Try.underlying50, Op.eqFields, part, go_sem]
  unfold isB
  by_cases h1 : a = 0 <;> by_cases h2 : b = 0 <;> simp [h1, h2]
theorem ballot_neq (a b : Nat) (w : World) : (binOp .neq 50 (.agg #[.int .u64 (a : Nat), .int .u64 (b : Nat)]) (.agg #[.int .u64 0, .int .u64 0])).run Try.prog w = .ok (.bool (isB a b)) w := by
  rw [run_neq_struct, ballot_equalIn]
  simp [go_sem]

end Go.Proofs.Ytljlhaillmeedaa
