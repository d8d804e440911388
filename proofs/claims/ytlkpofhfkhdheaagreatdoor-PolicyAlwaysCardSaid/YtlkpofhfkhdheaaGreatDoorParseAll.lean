/-
  What Parse answers to the text of rules that are right.
-/
import Derived.Test.YtlkpofhfkhdheaaGreatDoorSplit
import Derived.Test.YtlkpofhfkhdheaaGreatDoorParseWalk
import Derived.RangeFuncBox
namespace Go.Proofs.YtlkpofhfkhdheaaGreatDoor
open Go.RowKit Ru
attribute [local go_sem] Oper.semAt_some

/-- A range over a function's statement, at the wide fence: the function's own run is owed. -/
theorem wide_range {P : Program} {n : Nat} {g : Operand} {ps : Array Tmp} {assign body : Code} {Q : Exit → Act → World → Prop} {a : Act} {w : World} (D : Nat) (hD : w.heap.size = D) (gf : Nat) (lb : Array Value) (hg : a.eval g = .func (.func gf) #[] lb)
    (eg : ∀ args w, (callFunc gf args).run P w = .ok (.enter gf args) w)
    (h : ∀ (fn : FuncId) (rec : LoopState → Option Code → Loop), rec = (fun st pe => { state := st, pending := pe, fn, tmps := a.tmps, params := ps, assign, body, defers := D }) →
      CallsIn Fence.wide (n - 1) P gf (#[.func (.yield (D + 1)) #[] #[]] ++ lb) ((w.alloc (.deferred (some []))).alloc (.loop (rec .ready none)))
        (rangePost Fence.wide n P (D + 1) Q { a with defers := { target := .collected D, args := #[] } :: a.defers })) :
    (Code.rangeFunc g ps assign body).wpIn Fence.wide n P Q a w := by
  subst hD
  refine wpIn_rangeFunc ?_
  intro fn _
  rw [show Fence.wide.round = none from rfl]
  obtain ⟨rec, hrec⟩ : ∃ rec : LoopState → Option Code → Loop, rec = fun st pe => { state := st, pending := pe, fn, tmps := a.tmps, params := ps, assign, body, defers := w.heap.size } := ⟨_, rfl⟩
  have h' := h fn rec hrec
  obtain ⟨W1, hW1⟩ : ∃ W1, (w.alloc (.deferred (some []))).alloc (.loop (rec .ready none)) = W1 := ⟨_, rfl⟩
  rw [hW1] at h'
  clear h
  refine ⟨w.heap.size + 1, [{ target := .collected w.heap.size, args := #[] }], W1, { target := .fn (.func gf) lb, args := #[.func (.yield (w.heap.size + 1)) #[] #[]] }, W1, gf,
    #[.func (.yield (w.heap.size + 1)) #[] #[]] ++ lb, W1, ?_, ?_, ?_, ?_, ?_, ?_⟩
  · rw [← hW1, hrec]; exact run_enterLoop_outer _ _ _ _ _
  · simp only [resolve, hg]
    simp [go_sem]
  · intro f' _; trivial
  · simp [invoke, go_sem, eg]
  · intro e; cases e
  · exact h'
/-- One round of it. -/
theorem wide_round {P : Program} {m l : Nat} {fn : FuncId} {tmps : Array Value} {ps : Array Tmp} {assign body : Code} {ds : Nat} {args : Array Value} {W : World} (rec : LoopState → Option Code → Loop)
    (hrec : rec = fun st pe => { state := st, pending := pe, fn, tmps, params := ps, assign, body, defers := ds }) (hl : W.heap[l]? = some (.loop (rec .ready none))) (hps : args.size = ps.size) (a₁ : Act)
    (hassign : ∀ K : Act → World → Prop, K a₁ W → assign.wpIn (Fence.wide.inRound l) m P (Exit.then K (fun _ _ _ => False)) { tmps := (ps.zip args).foldl (fun t (p, v) => t.setIfInBounds p v) tmps, defers := [] } W)
    (R' : World → Prop) (hbody : body.wpIn (Fence.wide.inRound l) m P (fun ex _ W' => ex = .normal ∧ W'.heap[l]? = some (.loop (rec .busy none)) ∧ R' W') a₁ (W.putObj l (.loop (rec .busy none))))
    (R : Ending → World → Prop) (hR : ∀ W', W'.heap[l]? = some (.loop (rec .busy none)) → R' W' → R (.returned (.bool true)) (W'.putObj l (.loop (rec .ready none)))) :
    YieldAt Fence.wide m P l args W R := by
  have hy := run_yield (P := P) (args := args) hl (by rw [hrec]; exact hps)
  rw [hrec] at hy
  refine ⟨fn, _, assign, body, hy, roundIn_of_wpIn trivial (hassign _ ⟨_, run_beginRound hl (by rw [hrec]), ?_⟩)⟩
  have e1 : ({ rec .ready none with state := .busy } : Loop) = rec .busy none := by rw [hrec]
  rw [e1]
  refine wpIn_mono hbody ?_
  rintro e a3 W3 ⟨rfl, hb, hr⟩
  have := run_endRound (P := P) none hb
  have e2 : ({ rec .busy none with state := if (none : Option Code).isNone then .ready else .done, pending := none } : Loop) = rec .ready none := by rw [hrec]; rfl
  rw [e2] at this
  exact ⟨_, _, this, hR _ hb hr⟩
set_option maxHeartbeats 1000000 in
theorem splitseq_in (s : ByteArray) (w : World) :
    Calls Tryz.prog 47 #[.string s, .string ⟨#[10]⟩, .int .i64 0] w fun e w' => e = .returned (.func (.func 67) #[] #[.pointer (some ⟨w.heap.size + 1, 0, none⟩), .pointer (some ⟨w.heap.size, 0, none⟩), .pointer (some ⟨w.heap.size + 1 + 1, 0, none⟩)]) ∧
      w' = ((w.alloc (.cells #[.string s] 9)).alloc (.cells #[.string ⟨#[10]⟩] 9)).alloc (.cells #[.int .i64 0] 3) := by
  go_enter Tryz.func47, Tryz.ntmps47
  go_wp2
  go_ret
  exact ⟨rfl, rfl⟩
set_option maxHeartbeats 1000000 in
theorem splitseq_any (s : ByteArray) (w : World) :
    Calls Tryz.prog 29 #[.string s, .string ⟨#[10]⟩] w fun e w' => e = .returned (.func (.func 67) #[] #[.pointer (some ⟨w.heap.size + 1, 0, none⟩), .pointer (some ⟨w.heap.size, 0, none⟩), .pointer (some ⟨w.heap.size + 1 + 1, 0, none⟩)]) ∧
      w' = ((w.alloc (.cells #[.string s] 9)).alloc (.cells #[.string ⟨#[10]⟩] 9)).alloc (.cells #[.int .i64 0] 3) := by
  have H := hid_ (splitseq_in s w)
  go_enter Tryz.func29, Tryz.ntmps29
  go_wp2_with (go_at_call 47; (with_reducible refine Calls.mono H.out ?_); rintro e w' ⟨rfl, rfl⟩)
  go_ret
  exact ⟨rfl, rfl⟩

theorem count_not {l : List UInt8} {c : UInt8} (h : c ∉ l) : Lib.countByte l c = 0 := List.count_eq_zero.2 h
theorem count_join : ∀ ls : List ByteArray, ls ≠ [] → (∀ x ∈ ls, (10 : UInt8) ∉ x.data.toList) → Lib.countByte (joinS ls).data.toList 10 + 1 = ls.length
  | [], h, _ => absurd rfl h
  | [x], _, h => by
    show Lib.countByte x.data.toList 10 + 1 = 1
    rw [count_not (h x (by simp))]
  | x :: y :: r, _, h => by
    have ih := count_join (y :: r) (by simp) (fun z hz => h z (by simp [hz]))
    have hp := joinS_parted (y := y) (r := r) (h x (by simp))
    unfold Lib.countByte at ih ⊢
    rw [hp.1, List.count_append, List.count_cons_self, List.count_eq_zero.2 (h x (by simp))]
    show 0 + (_ + 1) + 1 = (y :: r).length + 1
    omega
/-- The text of rules. -/
def textS (rs : List RuleD) : ByteArray := joinS (rs.map lineS)
end Go.Proofs.YtlkpofhfkhdheaaGreatDoor
