/-
  Contracts of the library's functions at this program: what the shelf's own theorems ask of it; laid by the guide's program.
-/
import Derived.Test.YtcmoelphjdehaaaZGA
import Derived.Test.YtcmoelphjdehaaaZGC
import Derived.Test.YtcmoelphjdehaaaZGD
import Derived.Shelf.SlSortCmp.WholeK
import Derived.Test.YtcmoelphjdehaaaProg
import Derived.WalkKit
import Derived.RangeFuncOwn
import Derived.RangeFuncBox
import Derived.Deep.QuietTactic
import Derived.RangeFuncNested
import Derived.RangeFuncBound
import Derived.RangeFuncCalls
import Derived.RangeFuncLeaves
import Derived.Shelf.Abstract
import Derived.Shelf.RegionOpen
import Derived.OwnWalkIn
import Derived.TacticsInMore
import Derived.LoopNIn
import Derived.LoopIn
import Derived.Shelf.SlSortCmp.NoneTotal
import Derived.Shelf.GgClosure.Gives
import Derived.Lib.OwnBridge
namespace Go.Proofs.Ytcmoelphjdehaaa
set_option linter.unusedSimpArgs false
set_option linter.unusedVariables false
open Go.Shelf Go.Proofs
def Sh.sortSpans_ren : Go.Shelf.Ren := ⟨fun | 6 => 207 | 15 => 106 | 14 => 211 | 28 => 139 | 29 => 140 | 20 => 213 | 21 => 214 | 22 => 215 | 23 => 216 | 24 => 217 | 25 => 218 | 26 => 219 | 27 => 220 | 46 => 221 | 47 => 160 | 48 => 161 | 49 => 222 | 50 => 223 | 57 => 224 | n => n, fun | 22 => 198 | 24 => 247 | 25 => 253 | 3 => 3 | 39 => 130 | 0 => 0 | 53 => 177 | 55 => 60 | 4 => 4 | 46 => 186 | 45 => 185 | 50 => 190 | 5 => 5 | 9 => 9 | 66 => 216 | 70 => 219 | 76 => 237 | 77 => 238 | n => n, fun | n => n⟩
theorem Sh.sortSpans : Go.Proofs.SlLaysF0.n6 Try.prog Sh.sortSpans_ren := {
  mixed := by kernel_rfl
  f6 := ⟨Try.f207.name, by decide, Try.func207.trans (congrArg some (by kernel_rfl))⟩
  f14 := ⟨Try.f211.name, by decide, Try.func211.trans (congrArg some (by kernel_rfl))⟩
  f15 := Try.func106.trans (congrArg some (by kernel_rfl))
  f20 := ⟨Try.f213.name, by decide, Try.func213.trans (congrArg some (by kernel_rfl))⟩
  f21 := ⟨Try.f214.name, by decide, Try.func214.trans (congrArg some (by kernel_rfl))⟩
  f22 := ⟨Try.f215.name, by decide, Try.func215.trans (congrArg some (by kernel_rfl))⟩
  f23 := ⟨Try.f216.name, by decide, Try.func216.trans (congrArg some (by kernel_rfl))⟩
  f24 := ⟨Try.f217.name, by decide, Try.func217.trans (congrArg some (by kernel_rfl))⟩
  f25 := ⟨Try.f218.name, by decide, Try.func218.trans (congrArg some (by kernel_rfl))⟩
  f26 := ⟨Try.f219.name, by decide, Try.func219.trans (congrArg some (by kernel_rfl))⟩
  f27 := ⟨Try.f220.name, by decide, Try.func220.trans (congrArg some (by kernel_rfl))⟩
  f28 := Try.func139.trans (congrArg some (by kernel_rfl))
  f29 := Try.func140.trans (congrArg some (by kernel_rfl))
  f46 := ⟨Try.f221.name, by decide, Try.func221.trans (congrArg some (by kernel_rfl))⟩
  f47 := Try.func160.trans (congrArg some (by kernel_rfl))
  f48 := Try.func161.trans (congrArg some (by kernel_rfl))
  f49 := ⟨Try.f222.name, by decide, Try.func222.trans (congrArg some (by kernel_rfl))⟩
  f50 := ⟨Try.f223.name, by decide, Try.func223.trans (congrArg some (by kernel_rfl))⟩
  f57 := ⟨Try.f224.name, by decide, Try.func224.trans (congrArg some (by kernel_rfl))⟩
  t0 := Try.underlying0
  a0 := Try.isAgg0
  z0 := Try.sizeOf0
  v0 := Try.zeroValue0
  t3 := Try.underlying3
  a3 := Try.isAgg3
  z3 := Try.sizeOf3
  v3 := Try.zeroValue3
  t4 := Try.underlying4
  a4 := Try.isAgg4
  z4 := Try.sizeOf4
  v4 := Try.zeroValue4
  t5 := Try.underlying5
  a5 := Try.isAgg5
  z5 := Try.sizeOf5
  v5 := Try.zeroValue5
  t9 := Try.underlying9
  a9 := Try.isAgg9
  z9 := Try.sizeOf9
  v9 := Try.zeroValue9
  t22 := Try.underlying198
  a22 := Try.isAgg198
  z22 := Try.sizeOf198
  v22 := Try.zeroValue198
  t25 := Try.underlying253
  a25 := Try.isAgg253
  z25 := Try.sizeOf253
  v25 := Try.zeroValue253
  t39 := Try.underlying130
  a39 := Try.isAgg130
  z39 := Try.sizeOf130
  v39 := Try.zeroValue130
  t45 := Try.underlying185
  a45 := Try.isAgg185
  z45 := Try.sizeOf185
  v45 := Try.zeroValue185
  t46 := Try.underlying186
  a46 := Try.isAgg186
  z46 := Try.sizeOf186
  v46 := Try.zeroValue186
  t50 := Try.underlying190
  a50 := Try.isAgg190
  z50 := Try.sizeOf190
  v50 := Try.zeroValue190
  t53 := Try.underlying177
  a53 := Try.isAgg177
  z53 := Try.sizeOf177
  v53 := Try.zeroValue177
  t55 := Try.underlying60
  a55 := Try.isAgg60
  z55 := Try.sizeOf60
  v55 := Try.zeroValue60
  t66 := Try.underlying216
  a66 := Try.isAgg216
  z66 := Try.sizeOf216
  v66 := Try.zeroValue216
  t70 := Try.underlying219
  a70 := Try.isAgg219
  z70 := Try.sizeOf219
  v70 := Try.zeroValue219
  t76 := Try.underlying237
  a76 := Try.isAgg237
  z76 := Try.sizeOf237
  v76 := Try.zeroValue237
  t77 := Try.underlying238
  a77 := Try.isAgg238
  z77 := Try.sizeOf238
  v77 := Try.zeroValue238 }
end Go.Proofs.Ytcmoelphjdehaaa

/-
  A range over a function, at the wide fence: what the statement owes, and one round of it, also where the round's own variable is laid in memory.
-/
namespace Go.Proofs.Ytcmoelphjdehaaa
set_option linter.unusedSimpArgs false
set_option linter.unusedVariables false
open Go.RowKit
attribute [local go_sem] Oper.semAt_some

theorem wide_range {P : Program} {n : Nat} {g : Operand} {ps : Array Tmp} {assign body : Code} {Q : Exit → Act → World → Prop} {a : Act} {w : World} (D : Nat) (hD : w.heap.size = D) (gf : Nat) (lb : Array Value) (hg : a.eval g = .func (.func gf) #[] lb)
    (eg : ∀ args w, (callFunc gf args).run P w = .ok (.enter gf args) w)
    (h : ∀ (fn : FuncId) (rec : LoopState → Option Code → Loop), rec = (fun st pe => { state := st, pending := pe, fn, tmps := a.tmps, params := ps, assign, body, defers := D }) →
      CallsIn Fence.wide (n - 1) P gf (#[.func (.yield (D + 1)) #[] #[]] ++ lb) ((w.alloc (.deferred (some []))).alloc (.loop (rec .ready none)))
        (rangePost Fence.wide n P (D + 1) Q { a with defers := { target := .collected D, args := #[] } :: a.defers })) :
    (Code.rangeFunc g ps assign body).wpIn Fence.wide n P Q a w := by
  subst hD
  refine wpIn_rangeFunc ?_
  intro fn _
  rw [show Fence.wide.round = none from rfl]
  obtain ⟨rec, hrec⟩ : ∃ rec : LoopState → Option Code → Loop, rec = fun st pe => { state := st, pending := pe, fn, tmps := a.tmps, params := ps, assign, body, defers := w.heap.size } := ⟨_, rfl⟩
  have h' := h fn rec hrec
  obtain ⟨W1, hW1⟩ : ∃ W1, (w.alloc (.deferred (some []))).alloc (.loop (rec .ready none)) = W1 := ⟨_, rfl⟩
  rw [hW1] at h'
  clear h
  refine ⟨w.heap.size + 1, [{ target := .collected w.heap.size, args := #[] }], W1, { target := .fn (.func gf) lb, args := #[.func (.yield (w.heap.size + 1)) #[] #[]] }, W1, gf,
    #[.func (.yield (w.heap.size + 1)) #[] #[]] ++ lb, W1, ?_, ?_, ?_, ?_, ?_, ?_⟩
  · rw [← hW1, hrec]; exact run_enterLoop_outer _ _ _ _ _
  · simp only [resolve, hg]
    simp [go_sem]
  · intro f' _; trivial
  · simp [invoke, go_sem, eg]
  · intro e; cases e
  · exact h'
/-- One round of it; W1: what the world is behind the round's variable. -/
theorem wide_round {P : Program} {m l : Nat} {fn : FuncId} {tmps : Array Value} {ps : Array Tmp} {assign body : Code} {ds : Nat} {args : Array Value} {W : World} (W1 : World) (rec : LoopState → Option Code → Loop)
    (hrec : rec = fun st pe => { state := st, pending := pe, fn, tmps, params := ps, assign, body, defers := ds }) (hl : W.heap[l]? = some (.loop (rec .ready none))) (hl1 : W1.heap[l]? = some (.loop (rec .ready none))) (hps : args.size = ps.size) (a₁ : Act)
    (hassign : ∀ K : Act → World → Prop, K a₁ W1 → assign.wpIn (Fence.wide.inRound l) m P (Exit.then K (fun _ _ _ => False)) { tmps := (ps.zip args).foldl (fun t (p, v) => t.setIfInBounds p v) tmps, defers := [] } W)
    (R' : World → Prop) (hbody : body.wpIn (Fence.wide.inRound l) m P (fun ex _ W' => ex = .normal ∧ W'.heap[l]? = some (.loop (rec .busy none)) ∧ R' W') a₁ (W1.putObj l (.loop (rec .busy none))))
    (R : Ending → World → Prop) (hR : ∀ W', W'.heap[l]? = some (.loop (rec .busy none)) → R' W' → R (.returned (.bool true)) (W'.putObj l (.loop (rec .ready none)))) :
    YieldAt Fence.wide m P l args W R := by
  have hy := run_yield (P := P) (args := args) hl (by rw [hrec]; exact hps)
  rw [hrec] at hy
  refine ⟨fn, _, assign, body, hy, roundIn_of_wpIn trivial (hassign _ ⟨_, run_beginRound hl1 (by rw [hrec]), ?_⟩)⟩
  have e1 : ({ rec .ready none with state := .busy } : Loop) = rec .busy none := by rw [hrec]
  rw [e1]
  refine wpIn_mono hbody ?_
  rintro e a3 W3 ⟨rfl, hb, hr⟩
  have := run_endRound (P := P) none hb
  have e2 : ({ rec .busy none with state := if (none : Option Code).isNone then .ready else .done, pending := none } : Loop) = rec .ready none := by rw [hrec]; rfl
  rw [e2] at this
  exact ⟨_, _, this, hR _ hb hr⟩
end Go.Proofs.Ytcmoelphjdehaaa

/-
  What the library's Values, AppendSeq and Collect do at a row of spans.
-/
namespace Go.Proofs.Ytcmoelphjdehaaa
set_option linter.unusedSimpArgs false
set_option linter.unusedVariables false
open Go.RowKit Ru

set_option maxRecDepth 100000 in
set_option maxHeartbeats 4000000 in
/-- The iterator: it hands on each span, one behind the other. -/
theorem values_in (n l Bs : Nat) (hn : 1 ≤ n) (A : Option Addr) (c : Nat) (ss : List SpanD) (J : Nat → World → Prop)
    (hrow : ∀ k W, J k W → SpanRow W A ss.length c ss) (halloc : ∀ k W o, J k W → J k (W.alloc (.cells o 247)))
    (hY : ∀ k (h : k < ss.length) W, J k W → YieldAt Fence.wide (n - 1) Try.prog l #[spanVal ss[k]] W fun e W' => e = .returned (.bool true) ∧ J (k + 1) W')
    (W : World) (hs : Whole W Bs 198 #[.slice A ss.length c]) (h0 : J 0 W) :
    CallsIn Fence.wide n Try.prog 208 #[.func (.yield l) #[] #[], .pointer (some ⟨Bs, 0, none⟩)] W fun e W' => (∃ v, e = .returned v) ∧ J ss.length W' := by
  have HY := hid_ hY
  have Hrow := hid_ hrow
  have Halloc := hid_ halloc
  have hcap := (hrow 0 W h0).cap
  have hmax := (hrow 0 W h0).max
  have H0 := hid_ h0
  have cs := hs.cell 0 _ rfl
  clear hY hrow halloc h0 hs
  refine callsIn_of_wp Try.func208 rfl trivial ?_ rfl
  simp only [Try.ntmps208, List.size_toArray, List.length_cons, List.length_nil, Nat.reduceAdd, Nat.reduceSub, Array.replicate_succ, Array.replicate_zero, List.push_toArray, List.append_toArray, List.nil_append, List.cons_append]
  gi_wp2
  clear cs
  gi_loopw [7] (fun vi wr => ∃ k : Nat, k ≤ ss.length ∧ vi = .int .i64 (k : Nat) ∧ Hid (J k wr)) (fun vi _ => ss.length - (intOf vi).toNat)
  case atStart => exact ⟨0, Nat.zero_le _, rfl, H0⟩
  case round =>
    obtain ⟨k, hk, rfl, HJ⟩ := hrel
    by_cases hlt : k < ss.length
    · obtain ⟨b, off, rfl, hc⟩ := (Hrow.out k wr HJ.out).at_ hlt
      obtain ⟨c0, c1, c2, c3, c4, c5, c6, c7⟩ := hc
      have x1 : (k : Int) < (ss.length : Int) := by omega
      have x2 : (0 : Int) ≤ (k : Int) := by omega
      obtain ⟨fn, tmps, assign, body, hy, hR⟩ := HY.out k hlt (wr.alloc (.cells (spanCells ss[k]) 247)) (Halloc.out k wr _ HJ.out)
      unfold spanCells at hy hR
      generalize ss[k] = s at *
      gi_wp2
      refine hR.mono ?_
      rintro e W3 ⟨rfl, hJ3⟩
      have HJ3 := hid_ hJ3
      clear hJ3 c0 c1 c2 c3 c4 c5 c6 c7
      gi_wp2
      go_roundw
      case rel => exact ⟨k + 1, by omega, by go_num, HJ3⟩
      case measure => simp [intOf] <;> omega
    · obtain rfl : k = ss.length := by omega
      gi_wp2
      go_end0
      exact ⟨⟨_, rfl⟩, HJ.out⟩
end Go.Proofs.Ytcmoelphjdehaaa

/-
  What the library's AppendSeq, Collect make of the iterator over a row of spans: a row of the call's own that reads alike.
-/
namespace Go.Proofs.Ytcmoelphjdehaaa
set_option linter.unusedSimpArgs false
set_option linter.unusedVariables false
open Go.RowKit Ru
attribute [local go_sem] Oper.semAt_some

theorem OwnSp.block {B : Nat} {w w' : World} {A : Option Addr} {n c : Nat} {rs : List SpanD} (h : OwnSp B w A n c rs) (hk : ∀ (g : Nat) (o : Obj), w.heap[g]? = some o → o.isCells = true → w'.heap[g]? = w.heap[g]?) : OwnSp B w' A n c rs := by
  obtain ⟨hx, h | ⟨g, cap, cur, e', hg, hh, r⟩⟩ := h
  · exact ⟨hx, .inl h⟩
  · exact ⟨hx, .inr ⟨g, cap, cur, e', hg, (hk g _ hh rfl).trans hh, r⟩⟩
theorem OwnSp.other {B : Nat} {w : World} {A : Option Addr} {n c : Nat} {rs : List SpanD} (h : OwnSp B w A n c rs) {g : Nat} {t : TypeId} {cs : Array Value} (hg : Whole w g t cs) (hne : 247 ≠ t) : (Value.slice A n c).ownBlock ≠ some g := by
  rcases h.2 with ⟨e', _⟩ | ⟨g', cap, cur, e', _, hh, _⟩
  · rw [e']; simp [Value.ownBlock]
  · rw [e']
    intro he
    have : g' = g := by simpa [Value.ownBlock] using he
    subst this
    unfold Whole at hg
    rw [hh] at hg
    injection hg with hg
    injection hg with _ ht
    exact hne ht
theorem OwnSp.object {B : Nat} {w : World} {A : Option Addr} {n c : Nat} {rs : List SpanD} (h : OwnSp B w A n c rs) {g : Nat} {o : Obj} (hg : w.heap[g]? = some o) (ho : o.isCells = false) : (Value.slice A n c).ownBlock ≠ some g := by
  rcases h.2 with ⟨e', _⟩ | ⟨g', cap, cur, e', _, hh, _⟩
  · rw [e']; simp [Value.ownBlock]
  · rw [e']
    intro he
    have : g' = g := by simpa [Value.ownBlock] using he
    subst this
    rw [hh] at hg
    cases hg
    cases ho
theorem Whole.grown {w w' : World} {g : Nat} {t : TypeId} {cs : Array Value} {row : Option Nat} (h : Whole w g t cs) (hb : w.grownBy w' row) (hg : row ≠ some g) : Whole w' g t cs := (hb.block g h.lt (Ne.symm hg)).trans h
theorem ownSp_set {B : Nat} {w : World} {A : Option Addr} {n c : Nat} {rs : List SpanD} (h : OwnSp B w A n c rs) {g : Nat} {t : TypeId} {cs : Array Value} (hg : Whole w g t cs) (hne : 247 ≠ t) (v : Value) : OwnSp B (w.setCell ⟨g, 0, Option.none⟩ v) A n c rs := by
  refine World.ownsRow.kept h (row := some g) ?_ (.inr (h.other hg hne))
  exact ⟨rfl, rfl, rfl, by show _ ≤ (w.heap.modify _ _).size; rw [Array.size_modify]; exact Nat.le_refl _, fun i _ hi => Below.heap_setCell w ⟨g, 0, Option.none⟩ v i (by rintro rfl; exact hi rfl)⟩
theorem span_cells (W : World) (g : Nat) (hg : W.heap.size = g) (s : SpanD) (T : TypeId) : ∀ j u, (cellsOf s)[j]? = some u → (W.alloc (.cells (spanCells s) T)).cell? ((⟨g, 0, none⟩ : Addr).add j) = some u := by
  subst hg
  intro j u hu
  rw [add_plain, World.cell?_alloc_mark, ← hu]
  simp [cellsOf, spanCells]
theorem cellsOf_one (s : SpanD) : ∀ u ∈ cellsOf s, u.oneCell' = true := by
  intro u hu
  simp [cellsOf] at hu
  rcases hu with rfl | rfl | rfl | rfl | rfl | rfl | rfl | rfl
  all_goals rfl
/-- What stands between two rounds: the list so far in its box, the block for deferred calls. -/
structure JA (w : World) (ss : List SpanD) (k : Nat) (W : World) : Prop where
  bel : Below w.heap.size w W
  row : ∃ A c, Whole W w.heap.size 198 #[.slice A k c] ∧ OwnSp w.heap.size W A k c (ss.take k)
  def_ : W.heap[w.heap.size + 1]? = some (.deferred (some []))
theorem JA.move {w W W' : World} {ss : List SpanD} {k : Nat} (h : JA w ss k W) (hb : Below w.heap.size w W') (hk : ∀ g o, W.heap[g]? = some o → (o.isCells = true ∨ g = w.heap.size + 1) → W'.heap[g]? = W.heap[g]?) : JA w ss k W' := by
  obtain ⟨_, ⟨A, c, h2, h3⟩, h7⟩ := h
  exact ⟨hb, ⟨A, c, (hk _ _ h2 (.inl rfl)).trans h2, h3.block fun g o hg ho => hk g o hg (.inl ho)⟩, (hk _ _ h7 (.inr rfl)).trans h7⟩
theorem JA.rec_ {w W : World} {ss : List SpanD} {k : Nat} {lo : Loop} (h : JA w ss k W) (hl : W.heap[w.heap.size + 1 + 1]? = some (.loop lo)) (lo' : Loop) : JA w ss k (W.putObj (w.heap.size + 1 + 1) (.loop lo')) := by
  refine h.move (h.bel.trans (belowK_b (w := w) (Nat.le_refl _) W _ _ _ (by omega) hl rfl rfl)) fun g o hg ho => World.putObj_heap_other ?_
  rintro rfl
  rw [hl] at hg
  cases hg
  rcases ho with ho | ho
  · cases ho
  · omega
theorem JA.alloc {w W : World} {ss : List SpanD} {k : Nat} (h : JA w ss k W) (o : Obj) : JA w ss k (W.alloc o) :=
  h.move (h.bel.alloc h.bel.size _) fun _ _ hg _ => Below.heap_alloc _ _ _ (Array.getElem?_eq_some_iff.1 hg).1
theorem ja_start (w : World) (ss : List SpanD) (lo : Loop) :
    JA w ss 0 (((w.alloc (.cells #[.slice none 0 0] 198)).alloc (.deferred (some []))).alloc (.loop lo)) ∧
    (((w.alloc (.cells #[.slice none 0 0] 198)).alloc (.deferred (some []))).alloc (.loop lo)).heap[w.heap.size + 1 + 1]? = some (.loop lo) := by
  refine ⟨⟨?_, ⟨none, 0, ?_, OwnSp.none _ _⟩, ?_⟩, ?_⟩
  · repeat (first | exact Below.refl _ _ | refine Below.alloc ?_ (by simp; omega) _ | refine Below.alloc ?_ (by simp) _)
  · exact ((whole_new w _ _).alloc _).alloc _
  · have h := World.alloc_heap_new (w.alloc (.cells #[.slice none 0 0] 198)) (.deferred (some []))
    simp only [World.size_alloc] at h
    exact (Below.heap_alloc _ _ _ (by simp)).trans h
  · have h := World.alloc_heap_new ((w.alloc (.cells #[.slice none 0 0] 198)).alloc (.deferred (some []))) (.loop lo)
    simp only [World.size_alloc] at h
    exact h
def OwnSpPost (w : World) (ss : List SpanD) (e : Ending) (w' : World) : Prop := ∃ A c, e = .returned (.slice A ss.length c) ∧ OwnSp w.heap.size w' A ss.length c ss ∧ Below w.heap.size w w'
theorem ownSpPost_mk {w w' : World} {ss : List SpanD} {A : Option Addr} {n c : Nat} (hn : ss.length = n) (h : OwnSp w.heap.size w' A n c ss) (hb : Below w.heap.size w w') : OwnSpPost w ss (.returned (.slice A n c)) w' := by
  subst hn
  exact ⟨A, c, rfl, h, hb⟩

set_option maxRecDepth 100000 in
set_option maxHeartbeats 8000000 in
theorem appendseq_any (Bs : Nat) (A0 : Option Addr) (c0 : Nat) (ss : List SpanD) (w : World) (hs : SpanRow w A0 ss.length c0 ss) (hb : Whole w Bs 198 #[.slice A0 ss.length c0]) (hm : ss.length ≤ 1000000) :
    Calls Try.prog 210 #[.slice none 0 0, .func (.func 208) #[] #[.pointer (some ⟨Bs, 0, none⟩)]] w (OwnSpPost w ss) := by
  have Hs := hid_ hs
  have Hb := hid_ hb
  clear hs hb
  refine (callsIn_wide (n := 3)).1 ?_
  refine callsIn_of_wp_marks Try.func210 rfl trivial ?_ rfl
  simp only [Try.ntmps210, List.size_toArray, List.length_cons, List.length_nil, Nat.reduceAdd, Nat.reduceSub, Array.replicate_succ, Array.replicate_zero, List.push_toArray, List.append_toArray, List.nil_append, List.cons_append]
  gi_wp2
  refine wide_range (w.heap.size + 1) (by simp) 208 _ rfl (enters_of Try.func208 (by kernel_rfl) rfl) ?_
  intro fn rec hrec
  have Hrec := hid_ hrec
  have hpend : (rec .ready none).pending = none := by rw [hrec]
  have hstate : (rec .ready none).state ≠ .busy := by rw [hrec]; intro e; cases e
  have Hpend := hid_ hpend
  have Hstate := hid_ hstate
  clear hrec hpend hstate
  obtain ⟨hJ0, hl0⟩ := ja_start w ss (rec .ready none)
  refine (values_in (3 - 1) (w.heap.size + 1 + 1) Bs (by decide) A0 c0 ss
    (fun k W => k ≤ ss.length ∧ JA w ss k W ∧ W.heap[w.heap.size + 1 + 1]? = some (.loop (rec .ready none))) ?hrow ?halloc ?hY _ (((Hb.out.alloc _).alloc _).alloc _) ⟨Nat.zero_le _, hJ0, hl0⟩).mono ?_
  case hrow =>
    rintro k W ⟨h0, h1, h2⟩
    exact Hs.out.below h1.bel
  case halloc =>
    rintro k W o ⟨h0, h1, h2⟩
    exact ⟨h0, h1.alloc _, (Below.heap_alloc _ _ _ (Array.getElem?_eq_some_iff.1 h2).1).trans h2⟩
  case hY =>
    rintro k hk W ⟨h0, hJ, hl⟩
    have htk := List.take_succ_eq_append_getElem hk
    generalize ss[k] = s at *
    have hl1 : (W.alloc (.cells (spanCells s) 247)).heap[w.heap.size + 1 + 1]? = some (.loop (rec .ready none)) := (Below.heap_alloc _ _ _ (Array.getElem?_eq_some_iff.1 hl).1).trans hl
    have hJ1 := hJ.alloc (.cells (spanCells s) 247)
    have hJb := hJ1.rec_ hl1 (rec .busy none)
    have hlb := World.putObj_heap_same (o := .loop (rec .busy none)) (Array.getElem?_eq_some_iff.1 hl1).1
    have hG : w.heap.size + 1 + 1 < W.heap.size := (Array.getElem?_eq_some_iff.1 hl).1
    have hvar : Whole ((W.alloc (.cells (spanCells s) 247)).putObj (w.heap.size + 1 + 1) (.loop (rec .busy none))) W.heap.size 247 (spanCells s) := (World.putObj_heap_other (by omega)).trans (whole_new W _ _)
    refine wide_round (W.alloc (.cells (spanCells s) 247)) rec Hrec.out hl hl1 rfl { tmps := #[.slice none 0 0, .func (.func 208) #[] #[.pointer (some ⟨Bs, 0, none⟩)], .pointer (some ⟨w.heap.size, 0, none⟩), undef, .slice none 0 0, .pointer (some ⟨W.heap.size, 0, none⟩), .func (.func 208) #[] #[.pointer (some ⟨Bs, 0, none⟩)], spanVal s, undef, undef, undef, undef, undef], defers := [] } ?_
      (fun W' => JA w ss (k + 1) W') ?_ _ ?_
    · intro K hK
      unfold spanCells at hK
      gi_wp2
      exact hK
    · generalize (W.alloc (.cells (spanCells s) 247)).putObj (w.heap.size + 1 + 1) (.loop (rec .busy none)) = Wb at hJb hlb hvar ⊢
      generalize W.heap.size = G at *
      clear hJ1 hl1 hJ hl
      obtain ⟨A, c, hlrow, hown⟩ := hJb.row
      obtain ⟨i0, hi, hz0, hz1, hz2⟩ := info_parts info_span
      have hbs := hJb.bel.size
      have hlt := hlrow.lt
      have cl := hlrow.cell 0 _ rfl
      have fl := hlrow.free 0
      have v0 := hvar.cell 0 (.int .u64 (s.trace : Nat)) rfl
      have v1 := hvar.cell 1 (.int .u64 (s.id : Nat)) rfl
      have v2 := hvar.cell 2 (.int .u64 (s.parent : Nat)) rfl
      have v3 := hvar.cell 3 (.int .u64 (s.start : Nat)) rfl
      have v4 := hvar.cell 4 (.int .u64 (s.len : Nat)) rfl
      have v5 := hvar.cell 5 (.string s.service) rfl
      have v6 := hvar.cell 6 (.string s.name) rfl
      have v7 := hvar.cell 7 (.bool s.fail) rfl
      gi_wp2_with (gi_at_builtin; refine wpListIn_append_own _ rfl (.tmp 8) (.tmp 10) 198 rfl w.heap.size 247 i0 _ 8 80 Try.underlying198 hi hz0 hz1 hz2 rfl (by decide) _ _ _ rfl (World.ownsRow.alloc hown _) ⟨Wb.heap.size, 0, none⟩ 1 1 (cellsOf s) rfl rfl (span_cells Wb Wb.heap.size rfl s 247) (cellsOf_one s) (by unfold maxLen; omega) (by omega) (by simp; omega) ?_; intro v' w2 hown' hgrow _; obtain ⟨g', cap', rfl⟩ := ownsRow_succ hown'; have hl2 := (hlrow.alloc (.cells (spanCells s) 247)).grown hgrow (hown.other hlrow (by decide)); have cl2 := hl2.cell 0 _ rfl; have fl2 := hl2.free 0)
      have hbel2 : Below w.heap.size w w2 := by
        refine Below.trans ?_ ((Below.refl w.heap.size (Wb.alloc (.cells (spanCells s) 247))).grown hgrow (by simp; omega) (fun k hk => (hown.from_ k hk).1))
        exact hJb.bel.alloc hbs _
      have keep : ∀ (g : Nat) (o : Obj), Wb.heap[g]? = some o → (Value.slice A k c).ownBlock ≠ some g → g ≠ w.heap.size → (w2.setCell ⟨w.heap.size, 0, none⟩ (.slice (some ⟨g', 0, none⟩) (k + 1) cap')).heap[g]? = some o := by
        intro g o hg hne hne2
        have hlt := (Array.getElem?_eq_some_iff.1 hg).1
        have k2 : (Wb.alloc (.cells (spanCells s) 247)).heap[g]? = some o := (Below.heap_alloc _ _ _ hlt).trans hg
        have k3 : w2.heap[g]? = some o := (hgrow.block g (by simp; omega) (Ne.symm hne)).trans k2
        exact (Below.heap_setCell w2 ⟨w.heap.size, 0, none⟩ _ g hne2).trans k3
      have hown2 : OwnSp w.heap.size w2 (some ⟨g', 0, none⟩) (k + 1) cap' (ss.take (k + 1)) := by
        have h := hown'
        rw [show cellsAll (ss.take k) ++ cellsOf s = cellsAll (ss.take (k + 1)) by rw [htk, cellsAll_append]; simp [cellsAll]] at h
        exact h
      exact ⟨keep _ _ hlb (hown.object hlb rfl) (by omega), hbel2.setCell (p := ⟨w.heap.size, 0, none⟩) (Nat.le_refl _) _, ⟨some ⟨g', 0, none⟩, cap', hl2.store 0 _, ownSp_set (t := 198) hown2 hl2 (by decide) _⟩,
        keep _ _ hJb.def_ (hown.object hJb.def_ rfl) (by omega)⟩
    · rintro W' hb h1
      refine ⟨rfl, by omega, ?_, World.putObj_heap_same (Array.getElem?_eq_some_iff.1 hb).1⟩
      exact h1.rec_ hb (rec .ready none)
  rintro e W ⟨⟨v, rfl⟩, _, hJ, hl⟩
  have he := run_endLoop (P := Try.prog) hl Hstate.out
  have hJ2 := hJ.rec_ hl { rec .ready none with state := .exhausted }
  obtain ⟨W2, hW2⟩ : ∃ W2, W.putObj (w.heap.size + 1 + 1) (.loop { rec .ready none with state := .exhausted }) = W2 := ⟨_, rfl⟩
  rw [hW2] at he hJ2
  refine ⟨(rec .ready none).pending, W2, he, ?_⟩
  rw [Hpend.out]
  clear hJ hl he hJ0 hl0 hW2
  obtain ⟨A, c, hlrow, hown⟩ := hJ2.row
  rw [List.take_length] at hown
  have cl := hlrow.cell 0 _ rfl
  gi_wp2
  have hK := hJ2.def_
  refine ⟨by simp, .inl ⟨_, _, rfl, run_takeDeferred hK, ?_⟩⟩
  have hown4 := ownsRow_putObj hown (.deferred none) hK rfl
  have hbel4 := hJ2.bel.trans (belowK_b (w := w) (Nat.le_refl _) W2 _ _ (.deferred none) (by omega) hK rfl rfl)
  exact ⟨.slice A ss.length c, by simp [results, Try.results210, go_sem], A, c, rfl, hown4, hbel4⟩
set_option maxHeartbeats 1000000 in
theorem collect_any (Bs : Nat) (A0 : Option Addr) (c0 : Nat) (ss : List SpanD) (w : World) (hs : SpanRow w A0 ss.length c0 ss) (hb : Whole w Bs 198 #[.slice A0 ss.length c0]) (hm : ss.length ≤ 1000000) :
    Calls Try.prog 206 #[.func (.func 208) #[] #[.pointer (some ⟨Bs, 0, none⟩)]] w (OwnSpPost w ss) := by
  have H := hid_ (appendseq_any Bs A0 c0 ss w hs hb hm)
  clear hs hb
  go_enter Try.func206, Try.ntmps206
  go_wp2_with fail
  refine Calls.mono H.out ?_
  rintro e w1 ⟨A, c, rfl, ho, hb⟩
  go_wp2_with fail
  go_ret
  exact ⟨A, c, rfl, ho, hb⟩
end Go.Proofs.Ytcmoelphjdehaaa

/-
  What the library's SortFunc does with a row of spans, by their Ids; SortedFunc over the iterator.
-/
namespace Go.Proofs.Ytcmoelphjdehaaa
set_option linter.unusedSimpArgs false
set_option linter.unusedVariables false
open Go.RowKit Ru

def cmpN (a b : Nat) : Int := if a < b then -1 else if b < a then 1 else 0
def CmpPost (w : World) (k : Int) (e : Ending) (w' : World) : Prop := e = .returned (.int .i64 k) ∧ w = w'
theorem cmpPost_mk {w : World} {k k' : Int} (h : k = k') : CmpPost w k (.returned (.int .i64 k')) w := ⟨by rw [h], rfl⟩
set_option maxHeartbeats 1000000 in
theorem isnan_any (a : Nat) (w : World) : Calls Try.prog 107 #[.int .u64 (a : Nat)] w fun e w' => e = .returned (.bool false) ∧ w = w' := by
  go_enter Try.func107, Try.ntmps107
  go_wp2_with fail
  go_ret
  exact ⟨by simp, rfl⟩
set_option maxHeartbeats 2000000 in
theorem compare_any (a b : Nat) (w : World) : Calls Try.prog 78 #[.int .u64 (a : Nat), .int .u64 (b : Nat)] w (CmpPost w (cmpN a b)) := by
  have Hn := hid_ (fun (x : Nat) W => isnan_any x W)
  rcases Nat.lt_trichotomy a b with h | h | h
  · have Hk := hid_ (show cmpN a b = -1 by unfold cmpN; rw [if_pos h])
    have e1 : decide (a < b) = true := decide_eq_true h
    clear h
    go_enter Try.func78, Try.ntmps78
    go_wp2_with (go_at_call 107; (with_reducible refine Calls.mono (Hn.out _ _) ?_); rintro e w' ⟨rfl, rfl⟩)
    go_ret
    exact cmpPost_mk Hk.out
  · subst h
    have Hk := hid_ (show cmpN a a = 0 by unfold cmpN; rw [if_neg (by omega), if_neg (by omega)])
    have e1 : decide (a < a) = false := decide_eq_false (by omega)
    go_enter Try.func78, Try.ntmps78
    go_wp2_with (go_at_call 107; (with_reducible refine Calls.mono (Hn.out _ _) ?_); rintro e w' ⟨rfl, rfl⟩)
    go_ret
    exact cmpPost_mk Hk.out
  · have Hk := hid_ (show cmpN a b = 1 by unfold cmpN; rw [if_neg (by omega), if_pos h])
    have e1 : decide (a < b) = false := decide_eq_false (by omega)
    have e2 : decide (b < a) = true := decide_eq_true h
    clear h
    go_enter Try.func78, Try.ntmps78
    go_wp2_with (go_at_call 107; (with_reducible refine Calls.mono (Hn.out _ _) ?_); rintro e w' ⟨rfl, rfl⟩)
    go_ret
    exact cmpPost_mk Hk.out

instance : Inhabited SpanD := ⟨SpanD.zero⟩
def cfId (a b : SpanD) : Int := cmpN a.id b.id
theorem ltId (a b : SpanD) : ltOf cfId a b = decide (a.id < b.id) := by
  unfold ltOf cfId cmpN
  by_cases h1 : a.id < b.id
  · simp [h1]
  · by_cases h2 : b.id < a.id <;> simp [h1, h2]
theorem swoId : Go.Sort.SWO (ltOf cfId) where
  irrefl x := by rw [ltId]; simp
  trans x y z h1 h2 := by rw [ltId] at *; simp at *; omega
  ntrans x y z h1 h2 := by rw [ltId] at *; simp at *; omega
set_option maxHeartbeats 1000000 in
theorem byid_any (a b : SpanD) (W : World) : Calls Try.prog 198 #[spanVal a, spanVal b] W fun e w' => e = .returned (.int .i64 (cfId a b)) ∧ ∃ q os', w' = Go.Sort.grow (W.drewN q) os' := by
  have Hc := hid_ (fun W' => compare_any a.id b.id W')
  unfold CmpPost at Hc
  have Hk := hid_ (show cfId a b = cmpN a.id b.id from rfl)
  generalize cmpN a.id b.id = k at *
  generalize cfId a b = k2 at *
  obtain rfl := Hk.out
  clear Hk
  go_enter Try.func198, Try.ntmps198
  go_wp2_with fail
  refine Calls.mono (Hc.out _) ?_
  rintro e w' ⟨rfl, rfl⟩
  go_wp2_with fail
  go_ret
  exact ⟨rfl, 0, _, by rw [Go.Sort.alloc_eq_grow, Go.Sort.alloc_eq_grow, Go.Sort.grow_grow]; rfl⟩
/-- In ascending order of their Ids. -/
def ById (ss : List SpanD) : Prop := ∀ i j (_ : i < j) (hj : j < ss.length), ss[i].id ≤ ss[j].id
def SortPost (B : Nat) (w : World) (A : Option Addr) (n c : Nat) (ss : List SpanD) (e : Ending) (w' : World) : Prop := e = .returned (.tuple #[]) ∧ ∃ ss', ss'.Perm ss ∧ ById ss' ∧ SpanRow w' A n c ss' ∧ Below B w w'
theorem holdsK_of {w : World} {g : Nat} {n c : Nat} {ss : List SpanD} (h : SpanRow w (some ⟨g, 0, none⟩) n c ss) (hf : ∀ o, w.frozen? ⟨g, o, none⟩ = false) : Go.Sort.HoldsK cellsOf 8 w g 0 ss.toArray := by
  intro j hj
  rw [Go.Sort.size_flatK] at hj
  have hj' : j < ss.length * 8 := by simpa using hj
  refine ⟨?_, hf _⟩
  rw [Go.Sort.get_flatK _ _ _ _ hj]
  have hk : j / 8 < ss.length := by omega
  obtain ⟨b, off, e, hc⟩ := h.at_ hk
  injection e with e
  injection e with e1 e2
  subst e1 e2
  have hg : (cellsOf ss[j / 8])[j % 8]? = some ((cellsOf (ss.toArray[j / 8]!))[j % 8]!) := by
    have e1 : ss.toArray[j / 8]! = ss[j / 8] := by simp [getElem!_pos, hk]
    rw [e1]
    have hl : j % 8 < (cellsOf ss[j / 8]).length := by rw [cellsOf_length]; omega
    rw [List.getElem?_eq_getElem hl, getElem!_pos (cellsOf ss[j / 8]) (j % 8) hl]
  have := hc.cell (j % 8) _ hg
  rwa [show 0 + j / 8 * 8 + j % 8 = 0 + j by omega] at this
theorem rowOf_holdsK {w : World} {g : Nat} {n c : Nat} {ss : List SpanD} (h : Go.Sort.HoldsK cellsOf 8 w g 0 ss.toArray) (h1 : ss.length = n) (h2 : n ≤ c) (h3 : c ≤ 9223372036854775807) : SpanRow w (some ⟨g, 0, none⟩) n c ss := by
  refine ⟨fun _ => ⟨g, 0, rfl, fun k hk => spanAt_of fun j u hu => ?_⟩, h1, h2, h3, fun e => by cases e⟩
  have hj : j < 8 := (List.getElem?_eq_some_iff.1 hu).1
  have := (h.cell (i := k) (c := j) (by simpa using hk) hj).1
  rw [this]
  have e1 : ss.toArray[k]! = ss[k] := by simp [getElem!_pos, hk]
  rw [e1, getElem!_pos (cellsOf ss[k]) j hj]
  exact (List.getElem?_eq_getElem (by exact hj)).symm.trans hu
theorem below_sort {B : Nat} {w : World} {g m : Nat} {d : Array SpanD} {os : Array Obj} (hg : B ≤ g) (hB : B ≤ w.heap.size) : Below B w (sortWorldK cellsOf 8 w g 0 m d os) := by
  unfold sortWorldK Go.Sort.putRowK
  have h1 : Below B w (Go.Sort.putRow id (Go.Sort.ahead w m) g 0 (Go.Sort.flatK cellsOf 8 d)) := Lib.below_putRow (Below.refl B w) hg
  have h2 := (below_grown (Go.Sort.putRow id (Go.Sort.ahead w m) g 0 (Go.Sort.flatK cellsOf 8 d)) 0 os)
  rw [Go.Sort.ahead_zero] at h2
  exact h1.trans (h2.mono (Nat.le_trans hB h1.size))
set_option maxHeartbeats 2000000 in
theorem sortspans_any (B : Nat) (A : Option Addr) (n c : Nat) (ss : List SpanD) (w : World) (ho : OwnSp B w A n c ss) (hB : B ≤ w.heap.size) (hm : n ≤ 1000000) :
    Calls Try.prog 207 #[.slice A n c, .func (.func 198) #[] #[]] w (SortPost B w A n c ss) := by
  have hrow := ho.row
  have hl := ho.len
  rcases Nat.eq_zero_or_pos n with h0 | hpos
  · subst h0
    have hcon := AnyF.slices_SortFunc_none Sh.sortSpans A c (.func (.func 198) #[] #[]) w
    refine Calls.mono hcon ?_
    rintro e w' ⟨rfl, rfl⟩
    exact ⟨rfl, ss, List.Perm.refl _, fun i j _ hj => absurd hj (by omega), hrow, Below.refl _ _⟩
  · obtain ⟨g, rfl, hg, hlt⟩ : ∃ g, A = some ⟨g, 0, none⟩ ∧ B ≤ g ∧ g < w.heap.size := by
      obtain ⟨hx, ⟨e', _⟩ | ⟨g, cap, cur, e', hg, hh, _⟩⟩ := ho
      · injection e' with a b c
        omega
      · injection e' with a b c
        exact ⟨g, a, hg, (Array.getElem?_eq_some_iff.1 hh).1⟩
    have hH := holdsK_of hrow (fun o => World.ownsRow.frozenAt ho o)
    have hcon := AnyQ.slices_SortFunc Sh.sortSpans 8 Try.isAgg247 Try.sizeOf247 cellsOf (fun _ => rfl) (fun x v hv => cellsOf_one x v hv) cfId swoId 198 #[] g 0 c ss.toArray w
      (enters_of Try.func198 (by kernel_rfl) rfl) (fun _ _ _ _ x y => byid_any x y _) hH hlt (by simp; omega)
    have hsz : ss.toArray.size = n := by simpa using hl
    rw [hsz] at hcon
    refine Calls.mono hcon ?_
    rintro e w' ⟨rfl, d', m, os, hp, hs, rfl⟩
    have hd : d'.size = n := by rw [hp.1, hsz]
    refine ⟨rfl, d'.toList, ?_, ?_, ?_, below_sort hg hB⟩
    · have h3 := hp.2.2
      rw [show d'.extract 0 n = d' by rw [← hd]; simp, show ss.toArray.extract 0 n = ss.toArray by rw [← hsz]; simp] at h3
      simpa using h3
    · intro i j hij hj
      have hj' : j < d'.size := by simpa using hj
      have h4 := hs i j (Nat.zero_le _) hij (by omega)
      rw [ltId] at h4
      have e1 : d'[j]! = d'[j] := getElem!_pos d' j hj'
      have e2 : d'[i]! = d'[i]'(by omega) := getElem!_pos d' i (by omega)
      rw [e1, e2] at h4
      have := of_decide_eq_false h4
      simp only [Array.getElem_toList]
      omega
    · have h5 := holdsK_sortWorldK_c cellsOf 8 w g 0 ss.toArray d' m os hH hlt (by rw [hd, hsz])
      have h6 : Go.Sort.HoldsK cellsOf 8 (sortWorldK cellsOf 8 w g 0 m d' os) g 0 d'.toList.toArray := by simpa using h5
      exact rowOf_holdsK h6 (by simpa using hd) hrow.cap hrow.max
end Go.Proofs.Ytcmoelphjdehaaa

/-
  What rises answers, at numbers, spans and members.
-/
namespace Go.Proofs.Ytcmoelphjdehaaa
set_option linter.unusedSimpArgs false
set_option linter.unusedVariables false
open Go.RowKit Ru

set_option maxHeartbeats 1000000 in
theorem numof_id (n : Nat) (w : World) : Calls Try.prog 188 #[.int .u64 (n : Nat)] w fun e w' => e = .returned (.int .u64 (n : Nat)) ∧ Below w.heap.size w w' := by
  go_enter Try.func188, Try.ntmps188
  go_wp2_with fail
  go_ret
  exact ⟨rfl, Below.refl _ _⟩
set_option maxHeartbeats 1000000 in
theorem numof_span (s : SpanD) (w : World) : Calls Try.prog 200 #[spanVal s] w fun e w' => e = .returned (.int .u64 (s.id : Nat)) ∧ Below w.heap.size w w' := by
  go_enter Try.func200, Try.ntmps200
  go_wp2_with fail
  go_ret
  exact ⟨rfl, (Below.refl _ _).alloc (Nat.le_refl _) _⟩
set_option maxHeartbeats 1000000 in
theorem numof_mem (s : MemberD) (w : World) : Calls Try.prog 202 #[memVal s] w fun e w' => e = .returned (.int .u64 (s.id : Nat)) ∧ Below w.heap.size w w' := by
  go_enter Try.func202, Try.ntmps202
  go_wp2_with fail
  go_ret
  exact ⟨rfl, (Below.refl _ _).alloc (Nat.le_refl _) _⟩

set_option maxRecDepth 20000 in
set_option maxHeartbeats 2000000 in
theorem rises_ids (A : Option Addr) (n c : Nat) (l : List Nat) (w : World) (hs : Row w A n c (idVals l)) :
    Calls Try.prog 187 #[.slice A n c, .func (.func 188) #[] #[]] w (BoolIs w (risesF l)) := by
  obtain rfl : n = l.length := by rw [← hs.len]; simp [idVals]
  have eg : ∀ args w, (callFunc 188 args).run Try.prog w = .ok (.enter 188 args) w := enters_of Try.func188 (by kernel_rfl) rfl
  have Hs := hid_ hs
  have hle := hs.cap
  have hmx := hs.max
  clear hs
  go_enter Try.func187, Try.ntmps187
  go_wp2_with fail
  go_loopw [5, 11] (fun vl vi wr => ∃ (k a : Nat), k ≤ l.length ∧ vl = .int .u64 (a : Nat) ∧ vi = .int .i64 (k : Nat) ∧ Hid (risesF l = risesFrom a (l.drop k)) ∧ Hid (Below w.heap.size w wr)) (fun _ vi _ => l.length - (intOf vi).toNat)
  case atStart => exact ⟨0, 0, Nat.zero_le _, rfl, rfl, hid_ rfl, hid_ (Below.refl _ _)⟩
  case round =>
    obtain ⟨k, a, hk, rfl, rfl, Hr, Hw⟩ := hrel
    by_cases hlt : k < l.length
    · obtain ⟨b, off, rfl, hc⟩ := (Hs.out.below Hw.out).at_ (k := k) (by simpa [idVals] using hlt)
      have c0 : wr.cell? ⟨b, off + k, none⟩ = some (.int .u64 (l[k] : Nat)) := by rw [hc]; simp [idVals]
      clear hc
      have Hd := hid_ (show l.drop k = l[k] :: l.drop (k + 1) from List.drop_eq_getElem_cons hlt)
      have x1 : (k : Int) < (l.length : Int) := by omega
      have x2 : (0 : Int) ≤ (k : Int) := by omega
      have Hc := hid_ (fun W => numof_id l[k] W)
      by_cases hx : l[k] ≤ a
      · have Hf := hid_ (show risesF l = false by rw [Hr.out, Hd.out, rises_no hx])
        have e1 : decide (l[k] ≤ a) = true := decide_eq_true hx
        clear hx
        generalize l[k] = s at *
        go_wp2_with (go_at_fn 188; (with_reducible refine Calls.mono (Hc.out _) ?_); rintro e w2 ⟨rfl, hb2⟩; have Hw2 := hid_ (show Below w.heap.size w w2 from Hw.out.trans (hb2.mono Hw.out.size)); clear hb2)
        go_ret
        exact boolIs_mk Hf.out Hw2.out
      · have Hf := hid_ (show risesF l = risesFrom l[k] (l.drop (k + 1)) by rw [Hr.out, Hd.out, rises_yes (by omega)])
        have e1 : decide (l[k] ≤ a) = false := decide_eq_false hx
        clear hx
        generalize l[k] = s at *
        go_wp2_with (go_at_fn 188; (with_reducible refine Calls.mono (Hc.out _) ?_); rintro e w2 ⟨rfl, hb2⟩; have Hw2 := hid_ (show Below w.heap.size w w2 from Hw.out.trans (hb2.mono Hw.out.size)); clear hb2)
        go_roundw
        case rel => exact ⟨k + 1, s, by omega, rfl, by go_num, Hf, Hw2⟩
        case measure => simp [intOf] <;> omega
    · obtain rfl : k = l.length := by omega
      have Hf := hid_ (show risesF l = true by rw [Hr.out, List.drop_eq_nil_of_le (by simp)]; rfl)
      go_wp2_with fail
      go_ret
      exact boolIs_mk Hf.out Hw.out

set_option maxRecDepth 20000 in
set_option maxHeartbeats 2000000 in
theorem rises_spans (A : Option Addr) (n c : Nat) (l : List SpanD) (w : World) (hs : SpanRow w A n c l) :
    Calls Try.prog 199 #[.slice A n c, .func (.func 200) #[] #[]] w (BoolIs w (risesF (l.map SpanD.id))) := by
  obtain rfl := hs.len
  have eg : ∀ args w, (callFunc 200 args).run Try.prog w = .ok (.enter 200 args) w := enters_of Try.func200 (by kernel_rfl) rfl
  have Hs := hid_ hs
  have hle := hs.cap
  have hmx := hs.max
  clear hs
  go_enter Try.func199, Try.ntmps199
  go_wp2_with fail
  go_loopw [5, 11] (fun vl vi wr => ∃ (k a : Nat), k ≤ l.length ∧ vl = .int .u64 (a : Nat) ∧ vi = .int .i64 (k : Nat) ∧ Hid (risesF (l.map SpanD.id) = risesFrom a ((l.map SpanD.id).drop k)) ∧ Hid (Below w.heap.size w wr)) (fun _ vi _ => l.length - (intOf vi).toNat)
  case atStart => exact ⟨0, 0, Nat.zero_le _, rfl, rfl, hid_ rfl, hid_ (Below.refl _ _)⟩
  case round =>
    obtain ⟨k, a, hk, rfl, rfl, Hr, Hw⟩ := hrel
    by_cases hlt : k < l.length
    · obtain ⟨b, off, rfl, hc⟩ := (Hs.out.below Hw.out).at_ hlt
      obtain ⟨c0, c1, c2, c3, c4, c5, c6, c7⟩ := hc
      have Hd := hid_ (show (l.map SpanD.id).drop k = l[k].id :: (l.map SpanD.id).drop (k + 1) from by rw [List.drop_eq_getElem_cons (by simpa using hlt)]; simp)
      have x1 : (k : Int) < (l.length : Int) := by omega
      have x2 : (0 : Int) ≤ (k : Int) := by omega
      have Hc := hid_ (fun W => numof_span l[k] W)
      by_cases hx : l[k].id ≤ a
      · have Hf := hid_ (show risesF (l.map SpanD.id) = false by rw [Hr.out, Hd.out, rises_no hx])
        have e1 : decide (l[k].id ≤ a) = true := decide_eq_true hx
        clear hx
        generalize l[k] = s at *
        go_wp2_with (go_at_fn 200; (with_reducible refine Calls.mono (Hc.out _) ?_); rintro e w2 ⟨rfl, hb2⟩; have Hw2 := hid_ (show Below w.heap.size w w2 from (Hw.out.alloc Hw.out.size _).trans (hb2.mono (Hw.out.alloc Hw.out.size _).size)); clear hb2)
        go_ret
        exact boolIs_mk Hf.out Hw2.out
      · have Hf := hid_ (show risesF (l.map SpanD.id) = risesFrom l[k].id ((l.map SpanD.id).drop (k + 1)) by rw [Hr.out, Hd.out, rises_yes (by omega)])
        have e1 : decide (l[k].id ≤ a) = false := decide_eq_false hx
        clear hx
        generalize l[k] = s at *
        go_wp2_with (go_at_fn 200; (with_reducible refine Calls.mono (Hc.out _) ?_); rintro e w2 ⟨rfl, hb2⟩; have Hw2 := hid_ (show Below w.heap.size w w2 from (Hw.out.alloc Hw.out.size _).trans (hb2.mono (Hw.out.alloc Hw.out.size _).size)); clear hb2)
        go_roundw
        case rel => exact ⟨k + 1, s.id, by omega, rfl, by go_num, Hf, Hw2⟩
        case measure => simp [intOf] <;> omega
    · obtain rfl : k = l.length := by omega
      have Hf := hid_ (show risesF (l.map SpanD.id) = true by rw [Hr.out, List.drop_eq_nil_of_le (by simp)]; rfl)
      go_wp2_with fail
      go_ret
      exact boolIs_mk Hf.out Hw.out

set_option maxRecDepth 20000 in
set_option maxHeartbeats 2000000 in
theorem rises_mems (A : Option Addr) (n c : Nat) (l : List MemberD) (w : World) (hs : MemRow w A n c l) :
    Calls Try.prog 201 #[.slice A n c, .func (.func 202) #[] #[]] w (BoolIs w (risesF (l.map MemberD.id))) := by
  obtain rfl := hs.len
  have eg : ∀ args w, (callFunc 202 args).run Try.prog w = .ok (.enter 202 args) w := enters_of Try.func202 (by kernel_rfl) rfl
  have Hs := hid_ hs
  have hle := hs.cap
  have hmx := hs.max
  clear hs
  go_enter Try.func201, Try.ntmps201
  go_wp2_with fail
  go_loopw [5, 11] (fun vl vi wr => ∃ (k a : Nat), k ≤ l.length ∧ vl = .int .u64 (a : Nat) ∧ vi = .int .i64 (k : Nat) ∧ Hid (risesF (l.map MemberD.id) = risesFrom a ((l.map MemberD.id).drop k)) ∧ Hid (Below w.heap.size w wr)) (fun _ vi _ => l.length - (intOf vi).toNat)
  case atStart => exact ⟨0, 0, Nat.zero_le _, rfl, rfl, hid_ rfl, hid_ (Below.refl _ _)⟩
  case round =>
    obtain ⟨k, a, hk, rfl, rfl, Hr, Hw⟩ := hrel
    by_cases hlt : k < l.length
    · obtain ⟨b, off, rfl, hc⟩ := (Hs.out.below Hw.out).at_ hlt
      obtain ⟨c0, c1, c2⟩ := hc
      have Hd := hid_ (show (l.map MemberD.id).drop k = l[k].id :: (l.map MemberD.id).drop (k + 1) from by rw [List.drop_eq_getElem_cons (by simpa using hlt)]; simp)
      have x1 : (k : Int) < (l.length : Int) := by omega
      have x2 : (0 : Int) ≤ (k : Int) := by omega
      have Hc := hid_ (fun W => numof_mem l[k] W)
      by_cases hx : l[k].id ≤ a
      · have Hf := hid_ (show risesF (l.map MemberD.id) = false by rw [Hr.out, Hd.out, rises_no hx])
        have e1 : decide (l[k].id ≤ a) = true := decide_eq_true hx
        clear hx
        generalize l[k] = s at *
        go_wp2_with (go_at_fn 202; (with_reducible refine Calls.mono (Hc.out _) ?_); rintro e w2 ⟨rfl, hb2⟩; have Hw2 := hid_ (show Below w.heap.size w w2 from (Hw.out.alloc Hw.out.size _).trans (hb2.mono (Hw.out.alloc Hw.out.size _).size)); clear hb2)
        go_ret
        exact boolIs_mk Hf.out Hw2.out
      · have Hf := hid_ (show risesF (l.map MemberD.id) = risesFrom l[k].id ((l.map MemberD.id).drop (k + 1)) by rw [Hr.out, Hd.out, rises_yes (by omega)])
        have e1 : decide (l[k].id ≤ a) = false := decide_eq_false hx
        clear hx
        generalize l[k] = s at *
        go_wp2_with (go_at_fn 202; (with_reducible refine Calls.mono (Hc.out _) ?_); rintro e w2 ⟨rfl, hb2⟩; have Hw2 := hid_ (show Below w.heap.size w w2 from (Hw.out.alloc Hw.out.size _).trans (hb2.mono (Hw.out.alloc Hw.out.size _).size)); clear hb2)
        go_roundw
        case rel => exact ⟨k + 1, s.id, by omega, rfl, by go_num, Hf, Hw2⟩
        case measure => simp [intOf] <;> omega
    · obtain rfl : k = l.length := by omega
      have Hf := hid_ (show risesF (l.map MemberD.id) = true by rw [Hr.out, List.drop_eq_nil_of_le (by simp)]; rfl)
      go_wp2_with fail
      go_ret
      exact boolIs_mk Hf.out Hw.out
end Go.Proofs.Ytcmoelphjdehaaa

/-
  What the program's lengthRight, spansRight and membersRight answer.
-/
namespace Go.Proofs.Ytcmoelphjdehaaa
set_option linter.unusedSimpArgs false
set_option linter.unusedVariables false
open Go.RowKit Ru

theorem risesFrom_iff : ∀ (l : List Nat) (a : Nat), risesFrom a l = true ↔ (∀ x ∈ l, a < x) ∧ l.Pairwise (· < ·)
  | [], a => by simp [risesFrom]
  | x :: r, a => by
    rw [risesFrom, Bool.and_eq_true, decide_eq_true_eq, risesFrom_iff r x, List.pairwise_cons]
    constructor
    · rintro ⟨h1, h2, h3⟩
      refine ⟨fun y hy => ?_, h2, h3⟩
      rcases List.mem_cons.1 hy with rfl | hy
      · exact h1
      · have := h2 y hy; omega
    · rintro ⟨h1, h2, h3⟩
      exact ⟨h1 x (by simp), h2, h3⟩
theorem rises_sorted {l : List Nat} (h : l.Pairwise (· ≤ ·)) : risesF l = (decide l.Nodup && l.all fun x => decide (0 < x)) := by
  rw [Bool.eq_iff_iff, Bool.and_eq_true, decide_eq_true_eq, List.all_eq_true]
  unfold risesF
  rw [risesFrom_iff]
  simp only [decide_eq_true_eq]
  constructor
  · rintro ⟨h1, h2⟩
    exact ⟨h2.imp (fun h => Nat.ne_of_lt h), h1⟩
  · rintro ⟨h1, h2⟩
    refine ⟨h2, ?_⟩
    have := h.and h1
    exact this.imp fun ⟨a, b⟩ => Nat.lt_of_le_of_ne a b
theorem rises_perm {ss ss' : List SpanD} (hp : ss'.Perm ss) (hs : ById ss') : risesF (ss'.map SpanD.id) = (decide (ss.map SpanD.id).Nodup && (ss.map SpanD.id).all fun x => decide (0 < x)) := by
  rw [rises_sorted]
  · have hm := hp.map SpanD.id
    rw [decide_eq_decide.2 hm.nodup_iff]
    congr 1
    rw [Bool.eq_iff_iff, List.all_eq_true, List.all_eq_true]
    exact ⟨fun h x hx => h x (hm.mem_iff.2 hx), fun h x hx => h x (hm.mem_iff.1 hx)⟩
  · rw [List.pairwise_map, List.pairwise_iff_getElem]
    intro i j hi hj hij
    exact hs i j hij hj
/-- A span is right, and of the trace. -/
def okSpan (tr : Nat) (s : SpanD) : Bool := decide (s.trace = tr) && (rightF s == 0)
/-- Spans are right, of the trace, no two of one Id. -/
def spansF (tr : Nat) (ss : List SpanD) : Bool := ss.all (okSpan tr) && decide (ss.map SpanD.id).Nodup
theorem okSpan_id {tr : Nat} {s : SpanD} (h : okSpan tr s = true) : 0 < s.id := by
  unfold okSpan at h
  rw [Bool.and_eq_true, beq_iff_eq] at h
  have := (arg_no (right_zero h.2).1).2.1
  omega
theorem spans_good {tr : Nat} {ss ss' : List SpanD} (ha : ∀ j (hj : j < ss.length), okSpan tr ss[j] = true) (hp : ss'.Perm ss) (hs : ById ss') : spansF tr ss = risesF (ss'.map SpanD.id) := by
  have h1 : ss.all (okSpan tr) = true := List.all_eq_true.2 fun s h => by
    obtain ⟨j, hj, rfl⟩ := List.getElem_of_mem h
    exact ha j hj
  have h2 : ((ss.map SpanD.id).all fun x => decide (0 < x)) = true := List.all_eq_true.2 fun x hx => by
    obtain ⟨s, h, rfl⟩ := List.mem_map.1 hx
    exact decide_eq_true (okSpan_id (List.all_eq_true.1 h1 s h))
  rw [rises_perm hp hs, h2, Bool.and_true]
  unfold spansF
  rw [h1, Bool.true_and]
theorem spans_bad {tr : Nat} {ss : List SpanD} {s : SpanD} (hm : s ∈ ss) (h : okSpan tr s = false) : spansF tr ss = false := by
  unfold spansF
  rw [List.all_eq_false.2 ⟨s, hm, by rw [h]; decide⟩]
  rfl

set_option maxHeartbeats 1000000 in
theorem values_any (A : Option Addr) (n c : Nat) (w : World) : Calls Try.prog 197 #[.slice A n c] w fun e w' => e = .returned (.func (.func 208) #[] #[.pointer (some ⟨w.heap.size, 0, none⟩)]) ∧ w' = w.alloc (.cells #[.slice A n c] 198) := by
  go_enter Try.func197, Try.ntmps197
  go_wp2_with fail
  go_ret
  exact ⟨rfl, rfl⟩
def SortedPost (w : World) (ss : List SpanD) (e : Ending) (w' : World) : Prop := ∃ A c ss', e = .returned (.slice A ss.length c) ∧ ss'.Perm ss ∧ ById ss' ∧ SpanRow w' A ss.length c ss' ∧ Below w.heap.size w w'
set_option maxHeartbeats 1000000 in
theorem sortedfunc_any (Bs : Nat) (A0 : Option Addr) (c0 : Nat) (ss : List SpanD) (w : World) (hs : SpanRow w A0 ss.length c0 ss) (hb : Whole w Bs 198 #[.slice A0 ss.length c0]) (hm : ss.length ≤ 1000000) :
    Calls Try.prog 196 #[.func (.func 208) #[] #[.pointer (some ⟨Bs, 0, none⟩)], .func (.func 198) #[] #[]] w (SortedPost w ss) := by
  have Hc := hid_ (collect_any Bs A0 c0 ss w hs hb hm)
  clear hs hb
  go_enter Try.func196, Try.ntmps196
  go_wp2_with fail
  refine Calls.mono Hc.out ?_
  rintro e w1 ⟨A, c, rfl, ho, hb1⟩
  have Hs := hid_ (sortspans_any w.heap.size A ss.length c ss w1 ho hb1.size hm)
  have Hb1 := hid_ hb1
  clear ho hb1
  go_wp2_with fail
  refine Calls.mono Hs.out ?_
  rintro e w2 ⟨rfl, ss', hp, hs', hr, hb2⟩
  have Hp := hid_ hp
  have Hs' := hid_ hs'
  have Hr := hid_ hr
  have Hb2 := hid_ (Hb1.out.trans hb2)
  clear hp hs' hr hb2
  go_wp2_with fail
  go_ret
  exact ⟨A, c, ss', rfl, Hp.out, Hs'.out, Hr.out, Hb2.out⟩

theorem ret_bool {a b : Bool} (h : a = b) : Ending.returned (.bool b) = .returned (.bool a) := by rw [h]
/-- A list's length: 1 to so many where there is one, else none. -/
def lengthF (is : Bool) (n m : Nat) : Bool := if is = true then decide (1 ≤ n) && decide (n ≤ m) else decide (n = 0)
set_option maxHeartbeats 1000000 in
theorem length_any (is : Bool) (n m : Nat) (w : World) : Calls Try.prog 184 #[.bool is, .int .i64 (n : Nat), .int .i64 (m : Nat)] w fun e w' => e = .returned (.bool (lengthF is n m)) ∧ w = w' := by
  cases is
  · by_cases h : n = 0
    · have Hk := hid_ (show lengthF false n m = true by unfold lengthF; rw [if_neg (by decide), decide_eq_true h])
      have e1 : ((n : Int) == 0) = true := by rw [beq_iff_eq]; omega
      clear h
      go_enter Try.func184, Try.ntmps184
      go_wp2_with fail
      go_ret
      exact ⟨ret_bool Hk.out, rfl⟩
    · have Hk := hid_ (show lengthF false n m = false by unfold lengthF; rw [if_neg (by decide), decide_eq_false h])
      have e1 : ((n : Int) == 0) = false := by rw [beq_eq_false_iff_ne]; omega
      clear h
      go_enter Try.func184, Try.ntmps184
      go_wp2_with fail
      go_ret
      exact ⟨ret_bool Hk.out, rfl⟩
  · by_cases h : 1 ≤ n
    · have e1 : decide ((1 : Int) ≤ (n : Int)) = true := decide_eq_true (by omega)
      by_cases h2 : n ≤ m
      · have Hk := hid_ (show lengthF true n m = true by unfold lengthF; rw [if_pos rfl, decide_eq_true h, decide_eq_true h2]; rfl)
        have e2 : decide (n ≤ m) = true := decide_eq_true h2
        clear h h2
        go_enter Try.func184, Try.ntmps184
        go_wp2_with fail
        go_ret
        exact ⟨ret_bool Hk.out, rfl⟩
      · have Hk := hid_ (show lengthF true n m = false by unfold lengthF; rw [if_pos rfl, decide_eq_false h2]; simp)
        have e2 : decide (n ≤ m) = false := decide_eq_false h2
        clear h h2
        go_enter Try.func184, Try.ntmps184
        go_wp2_with fail
        go_ret
        exact ⟨ret_bool Hk.out, rfl⟩
    · have e1 : decide ((1 : Int) ≤ (n : Int)) = false := decide_eq_false (by omega)
      have Hk := hid_ (show lengthF true n m = false by unfold lengthF; rw [if_pos rfl, decide_eq_false h]; rfl)
      clear h
      go_enter Try.func184, Try.ntmps184
      go_wp2_with fail
      go_ret
      exact ⟨ret_bool Hk.out, rfl⟩

theorem length_16 (is : Bool) (n : Nat) (w : World) : Calls Try.prog 184 #[.bool is, .int .i64 (n : Nat), .int .i64 16] w fun e w' => e = .returned (.bool (lengthF is n 16)) ∧ w = w' := length_any is n 16 w
set_option maxRecDepth 20000 in
set_option maxHeartbeats 4000000 in
theorem spansright_any (tr : Nat) (A : Option Addr) (n c : Nat) (ss : List SpanD) (w : World) (hs : SpanRow w A n c ss) (hw : ∀ s ∈ ss, s.Wf) (hm : n ≤ 1000000) :
    Calls Try.prog 185 #[.int .u64 (tr : Nat), .slice A n c] w (BoolIs w (spansF tr ss)) := by
  obtain rfl := hs.len
  have Hs := hid_ hs
  have hle := hs.cap
  have hmx := hs.max
  have Hr := hid_ (fun W s (h : s ∈ ss) => right_any s W (hw s h))
  have Hbad := hid_ (fun s (h : s ∈ ss) (h2 : okSpan tr s = false) => spans_bad h h2)
  clear hs hw
  go_enter Try.func185, Try.ntmps185
  go_wp2_with fail
  go_loopw [10] (fun vi wr => ∃ k : Nat, k ≤ ss.length ∧ vi = .int .i64 (k : Nat) ∧ Hid (∀ j (hj : j < ss.length), j < k → okSpan tr ss[j] = true) ∧ Hid (Below w.heap.size w wr)) (fun vi _ => ss.length - (intOf vi).toNat)
  case atStart => exact ⟨0, Nat.zero_le _, rfl, hid_ (fun j _ h => absurd h (by omega)), hid_ (Below.refl _ _)⟩
  case round =>
    obtain ⟨k, hk, rfl, Hg, Hw⟩ := hrel
    by_cases hlt : k < ss.length
    · obtain ⟨b, off, rfl, hc⟩ := (Hs.out.below Hw.out).at_ hlt
      obtain ⟨c0, c1, c2, c3, c4, c5, c6, c7⟩ := hc
      have x1 : (k : Int) < (ss.length : Int) := by omega
      have x2 : (0 : Int) ≤ (k : Int) := by omega
      have Hc := hid_ (fun W => Hr.out W ss[k] (List.getElem_mem hlt))
      have Hb := hid_ (Hbad.out ss[k] (List.getElem_mem hlt))
      have Hn := hid_ (fun (h : okSpan tr ss[k] = true) => show ∀ j (hj : j < ss.length), j < k + 1 → okSpan tr ss[j] = true from fun j hj h2 => by
        by_cases e : j = k
        · subst e; exact h
        · exact Hg.out j hj (by omega))
      have Hw1 := hid_ (fun (o : Obj) => show Below w.heap.size w (wr.alloc o) from Hw.out.alloc Hw.out.size _)
      by_cases ht : ss[k].trace = tr
      · have e1 : (((ss[k].trace : Nat) : Int) != (tr : Int)) = false := by rw [ht]; simp
        by_cases hr : rightF ss[k] = 0
        · have Hn2 := hid_ (Hn.out (by unfold okSpan; rw [decide_eq_true ht, hr]; rfl))
          rw [hr] at Hc
          clear ht hr
          generalize ss[k] = s at *
          go_wp2_with fail
          refine Calls.mono (Hc.out _) ?_
          rintro e w2 ⟨rfl, hb2⟩
          have Hw2 := hid_ ((Hw1.out _).trans (hb2.mono (Hw1.out _).size))
          clear hb2 c0 c1 c2 c3 c4 c5 c6 c7
          go_wp2_with fail
          go_roundw
          case rel => exact ⟨k + 1, by omega, by go_num, Hn2, Hw2⟩
          case measure => simp [intOf] <;> omega
        · have Hf := hid_ (Hb.out (by unfold okSpan; rw [show (rightF ss[k] == 0) = false from beq_eq_false_iff_ne.2 hr]; simp))
          have e2 : (rightF ss[k] != 0) = true := bne_iff_ne.2 hr
          clear ht hr
          generalize hq : rightF ss[k] = q at *
          clear hq
          generalize ss[k] = s at *
          go_wp2_with fail
          refine Calls.mono (Hc.out _) ?_
          rintro e w2 ⟨rfl, hb2⟩
          have Hw2 := hid_ ((Hw1.out _).trans (hb2.mono (Hw1.out _).size))
          clear hb2 c0 c1 c2 c3 c4 c5 c6 c7
          go_wp2_with fail
          go_ret
          exact boolIs_mk Hf.out Hw2.out
      · have Hf := hid_ (Hb.out (by unfold okSpan; rw [decide_eq_false ht]; rfl))
        have e1 : (((ss[k].trace : Nat) : Int) != (tr : Int)) = true := by rw [bne_iff_ne]; omega
        clear ht
        generalize ss[k] = s at *
        go_wp2_with fail
        go_ret
        exact boolIs_mk Hf.out (Hw1.out _)
    · obtain rfl : k = ss.length := by omega
      have Hv := hid_ (fun W => values_any A ss.length c W)
      have Hsf := hid_ (fun (W : World) (hb : Below w.heap.size w W) => sortedfunc_any W.heap.size A c ss (W.alloc (.cells #[.slice A ss.length c] 198)) (Hs.out.below (hb.alloc hb.size _)) (whole_new W _ _) hm)
      have Hgood := hid_ (fun ss' (hp : ss'.Perm ss) (hs' : ById ss') => spans_good (tr := tr) (fun j hj => Hg.out j hj hj) hp hs')
      go_wp2_with fail
      refine Calls.mono (Hv.out _) ?_
      rintro e w1 ⟨rfl, rfl⟩
      go_wp2_with fail
      refine Calls.mono (Hsf.out _ Hw.out) ?_
      rintro e w2 ⟨A2, c2, ss', rfl, hp, hs', hr, hb2⟩
      have Hri := hid_ (rises_spans A2 ss.length c2 ss' w2 hr)
      rw [← Hgood.out ss' hp hs'] at Hri
      have Hw2 := hid_ ((Hw.out.alloc Hw.out.size _).trans (hb2.mono (Hw.out.alloc Hw.out.size _).size))
      clear hp hs' hr hb2
      go_wp2_with fail
      refine Calls.mono Hri.out ?_
      rintro e w3 ⟨rfl, hb3⟩
      go_wp2_with fail
      go_ret
      exact boolIs_mk rfl (Hw2.out.trans (hb3.mono Hw2.out.size))
end Go.Proofs.Ytcmoelphjdehaaa
