/-
  A heap of timers as it lies in memory: the row of pointers, the items, the map.
-/
import Derived.Test.YtpcmlopbkehffaaZGAA
import Derived.Test.YtpcmlopbkehffaaZGAB
import Derived.Maps.OwnSet
import Derived.Deep.QuietTactic
import Derived.BigQuiet
import Derived.Shelf.Abstract
namespace Go.Proofs.Ytpcmlopbkehffaa
set_option linter.unusedSimpArgs false
set_option linter.unusedVariables false
open Go.RowKit
open Go.Maps (Keyed keyOf_int_mk int_keyed)
namespace Ti
set_option linter.unusedSimpArgs false
set_option linter.unusedVariables false
/-- w' is w but for blocks of Q, and new ones. -/
structure Tn (Q : Nat → Prop) (w w' : World) : Prop where
  os : w'.os = w.os
  tape : w'.tape = w.tape
  output : w'.output = w.output
  size : w.heap.size ≤ w'.heap.size
  block : ∀ i, i < w.heap.size → ¬ Q i → w'.heap[i]? = w.heap[i]?
theorem Tn.refl (Q : Nat → Prop) (w : World) : Tn Q w w := ⟨rfl, rfl, rfl, Nat.le_refl _, fun _ _ _ => rfl⟩
theorem Tn.trans {Q Q' : Nat → Prop} {a b c : World} (h : Tn Q a b) (k : Tn Q' b c) (hq : ∀ q, Q' q → Q q ∨ a.heap.size ≤ q) : Tn Q a c :=
  ⟨k.os.trans h.os, k.tape.trans h.tape, k.output.trans h.output, Nat.le_trans h.size k.size, fun i hi hne => (k.block i (Nat.lt_of_lt_of_le hi h.size) (fun e => by
    rcases hq i e with h1 | h1
    · exact hne h1
    · omega)).trans (h.block i hi hne)⟩
theorem Tn.grown {Q : Nat → Prop} {a b c : World} {row : Option Nat} (h : Tn Q a b) (k : b.grownBy c row) (hr : ∀ j, row = some j → Q j ∨ a.heap.size ≤ j) : Tn Q a c :=
  h.trans (Q' := fun q => row = some q) ⟨k.os, k.tape, k.output, k.size, fun i hi hne => k.block i hi (fun e => hne e.symm)⟩ hr
theorem Tn.of_below {Q : Nat → Prop} {w w' : World} (h : Below w.heap.size w w') : Tn Q w w' := ⟨h.os, h.tape, h.output, h.size, fun i hi _ => h.block i hi⟩
theorem Tn.then_below {Q : Nat → Prop} {a b c : World} (h : Tn Q a b) (k : Below b.heap.size b c) : Tn Q a c := h.trans (Q' := fun _ => False) (Tn.of_below k) (fun _ e => e.elim)
theorem Tn.alloc {Q : Nat → Prop} {a b : World} (h : Tn Q a b) (o : Obj) : Tn Q a (b.alloc o) := h.then_below ((Below.refl _ _).alloc (Nat.le_refl _) o)
theorem Tn.drew {Q : Nat → Prop} {a b : World} (h : Tn Q a b) : Tn Q a b.drew := ⟨h.os, h.tape, h.output, h.size, h.block⟩
theorem Tn.drewN {Q : Nat → Prop} {a b : World} (h : Tn Q a b) (n : Nat) : Tn Q a (b.drewN n) := ⟨h.os, h.tape, h.output, h.size, h.block⟩
theorem Tn.set {Q : Nat → Prop} {a b : World} (h : Tn Q a b) {g : Nat} (hg : Q g ∨ a.heap.size ≤ g) (i : Nat) (v : Value) : Tn Q a (b.setCell ⟨g, i, none⟩ v) :=
  ⟨h.os, h.tape, h.output, by simpa using h.size, fun j hj hne => (Below.heap_setCell b _ v j (by
    rintro rfl
    rcases hg with h1 | h1
    · exact hne h1
    · exact absurd hj (Nat.not_lt.2 h1))).trans (h.block j hj hne)⟩
theorem Tn.below {Q : Nat → Prop} {B : Nat} {a b c : World} (h : Below B a b) (k : Tn Q b c) (hq : ∀ q, Q q → B ≤ q) (hB : B ≤ b.heap.size) : Below B a c :=
  ⟨k.os.trans h.os, k.tape.trans h.tape, k.output.trans h.output, Nat.le_trans h.size k.size, fun i hi => (k.block i (by omega) (fun e => by have := hq i e; omega)).trans (h.block i hi)⟩
theorem Tn.sub {Q Q' : Nat → Prop} {a b : World} (h : Tn Q a b) (hq : ∀ q, Q q → Q' q) : Tn Q' a b := ⟨h.os, h.tape, h.output, h.size, fun i hi hne => h.block i hi (fun e => hne (hq i e))⟩
theorem Whole.tn {Q : Nat → Prop} {w w' : World} {g : Nat} {t : TypeId} {cs : Array Value} (h : Whole w g t cs) (k : Tn Q w w') (hg : ¬ Q g) : Whole w' g t cs := (k.block g h.lt hg).trans h

/-- A pointer. -/
def ptrE : Enc Nat := ⟨fun g => [.pointer (some ⟨g, 0, none⟩)], 1, fun _ => rfl, by decide, fun p u hu => by
  rcases List.mem_singleton.1 hu with rfl
  rfl⟩
theorem info_ptr : (Try.prog.info? 110).map (fun i => (i.zero, i.size, i.bytes)) = some (some (.pointer none), ptrE.K, 8) := by kernel_rfl
abbrev OwnP := ptrE.Own 110
/-- A cell of a row of the call's own is written. -/
theorem own_set {B : Nat} {w : World} {a n c : Nat} {ss : List Nat} (h : OwnP B w (some ⟨a, 0, none⟩) n c ss) {k : Nat} (hk : k < ss.length) (x : Nat) :
    OwnP B (w.setCell ⟨a, k, none⟩ (.pointer (some ⟨x, 0, none⟩))) (some ⟨a, 0, none⟩) n c (ss.set k x) := by
  have hlen := h.len
  obtain ⟨hl, h1 | ⟨g, cap, cur, e', hg, hh, hnc, hcm, hs, hc⟩⟩ := h
  · cases h1.1
  · injection e' with e1 e2 e3
    injection e1 with e1
    injection e1 with e1 _ _
    subst e1 e3
    have hall : ∀ l : List Nat, ptrE.all l = l.map (fun g => Value.pointer (some ⟨g, 0, none⟩)) := by
      intro l
      induction l with
      | nil => rfl
      | cons x l ih => rw [List.map_cons, ← ih]; rfl
    have hset : ptrE.all (ss.set k x) = (ptrE.all ss).set k (.pointer (some ⟨x, 0, none⟩)) := by rw [hall, hall, List.map_set]
    refine ⟨by rw [ptrE.all_length, List.length_set, hlen], .inr ⟨a, c, cur.setIfInBounds k (.pointer (some ⟨x, 0, none⟩)), rfl, hg, ?_, hnc, hcm, by rw [Array.size_setIfInBounds]; exact hs, ?_⟩⟩
    · exact Whole.store hh _ _
    · rw [Array.toList_setIfInBounds, hset, ← hc, List.take_set]
theorem own_stands {α : Type} {E : Enc α} {e : TypeId} {B : Nat} {w w' : World} {a n c : Nat} {ss : List α} (h : E.Own e B w (some ⟨a, 0, none⟩) n c ss) (hk : w'.heap[a]? = w.heap[a]?) : E.Own e B w' (some ⟨a, 0, none⟩) n c ss := by
  obtain ⟨hl, h1 | ⟨g, cap, cur, e', hg, hh, r⟩⟩ := h
  · cases h1.1
  · refine ⟨hl, .inr ⟨g, cap, cur, e', hg, ?_, r⟩⟩
    injection e' with e1
    injection e1 with e1
    injection e1 with e1
    subst e1
    exact hk.trans hh
theorem ptr_at {B : Nat} {w : World} {a n c : Nat} {ss : List Nat} (h : OwnP B w (some ⟨a, 0, none⟩) n c ss) {k : Nat} (hk : k < ss.length) : w.cell? ⟨a, k, none⟩ = some (.pointer (some ⟨ss[k], 0, none⟩)) := by
  obtain ⟨b, off, e, _, hc⟩ := h.row.at_ hk
  injection e with e
  injection e with e1 e2
  subst e1 e2
  have := hc 0 _ rfl
  rwa [show 0 + k * ptrE.K + 0 = k by show 0 + k * 1 + 0 = k; omega] at this
theorem own_free {α : Type} {E : Enc α} {e : TypeId} {B : Nat} {w : World} {a n c : Nat} {ss : List α} (h : E.Own e B w (some ⟨a, 0, none⟩) n c ss) (k : Nat) : w.frozen? ⟨a, k, none⟩ = false := by
  obtain ⟨hl, h1 | ⟨g, cap, cur, e', hg, hh, r⟩⟩ := h
  · cases h1.1
  · injection e' with e1
    injection e1 with e1
    injection e1 with e1
    subst e1
    exact Whole.free (t := e) hh k
def cellsI (d : DueD) (k : Nat) : Array Value := #[.int .u64 (d.key : Nat), .int .u64 (d.at_ : Nat), .int .i64 (k : Nat)]
theorem cellsI_set (d : DueD) (i j : Nat) : (cellsI d i).setIfInBounds 2 (.int .i64 (j : Nat)) = cellsI d j := rfl
/-- The items l, in the row in block a. -/
structure Its (w : World) (a n c : Nat) (l : List ItD) : Prop where
  row : OwnP 0 w (some ⟨a, 0, none⟩) n c (l.map ItD.blk)
  it : ∀ k (h : k < l.length), Whole w l[k].blk 113 (cellsI l[k].due k)
  nd : (l.map ItD.blk).Nodup
  an : a ∉ l.map ItD.blk
/-- The blocks of such items. -/
def ItQ (a : Nat) (l : List ItD) (q : Nat) : Prop := q = a ∨ q ∈ l.map ItD.blk
theorem Its.len {w : World} {a n c : Nat} {l : List ItD} (h : Its w a n c l) : l.length = n := by have := h.row.len; rwa [List.length_map] at this
theorem Its.alt {w : World} {a n c : Nat} {l : List ItD} (h : Its w a n c l) : a < w.heap.size := (h.row.from_ a rfl).2
theorem Its.stands {w w' : World} {a n c : Nat} {l : List ItD} (h : Its w a n c l) (hk : ∀ q, ItQ a l q → w'.heap[q]? = w.heap[q]?) : Its w' a n c l :=
  ⟨own_stands h.row (hk a (.inl rfl)), fun k hl => (hk _ (.inr (List.mem_map.2 ⟨_, List.getElem_mem hl, rfl⟩))).trans (h.it k hl), h.nd, h.an⟩
theorem Its.qlt {w : World} {a n c : Nat} {l : List ItD} (h : Its w a n c l) {q : Nat} (hq : ItQ a l q) : q < w.heap.size := by
  rcases hq with rfl | hq
  · exact h.alt
  · obtain ⟨i, hi, rfl⟩ := List.mem_map.1 hq
    obtain ⟨k, hk, rfl⟩ := List.mem_iff_getElem.1 hi
    exact (h.it k hk).lt
theorem Its.below {w w' : World} {a n c : Nat} {l : List ItD} (h : Its w a n c l) (hb : Below w.heap.size w w') : Its w' a n c l := h.stands fun q hq => hb.block q (h.qlt hq)
theorem Its.drewN {w : World} {a n c : Nat} {l : List ItD} (h : Its w a n c l) (k : Nat) : Its (w.drewN k) a n c l := h.stands fun _ _ => rfl
theorem Its.tn {Q : Nat → Prop} {w w' : World} {a n c : Nat} {l : List ItD} (h : Its w a n c l) (k : Tn Q w w') (hq : ∀ q, ItQ a l q → ¬ Q q) : Its w' a n c l := h.stands fun q h1 => k.block q (h.qlt h1) (hq q h1)
theorem itq_perm {a : Nat} {l l' : List ItD} (h : l'.Perm l) (q : Nat) : ItQ a l' q ↔ ItQ a l q := by
  unfold ItQ
  rw [(h.map ItD.blk).mem_iff]
theorem blk_ne {l : List ItD} (h : (l.map ItD.blk).Nodup) {i j : Nat} (hi : i < l.length) (hj : j < l.length) (hij : i ≠ j) : l[i].blk ≠ l[j].blk := by
  intro e
  have h1 := List.pairwise_iff_getElem.1 h
  rcases Nat.lt_or_gt_of_ne hij with h2 | h2
  · exact h1 i j (by rw [List.length_map]; exact hi) (by rw [List.length_map]; exact hj) h2 (by simpa using e)
  · exact h1 j i (by rw [List.length_map]; exact hj) (by rw [List.length_map]; exact hi) h2 (by simpa using e.symm)
/-- The world behind Swap. -/
def swapW (w : World) (a i j p q : Nat) : World :=
  (((w.setCell ⟨a, i, none⟩ (.pointer (some ⟨q, 0, none⟩))).setCell ⟨a, j, none⟩ (.pointer (some ⟨p, 0, none⟩))).setCell ⟨q, 2, none⟩ (.int .i64 (i : Nat))).setCell ⟨p, 2, none⟩ (.int .i64 (j : Nat))
theorem Its.swap {w : World} {a n c : Nat} {l : List ItD} (h : Its w a n c l) {i j : Nat} (hi : i < l.length) (hj : j < l.length) (hij : i ≠ j) (W : World) (hW : ∀ q : Nat, W.heap[q]? = (swapW w a i j l[i].blk l[j].blk).heap[q]?) : Its W a n c (swapL l i j) := by
  have hmi : l[i].blk ∈ l.map ItD.blk := List.mem_map.2 ⟨_, List.getElem_mem hi, rfl⟩
  have hmj : l[j].blk ∈ l.map ItD.blk := List.mem_map.2 ⟨_, List.getElem_mem hj, rfl⟩
  have hai : a ≠ l[i].blk := fun e => h.an (e ▸ hmi)
  have haj : a ≠ l[j].blk := fun e => h.an (e ▸ hmj)
  have hbl := blk_ne h.nd hi hj hij
  have hp := swapL_perm hi hj
  have hstand : Its (swapW w a i j l[i].blk l[j].blk) a n c (swapL l i j) := by
    refine ⟨?_, fun k hk => ?_, (hp.map ItD.blk).nodup_iff.2 h.nd, fun e => h.an ((hp.map ItD.blk).mem_iff.1 e)⟩
    · have h1 := own_set h.row (k := i) (by rw [List.length_map]; exact hi) l[j].blk
      have h2 := own_set h1 (k := j) (by rw [List.length_set, List.length_map]; exact hj) l[i].blk
      have e : ((l.map ItD.blk).set i l[j].blk).set j l[i].blk = (swapL l i j).map ItD.blk := by rw [swapL_eq hi hj, List.map_set, List.map_set]
      rw [e] at h2
      refine own_stands h2 ?_
      unfold swapW
      rw [Below.heap_setCell _ _ _ a hai, Below.heap_setCell _ _ _ a haj]
    · rw [swapL_len] at hk
      have hg := swapL_get hi hj k
      rw [List.getElem?_eq_getElem (by rw [swapL_len]; exact hk)] at hg
      by_cases e1 : k = j
      · subst e1
        rw [if_pos rfl, List.getElem?_eq_getElem hi] at hg
        rw [Option.some.inj hg]
        have h0 := h.it i hi
        unfold swapW
        have h3 := ((((h0.far hai.symm (.pointer (some ⟨l[k].blk, 0, none⟩)) (p := ⟨a, i, none⟩)).far hai.symm (.pointer (some ⟨l[i].blk, 0, none⟩)) (p := ⟨a, k, none⟩)).far hbl (.int .i64 (i : Nat)) (p := ⟨l[k].blk, 2, none⟩)).store 2 (.int .i64 (k : Nat)))
        rw [cellsI_set] at h3
        exact h3
      · rw [if_neg e1] at hg
        by_cases e2 : k = i
        · subst e2
          rw [if_pos rfl, List.getElem?_eq_getElem hj] at hg
          rw [Option.some.inj hg]
          have h0 := h.it j hj
          unfold swapW
          have h3 := ((((h0.far haj.symm (.pointer (some ⟨l[j].blk, 0, none⟩)) (p := ⟨a, k, none⟩)).far haj.symm (.pointer (some ⟨l[k].blk, 0, none⟩)) (p := ⟨a, j, none⟩)).store 2 (.int .i64 (k : Nat))).far hbl.symm (.int .i64 (j : Nat)) (p := ⟨l[k].blk, 2, none⟩))
          rw [cellsI_set] at h3
          exact h3
        · rw [if_neg e2, List.getElem?_eq_getElem hk] at hg
          rw [Option.some.inj hg]
          have h0 := h.it k hk
          have hak : a ≠ l[k].blk := fun e => h.an (e ▸ List.mem_map.2 ⟨_, List.getElem_mem hk, rfl⟩)
          unfold swapW
          exact ((((h0.far hak.symm _ (p := ⟨a, i, none⟩)).far hak.symm _ (p := ⟨a, j, none⟩)).far (blk_ne h.nd hk hj e1) _ (p := ⟨l[j].blk, 2, none⟩)).far (blk_ne h.nd hk hi e2) _ (p := ⟨l[i].blk, 2, none⟩))
  exact hstand.stands fun q _ => hW q
theorem tn_swap {w : World} {a : Nat} {l : List ItD} {i j : Nat} (hi : i < l.length) (hj : j < l.length) : Tn (ItQ a l) w (swapW w a i j l[i].blk l[j].blk) := by
  have hmi : l[i].blk ∈ l.map ItD.blk := List.mem_map.2 ⟨_, List.getElem_mem hi, rfl⟩
  have hmj : l[j].blk ∈ l.map ItD.blk := List.mem_map.2 ⟨_, List.getElem_mem hj, rfl⟩
  exact ((((Tn.refl _ w).set (.inl (.inl rfl)) i _).set (.inl (.inl rfl)) j _).set (.inl (.inr hmj)) 2 _).set (.inl (.inr hmi)) 2 _
end Ti
end Go.Proofs.Ytpcmlopbkehffaa

/-
  The methods of the items: Len, Less, Swap.
-/
namespace Go.Proofs.Ytpcmlopbkehffaa
set_option linter.unusedSimpArgs false
set_option linter.unusedVariables false
open Go.RowKit
namespace Ti
set_option linter.unusedSimpArgs false
set_option linter.unusedVariables false
theorem its_at {w : World} {a n c : Nat} {l : List ItD} (h : Its w a n c l) {k : Nat} (hk : k < l.length) :
    w.cell? ⟨a, k, none⟩ = some (.pointer (some ⟨l[k].blk, 0, none⟩)) ∧ w.cell? ⟨l[k].blk, 0, none⟩ = some (.int .u64 (l[k].due.key : Nat)) ∧ w.cell? ⟨l[k].blk, 1, none⟩ = some (.int .u64 (l[k].due.at_ : Nat)) ∧ w.cell? ⟨l[k].blk, 2, none⟩ = some (.int .i64 (k : Nat)) := by
  have h1 := ptr_at h.row (k := k) (by rw [List.length_map]; exact hk)
  rw [List.getElem_map] at h1
  have h2 := h.it k hk
  exact ⟨h1, h2.cell 0 _ rfl, h2.cell 1 _ rfl, h2.cell 2 _ rfl⟩
def lessI (x y : DueD) : Bool := decide (ord x < ord y)
theorem lessI_lt {x y : DueD} (hy : x.key < 18446744073709551616) (h : x.at_ < y.at_) : lessI x y = true := decide_eq_true (by unfold ord; omega)
theorem lessI_gt {x y : DueD} (hy : y.key < 18446744073709551616) (h : y.at_ < x.at_) : lessI x y = false := decide_eq_false (by unfold ord; omega)
theorem lessI_eq {x y : DueD} (h : x.at_ = y.at_) : lessI x y = decide (x.key < y.key) := by
  unfold lessI ord
  rw [h]
  by_cases e : x.key < y.key
  · rw [decide_eq_true e, decide_eq_true (by omega)]
  · rw [decide_eq_false e, decide_eq_false (by omega)]
theorem len_any (A : Option Addr) (n c : Nat) (w : World) : Calls Try.prog 126 #[.slice A n c] w (RetV w (.int .i64 (n : Nat))) := by
  go_enter Try.func126, Try.ntmps126
  go_wp2_with fail
  go_ret
  exact retV_mk rfl
/-- Only draws. -/
def RetD (w : World) (v : Value) (e : Ending) (w' : World) : Prop := e = .returned v ∧ ∃ k, w' = w.drewN k
theorem retD_mk {w : World} {v v' : Value} (h : v = v') (k : Nat) : RetD w v (.returned v') (w.drewN k) := ⟨by rw [h], k, rfl⟩
set_option maxHeartbeats 2000000 in
theorem less_any {w : World} {a n c : Nat} {l : List ItD} (h : Its w a n c l) {i j : Nat} (hi : i < l.length) (hj : j < l.length) (hki : l[i].due.key < 18446744073709551616) (hkj : l[j].due.key < 18446744073709551616) :
    Calls Try.prog 127 #[.slice (some ⟨a, 0, none⟩) n c, .int .i64 (i : Nat), .int .i64 (j : Nat)] w (RetD w (.bool (lessI l[i].due l[j].due))) := by
  have hn := h.len
  obtain ⟨c0, c1, c2, _⟩ := its_at h hi
  obtain ⟨d0, d1, d2, _⟩ := its_at h hj
  have m1 : i < n := by omega
  have m2 : j < n := by omega
  have m3 : (i : Int) < (n : Int) := by omega
  have m4 : (j : Int) < (n : Int) := by omega
  have m5 : (0 : Int) ≤ (i : Int) := by omega
  have m6 : (0 : Int) ≤ (j : Int) := by omega
  generalize hp : l[i].due = x at *
  generalize hq : l[j].due = y at *
  generalize l[i].blk = p at *
  generalize l[j].blk = q at *
  clear hp hq
  obtain ⟨xk, xa⟩ := x
  obtain ⟨yk, ya⟩ := y
  rcases Nat.lt_trichotomy xa ya with e | e | e
  · have HL := hid_ (lessI_lt (x := ⟨xk, xa⟩) (y := ⟨yk, ya⟩) hki e)
    have e1 : decide (xa < ya) = true := decide_eq_true e
    have e2 : decide ((xa : Int) < (ya : Int)) = true := decide_eq_true (by omega)
    clear h hn hi hj hki hkj e
    dsimp only at *
    go_enter Try.func127, Try.ntmps127
    go_wp2_with fail
    go_region
    all_goals
      go_wp2_with fail
      go_region
    all_goals
      go_wp2_with fail
      go_ret
      first | exact retD_mk (by rw [HL.out]; rfl) 0 | exact retD_mk (by rw [HL.out]; rfl) 1 | exact retD_mk (by rw [HL.out]; rfl) 2
  · have HL := hid_ (lessI_eq (x := ⟨xk, xa⟩) (y := ⟨yk, ya⟩) e)
    by_cases ek : xk < yk
    · have e1 : decide (xa < ya) = false := decide_eq_false (by omega)
      have e2 : decide ((xa : Int) < (ya : Int)) = false := decide_eq_false (by omega)
      have e3 : (xa == ya) = true := beq_iff_eq.2 e
      have e4 : ((xa : Int) == (ya : Int)) = true := beq_iff_eq.2 (by omega)
      have e5 : decide (xk < yk) = true := decide_eq_true ek
      have e6 : decide ((xk : Int) < (yk : Int)) = true := decide_eq_true (by omega)
      have HL := hid_ (HL.out.trans e5)
      clear ek
      clear h hn hi hj hki hkj e
      dsimp only at *
      go_enter Try.func127, Try.ntmps127
      go_wp2_with fail
      go_region
      all_goals
        go_wp2_with fail
        go_region
      all_goals
        go_wp2_with fail
        go_ret
        first | exact retD_mk (by rw [HL.out]; rfl) 0 | exact retD_mk (by rw [HL.out]; rfl) 1 | exact retD_mk (by rw [HL.out]; rfl) 2
    · have e1 : decide (xa < ya) = false := decide_eq_false (by omega)
      have e2 : decide ((xa : Int) < (ya : Int)) = false := decide_eq_false (by omega)
      have e3 : (xa == ya) = true := beq_iff_eq.2 e
      have e4 : ((xa : Int) == (ya : Int)) = true := beq_iff_eq.2 (by omega)
      have e5 : decide (xk < yk) = false := decide_eq_false ek
      have e6 : decide ((xk : Int) < (yk : Int)) = false := decide_eq_false (by omega)
      have HL := hid_ (HL.out.trans e5)
      clear ek
      clear h hn hi hj hki hkj e
      dsimp only at *
      go_enter Try.func127, Try.ntmps127
      go_wp2_with fail
      go_region
      all_goals
        go_wp2_with fail
        go_region
      all_goals
        go_wp2_with fail
        go_ret
        first | exact retD_mk (by rw [HL.out]; rfl) 0 | exact retD_mk (by rw [HL.out]; rfl) 1 | exact retD_mk (by rw [HL.out]; rfl) 2
  · have HL := hid_ (lessI_gt (x := ⟨xk, xa⟩) (y := ⟨yk, ya⟩) hkj e)
    have e1 : decide (xa < ya) = false := decide_eq_false (by omega)
    have e2 : decide ((xa : Int) < (ya : Int)) = false := decide_eq_false (by omega)
    have e3 : (xa == ya) = false := beq_eq_false_iff_ne.2 (by omega)
    have e4 : ((xa : Int) == (ya : Int)) = false := beq_eq_false_iff_ne.2 (by omega)
    clear h hn hi hj hki hkj e
    dsimp only at *
    go_enter Try.func127, Try.ntmps127
    go_wp2_with fail
    go_region
    all_goals
      go_wp2_with fail
      go_region
    all_goals
      go_wp2_with fail
      go_ret
      first | exact retD_mk (by rw [HL.out]; rfl) 0 | exact retD_mk (by rw [HL.out]; rfl) 1 | exact retD_mk (by rw [HL.out]; rfl) 2
/-- Swap's answer. -/
def SwapPost (w : World) (a n c : Nat) (l : List ItD) (e : Ending) (w' : World) : Prop := e = .returned (.tuple #[]) ∧ Its w' a n c l ∧ Tn (ItQ a l) w w'
set_option maxHeartbeats 4000000 in
theorem swap_any {w : World} {a n c : Nat} {l : List ItD} (h : Its w a n c l) {i j : Nat} (hi : i < l.length) (hj : j < l.length) (hij : i ≠ j) :
    Calls Try.prog 128 #[.slice (some ⟨a, 0, none⟩) n c, .int .i64 (i : Nat), .int .i64 (j : Nat)] w (SwapPost w a n c (swapL l i j)) := by
  have hn := h.len
  obtain ⟨c0, x0, x1, c3⟩ := its_at h hi
  obtain ⟨d0, y0, y1, d3⟩ := its_at h hj
  clear x0 x1 y0 y1
  have f0 := own_free h.row
  have fi := (h.it i hi).free
  have fj := (h.it j hj).free
  have m1 : i < n := by omega
  have m2 : j < n := by omega
  have m3 : (i : Int) < (n : Int) := by omega
  have m4 : (j : Int) < (n : Int) := by omega
  have m5 : (0 : Int) ≤ (i : Int) := by omega
  have m6 : (0 : Int) ≤ (j : Int) := by omega
  have HS := hid_ (fun W hW => And.intro (h.swap hi hj hij W hW) (And.intro (tn_swap (w := w) (a := a) hi hj) (fun q => itq_perm (a := a) (swapL_perm hi hj) q)))
  have hai : a ≠ l[i].blk := fun e => h.an (e ▸ List.mem_map.2 ⟨_, List.getElem_mem hi, rfl⟩)
  have haj : a ≠ l[j].blk := fun e => h.an (e ▸ List.mem_map.2 ⟨_, List.getElem_mem hj, rfl⟩)
  have hbl := blk_ne h.nd hi hj hij
  generalize l[i].blk = p at *
  generalize l[j].blk = q at *
  clear h hn hi hj
  go_enter Try.func128, Try.ntmps128
  go_wp2_with fail
  go_region
  go_wp2_with fail
  go_region
  go_wp2_with fail
  go_end0
  have H := HS.out (swapW w a i j p q).drew.drew (fun _ => rfl)
  exact ⟨rfl, H.1, (H.2.1.drew.drew).sub (fun x hx => (H.2.2 x).2 hx)⟩
end Ti
end Go.Proofs.Ytpcmlopbkehffaa

/-
  container/heap's up at the items.
-/
namespace Go.Proofs.Ytpcmlopbkehffaa
set_option linter.unusedSimpArgs false
set_option linter.unusedVariables false
open Go.RowKit Go.Shelf
namespace Ti
set_option linter.unusedSimpArgs false
set_option linter.unusedVariables false
theorem load_items {w : World} {g : Nat} {A : Option Addr} {n c : Nat} (h : w.cell? ⟨g, 0, none⟩ = some (.slice A n c)) : (loadVar 59 ⟨g, 0, none⟩).run Try.prog w = .ok (.slice A n c) w := by
  simp [go_sem, h]
theorem finds_len {w : World} {g : Nat} {A : Option Addr} {n c : Nat} (h : w.cell? ⟨g, 0, none⟩ = some (.slice A n c)) (N : Nat) : Sem.run Try.prog (method (N + 1) 115 (.pointer (some ⟨g, 0, none⟩)) "Len") w = .ok (126, .slice A n c) w := by
  have h0 : Sem.run Try.prog (method (N + 1) 115 (.pointer (some ⟨g, 0, none⟩)) "Len") w = Sem.run Try.prog (do let s ← loadVar 59 ⟨g, 0, none⟩; pure (126, s)) w := by kernel_rfl
  rw [h0]
  simp [go_sem, h]
theorem finds_less {w : World} {g : Nat} {A : Option Addr} {n c : Nat} (h : w.cell? ⟨g, 0, none⟩ = some (.slice A n c)) (N : Nat) : Sem.run Try.prog (method (N + 1) 115 (.pointer (some ⟨g, 0, none⟩)) "Less") w = .ok (127, .slice A n c) w := by
  have h0 : Sem.run Try.prog (method (N + 1) 115 (.pointer (some ⟨g, 0, none⟩)) "Less") w = Sem.run Try.prog (do let s ← loadVar 59 ⟨g, 0, none⟩; pure (127, s)) w := by kernel_rfl
  rw [h0]
  simp [go_sem, h]
theorem finds_swap {w : World} {g : Nat} {A : Option Addr} {n c : Nat} (h : w.cell? ⟨g, 0, none⟩ = some (.slice A n c)) (N : Nat) : Sem.run Try.prog (method (N + 1) 115 (.pointer (some ⟨g, 0, none⟩)) "Swap") w = .ok (128, .slice A n c) w := by
  have h0 : Sem.run Try.prog (method (N + 1) 115 (.pointer (some ⟨g, 0, none⟩)) "Swap") w = Sem.run Try.prog (do let s ← loadVar 59 ⟨g, 0, none⟩; pure (128, s)) w := by kernel_rfl
  rw [h0]
  simp [go_sem, h]
theorem finds_push (w : World) (g N : Nat) : Sem.run Try.prog (method (N + 1) 115 (.pointer (some ⟨g, 0, none⟩)) "Push") w = .ok (130, .pointer (some ⟨g, 0, none⟩)) w := by kernel_rfl
theorem finds_pop (w : World) (g N : Nat) : Sem.run Try.prog (method (N + 1) 115 (.pointer (some ⟨g, 0, none⟩)) "Pop") w = .ok (129, .pointer (some ⟨g, 0, none⟩)) w := by kernel_rfl
theorem enters_len : ∀ args w, (callFunc 126 args).run Try.prog w = .ok (.enter 126 args) w := enters_of Try.func126 (by kernel_rfl) rfl
theorem enters_less : ∀ args w, (callFunc 127 args).run Try.prog w = .ok (.enter 127 args) w := enters_of Try.func127 (by kernel_rfl) rfl
theorem enters_swap : ∀ args w, (callFunc 128 args).run Try.prog w = .ok (.enter 128 args) w := enters_of Try.func128 (by kernel_rfl) rfl
theorem enters_push : ∀ args w, (callFunc 130 args).run Try.prog w = .ok (.enter 130 args) w := enters_of Try.func130 (by kernel_rfl) rfl
theorem enters_pop : ∀ args w, (callFunc 129 args).run Try.prog w = .ok (.enter 129 args) w := enters_of Try.func129 (by kernel_rfl) rfl
/-- The items in the row that block g's first cell names. -/
structure ItsIn (w : World) (g a n c : Nat) (l : List ItD) : Prop where
  its : Its w a n c l
  cell : w.cell? ⟨g, 0, none⟩ = some (.slice (some ⟨a, 0, none⟩) n c)
  gq : ¬ ItQ a l g
  keys : ∀ k (h : k < l.length), l[k].due.key < 18446744073709551616
theorem ItsIn.drewN {w : World} {g a n c : Nat} {l : List ItD} (h : ItsIn w g a n c l) (k : Nat) : ItsIn (w.drewN k) g a n c l := ⟨h.its.drewN k, h.cell, h.gq, h.keys⟩
theorem keys_perm {l l' : List ItD} (hp : l'.Perm l) (h : ∀ k (h : k < l.length), l[k].due.key < 18446744073709551616) : ∀ k (h : k < l'.length), l'[k].due.key < 18446744073709551616 := by
  intro k hk
  have hm := hp.mem_iff.1 (List.getElem_mem hk)
  obtain ⟨j, hj, e⟩ := List.mem_iff_getElem.1 hm
  rw [← e]
  exact h j hj
theorem ItsIn.moved {w w' : World} {g a n c : Nat} {l l' : List ItD} (h : ItsIn w g a n c l) (hI : Its w' a n c l') (hp : l'.Perm l) (ht : Tn (ItQ a l) w w') : ItsIn w' g a n c l' :=
  ⟨hI, by
    have hb := ht.block g (lt_of_cell h.cell) h.gq
    have h1 := h.cell
    rw [World.cell?] at h1 ⊢
    rw [hb]
    exact h1, fun e => h.gq ((itq_perm hp g).1 e), keys_perm hp h.keys⟩
/-- What lies behind a walk of up or down: the same items elsewhere among the first N, the rest as it was. -/
structure Moved (w : World) (g a n c N : Nat) (l : List ItD) (w' : World) (l' : List ItD) : Prop where
  it : ItsIn w' g a n c l'
  perm : l'.Perm l
  rest : ∀ k, N ≤ k → l'[k]? = l[k]?
  tn : Tn (ItQ a l) w w'
theorem Moved.len {w w' : World} {g a n c N : Nat} {l l' : List ItD} (h : Moved w g a n c N l w' l') : l'.length = l.length := h.perm.length_eq
theorem Moved.refl {w : World} {g a n c : Nat} (N : Nat) {l : List ItD} (h : ItsIn w g a n c l) : Moved w g a n c N l w l := ⟨h, List.Perm.refl _, fun _ _ => rfl, Tn.refl _ _⟩
theorem Moved.drewN {w w' : World} {g a n c N : Nat} {l l' : List ItD} (h : Moved w g a n c N l w' l') (k : Nat) : Moved w g a n c N l (w'.drewN k) l' := ⟨h.it.drewN k, h.perm, h.rest, h.tn.drewN k⟩
theorem Moved.swap {w w' w2 : World} {g a n c N : Nat} {l l' : List ItD} (h : Moved w g a n c N l w' l') {i j : Nat} (hi : i < N) (hj : j < N) (hN : N ≤ l.length) (hI : Its w2 a n c (swapL l' i j)) (ht : Tn (ItQ a (swapL l' i j)) w' w2) : Moved w g a n c N l w2 (swapL l' i j) := by
  have hl := h.len
  have hp := swapL_perm (l := l') (i := i) (j := j) (by omega) (by omega)
  have ht2 : Tn (ItQ a l') w' w2 := ht.sub fun q hq => (itq_perm hp q).1 hq
  refine ⟨h.it.moved hI hp ht2, hp.trans h.perm, fun k hk => ?_, h.tn.trans ht2 fun q hq => .inl ((itq_perm h.perm q).1 hq)⟩
  rw [swapL_get (by omega) (by omega), if_neg (by omega), if_neg (by omega)]
  exact h.rest k hk
theorem Moved.trans {w w1 w2 : World} {g a n c N : Nat} {l l1 l2 : List ItD} (h : Moved w g a n c N l w1 l1) (k : Moved w1 g a n c N l1 w2 l2) : Moved w g a n c N l w2 l2 :=
  ⟨k.it, k.perm.trans h.perm, fun i hi => (k.rest i hi).trans (h.rest i hi), h.tn.trans k.tn fun q hq => .inl ((itq_perm h.perm q).1 hq)⟩
/-- up's answer. -/
def UpPost (w : World) (g a n c N : Nat) (l : List ItD) (e : Ending) (w' : World) : Prop := e = .returned (.tuple #[]) ∧ ∃ l', Moved w g a n c N l w' l' ∧ HeapV (V l') N
theorem upPost_mk {w w' : World} {g a n c N : Nat} {l l' : List ItD} (h : Moved w g a n c N l w' l') (hh : HeapV (V l') N) : UpPost w g a n c N l (.returned (.tuple #[])) w' := ⟨rfl, l', h, hh⟩
abbrev hpV (g : Nat) : Value := .iface 115 (.pointer (some ⟨g, 0, none⟩))
theorem wrap64_small {p : Nat} (h : p ≤ 1000000000) : wrap64 (p : Int) = (p : Int) := by
  unfold wrap64
  omega
set_option maxHeartbeats 400000 in
set_option maxRecDepth 100000 in
theorem up_any {w : World} {g a n c : Nat} {l : List ItD} (h : ItsIn w g a n c l) {N j : Nat} (hj : j < N) (hN : N ≤ l.length) (hm : n ≤ 1000000000) (hu : UpOk (V l) N j) :
    Calls Try.prog 60 #[hpV g, .int .i64 (j : Nat)] w (UpPost w g a n c N l) := by
  have H0 := hid_ (Moved.refl N h)
  have HU := hid_ hu
  have eL := enters_less
  have eS := enters_swap
  have hn := h.its.len
  clear h hu
  go_enter Try.func60, Try.ntmps60
  go_wp2_with fail
  go_loopw [1] (fun v1 wr => ∃ (k : Nat) (lr : List ItD), v1 = .int .i64 k ∧ k < N ∧ Hid (Moved w g a n c N l wr lr) ∧ Hid (UpOk (V lr) N k)) (fun v1 _ => (intOf v1).toNat)
  case atStart => exact ⟨j, l, by go_num, hj, H0, HU⟩
  case round =>
    obtain ⟨k, lr, rfl, hk, HM, HK⟩ := hrel
    by_cases hk0 : k = 0
    · subst hk0
      go_wp2_with fail
      go_end0
      exact upPost_mk HM.out (up_done HK.out (.inl rfl))
    · obtain ⟨p, hpp⟩ : ∃ p, p = par k := ⟨_, rfl⟩
      have HPP := hid_ hpp
      have hlr := HM.out.len
      have hpk : p < k := by rw [hpp]; unfold par; omega
      have hkl : k < lr.length := by omega
      have hpl : p < lr.length := by omega
      have q1 : Int.tdiv ((k : Int) - 1) 2 = (p : Int) := by
        rw [show ((k : Int) - 1) = ((k - 1 : Nat) : Int) by omega, hpp]
        unfold par
        rfl
      have q2 : (1 : Int) ≤ (k : Int) := by omega
      have q3 : ((p : Int) == (k : Int)) = false := beq_eq_false_iff_ne.2 (by omega)
      have q4 : (p == k) = false := beq_eq_false_iff_ne.2 (by omega)
      have q5 : wrap64 (p : Int) = (p : Int) := wrap64_small (by omega)
      have mL := finds_less HM.out.it.cell
      have HLC := hid_ (less_any HM.out.it.its hkl hpl (HM.out.it.keys k hkl) (HM.out.it.keys p hpl))
      have mS := fun q => finds_swap (HM.out.it.drewN q).cell
      have HSC := hid_ (fun q => swap_any (HM.out.it.drewN q).its hpl hkl (by omega : p ≠ k))
      have HV := hid_ (show lessI lr[k].due lr[p].due = decide (V lr k < V lr (par k)) by rw [← hpp, V_at hkl, V_at hpl]; rfl)
      have HPL := hid_ hpl
      have HKL := hid_ hkl
      have HPK := hid_ hpk
      clear hpp hlr
      generalize lessI lr[k].due lr[p].due = b at *
      clear hpl hkl hpk
      cases b
      · go_wp2_with (go_at_fn 127; (with_reducible refine HLC.out.mono ?_); rintro e w1 ⟨rfl, q, rfl⟩)
        go_end0
        exact upPost_mk (HM.out.drewN _) (up_done HK.out (.inr (by have := of_decide_eq_false HV.out.symm; omega)))
      · go_wp2_with (first
          | (go_at_fn 127; (with_reducible refine HLC.out.mono ?_); rintro e w1 ⟨rfl, q, rfl⟩)
          | (go_at_fn 128; (with_reducible refine (HSC.out _).mono ?_); rintro e w2 ⟨rfl, hsw⟩; have HSW := hid_ hsw; clear hsw))
        go_roundw
        case rel =>
          refine ⟨p, _, by go_num, by have := HPK.out; omega, hid_ ((HM.out.drewN _).swap (by have := HPK.out; omega) hk hN HSW.out.1 HSW.out.2), hid_ ?_⟩
          have hlt : V lr k < V lr (par k) := of_decide_eq_true HV.out.symm
          rw [swapL_V HPL.out HKL.out, HPP.out]
          exact up_step HK.out (by omega) hk hlt
        case measure => have := HPK.out; simp [intOf]; omega
end Ti
end Go.Proofs.Ytpcmlopbkehffaa
