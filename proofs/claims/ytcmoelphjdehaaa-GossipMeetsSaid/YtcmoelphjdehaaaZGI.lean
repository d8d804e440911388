/-
  What the reference's Spans (of layer 3 and of layer 5) and rise answer.
-/
import Derived.Test.YtcmoelphjdehaaaZGH
namespace Go.Proofs.Ytcmoelphjdehaaa
set_option linter.unusedSimpArgs false
set_option linter.unusedVariables false
open Go.RowKit Ru

/-- Two lists alike, item by item. -/
def eqF {α : Type} (f : α → α → Bool) : List α → List α → Bool
  | [], [] => true
  | a :: l, b :: m => f a b && eqF f l m
  | _, _ => false
theorem eqF_len {α : Type} (f : α → α → Bool) : ∀ (l m : List α), l.length ≠ m.length → eqF f l m = false
  | [], [], h => absurd rfl h
  | [], _ :: _, _ => rfl
  | _ :: _, [], _ => rfl
  | a :: l, b :: m, h => by
    rw [eqF, eqF_len f l m (by simpa using h), Bool.and_false]
theorem eqF_bad {α : Type} (f : α → α → Bool) : ∀ (l m : List α) (k : Nat) (h1 : k < l.length) (h2 : k < m.length), f l[k] m[k] = false → eqF f l m = false
  | [], _, _, h1, _, _ => absurd h1 (by simp)
  | _ :: _, [], _, _, h2, _ => absurd h2 (by simp)
  | a :: l, b :: m, 0, _, _, h => by
    rw [eqF, show f a b = false from h]
    rfl
  | a :: l, b :: m, k + 1, h1, h2, h => by
    rw [eqF, eqF_bad f l m k (by simpa using h1) (by simpa using h2) h, Bool.and_false]
theorem eqF_good {α : Type} (f : α → α → Bool) : ∀ (l m : List α), l.length = m.length → (∀ k (h1 : k < l.length) (h2 : k < m.length), f l[k] m[k] = true) → eqF f l m = true
  | [], [], _, _ => rfl
  | [], _ :: _, h, _ => by simp at h
  | _ :: _, [], h, _ => by simp at h
  | a :: l, b :: m, h, g => by
    rw [eqF, show f a b = true from g 0 (by simp) (by simp), Bool.true_and]
    exact eqF_good f l m (by simpa using h) fun k h1 h2 => g (k + 1) (by simpa using h1) (by simpa using h2)
def inF (n : Nat) : Bool := decide (1 ≤ n) && decide (n ≤ 16)
theorem in_cases (n : Nat) : (n < 1 ∧ inF n = false) ∨ (1 ≤ n ∧ 16 < n ∧ inF n = false) ∨ (1 ≤ n ∧ n ≤ 16 ∧ inF n = true) := by
  unfold inF
  by_cases h1 : 1 ≤ n
  · by_cases h2 : n ≤ 16
    · exact .inr (.inr ⟨h1, h2, by rw [decide_eq_true h1, decide_eq_true h2]; rfl⟩)
    · exact .inr (.inl ⟨h1, by omega, by rw [decide_eq_false h2]; simp⟩)
  · exact .inl ⟨by omega, by rw [decide_eq_false h1]; rfl⟩
/-- The reference's rise of numbers. -/
def riseF (l : List Nat) : Bool := risesF l && inF l.length
end Go.Proofs.Ytcmoelphjdehaaa

/-
  What the reference's Spans and Members of layer 5 answer.
-/
namespace Go.Proofs.Ytcmoelphjdehaaa
set_option linter.unusedSimpArgs false
set_option linter.unusedVariables false
open Go.RowKit Ru

def spansR (tr : Nat) (ss : List SpanD) : Bool := spansF tr ss && inF ss.length
theorem spansR_bad {tr : Nat} {ss : List SpanD} (h : spansF tr ss = false) : spansR tr ss = false := by unfold spansR; rw [h]; rfl
theorem spansF_dup {tr : Nat} {ss : List SpanD} {i j : Nat} (hi : i < ss.length) (hj : j < ss.length) (hij : j < i) (h : ss[j].id = ss[i].id) : spansF tr ss = false := by
  unfold spansF
  rw [decide_eq_false, Bool.and_false]
  intro hn
  have h2 := List.pairwise_iff_getElem.1 hn j i (by simpa using hj) (by simpa using hi) hij
  simp at h2
  exact h2 h
theorem spansF_all {tr : Nat} {ss : List SpanD} (h1 : ∀ j (hj : j < ss.length), okSpan tr ss[j] = true) (h2 : ∀ i j (hi : i < ss.length) (hj : j < ss.length), j < i → ss[j].id ≠ ss[i].id) : spansF tr ss = true := by
  unfold spansF
  rw [List.all_eq_true.2 fun s h => by
    obtain ⟨j, hj, rfl⟩ := List.getElem_of_mem h
    exact h1 j hj, decide_eq_true]
  · rfl
  · refine List.pairwise_iff_getElem.2 fun i j hi hj hij => ?_
    simp at hi hj
    simp
    exact h2 j i hj hi hij
def membersR (ms : List MemberD) : Bool := membersF ms && inF ms.length
theorem memsR_bad {ms : List MemberD} {m : MemberD} (hm : m ∈ ms) (h : okMem m = false) : membersR ms = false := by
  unfold membersR
  rw [mems_bad hm h]
  rfl
theorem memsR_no {ms : List MemberD} (h : risesF (ms.map MemberD.id) = false) : membersR ms = false := by
  unfold membersR membersF
  rw [h]
  simp
set_option maxRecDepth 20000 in
set_option maxHeartbeats 8000000 in
theorem refmembers_any (A : Option Addr) (n c : Nat) (l : List MemberD) (w : World) (hs : MemRow w A n c l) :
    Calls Try.prog 90 #[.slice A n c] w (BoolIs w (membersR l)) := by
  obtain rfl := hs.len
  have Hs := hid_ hs
  have hle := hs.cap
  have hmx := hs.max
  have Hbad := hid_ (fun s (h : s ∈ l) (h2 : okMem s = false) => memsR_bad h h2)
  clear hs
  go_enter Try.func90, Try.ntmps90
  go_wp2_with fail
  go_loopw [3] (fun vi wr => ∃ k a : Nat, k ≤ l.length ∧ vi = .int .i64 (k : Nat) ∧ Hid (∀ j (hj : j < l.length), j < k → okMem l[j] = true) ∧ Hid (risesF (l.map MemberD.id) = risesFrom a ((l.map MemberD.id).drop k)) ∧ Hid (k = 0 → a = 0) ∧ Hid (∀ j (hj : j < l.length), k = j + 1 → l[j].id = a) ∧ Hid (Below w.heap.size w wr)) (fun vi _ => l.length - (intOf vi).toNat)
  case atStart => exact ⟨0, 0, Nat.zero_le _, rfl, hid_ (fun j _ h => absurd h (by omega)), hid_ rfl, hid_ (fun _ => rfl), hid_ (fun j _ h => by omega), hid_ (Below.refl _ _)⟩
  case round =>
    obtain ⟨k, a, hk, rfl, Hg, Hr, H0, H1, Hw⟩ := hrel
    by_cases hlt : k < l.length
    · obtain ⟨b, off, rfl, hc⟩ := (Hs.out.below Hw.out).at_ hlt
      obtain ⟨c0, c1, c2⟩ := hc
      have hbl := lt_of_cell c0
      have hbl : b < wr.heap.size := hbl
      have Hd := hid_ (show (l.map MemberD.id).drop k = l[k].id :: (l.map MemberD.id).drop (k + 1) by rw [List.drop_eq_getElem_cons (by simpa using hlt)]; simp)
      have x1 : (k : Int) < (l.length : Int) := by omega
      have x2 : (0 : Int) ≤ (k : Int) := by omega
      have Hno := hid_ (fun (h : l[k].id ≤ a) => memsR_no (by rw [Hr.out, Hd.out, rises_no h]))
      have Hyes := hid_ (fun (h : a < l[k].id) => show risesF (l.map MemberD.id) = risesFrom l[k].id ((l.map MemberD.id).drop (k + 1)) by rw [Hr.out, Hd.out, rises_yes h])
      have Hlast := hid_ (show ∀ j (hj : j < l.length), k + 1 = j + 1 → l[j].id = l[k].id from fun j hj h => by
        obtain rfl : j = k := by omega
        rfl)
      have Hb := hid_ (Hbad.out l[k] (List.getElem_mem hlt))
      have Hn := hid_ (fun (h : okMem l[k] = true) => show ∀ j (hj : j < l.length), j < k + 1 → okMem l[j] = true from fun j hj h2 => by
        by_cases e : j = k
        · subst e; exact h
        · exact Hg.out j hj (by omega))
      have Hw1 := hid_ (fun (o : Obj) => show Below w.heap.size w (wr.alloc o) from Hw.out.alloc Hw.out.size _)
      have Hok := hid_ (show okMem l[k] = (decide (0 < l[k].inc) && (decide (0 ≤ l[k].state) && decide (l[k].state ≤ 2))) from rfl)
      generalize okMem l[k] = ok at *
      have Hprev := hid_ (fun i (hi : i < l.length) (e : k = i + 1) => show wr.cell? ⟨b, off + i * 3, none⟩ = some (.int .u64 (a : Nat)) by
        obtain ⟨b2, off2, e2, hc⟩ := (Hs.out.below Hw.out).at_ hi
        injection e2 with e2
        injection e2 with e3 e4
        subst e3 e4
        rw [← H1.out i hi e]
        exact hc.c0)
      generalize l[k] = s at *
      by_cases h0 : s.id = 0
      · have Hf := hid_ (Hno.out (by omega))
        have e0 : ((s.id : Int) == 0) = true := by rw [beq_iff_eq]; omega
        clear h0
        go_wp2_with fail
        go_quiet (fail)
        go_wp2_with fail
        go_ret
        exact boolIs_mk Hf.out (below_drewN (Hw1.out _) _)
      have e0 : ((s.id : Int) == 0) = false := by rw [beq_eq_false_iff_ne]; omega
      by_cases h1 : s.inc = 0
      · have Hf := hid_ (Hb.out (by rw [Hok.out, decide_eq_false (by omega)]; rfl))
        have e1 : (((s.inc : Nat) : Int) == 0) = true := by rw [beq_iff_eq]; omega
        clear h1 h0
        go_wp2_with fail
        go_quiet (fail)
        go_wp2_with fail
        go_ret
        exact boolIs_mk Hf.out (below_drewN (Hw1.out _) _)
      have e1 : (((s.inc : Nat) : Int) == 0) = false := by rw [beq_eq_false_iff_ne]; omega
      by_cases h2 : s.state < 0
      · have Hf := hid_ (Hb.out (by rw [Hok.out, decide_eq_false (show ¬ 0 ≤ s.state by omega)]; simp))
        have e2 : decide (s.state < 0) = true := decide_eq_true h2
        clear h1 h0
        go_wp2_with fail
        go_quiet (fail)
        go_wp2_with fail
        go_ret
        exact boolIs_mk Hf.out (below_drewN (Hw1.out _) _)
      have e2 : decide (s.state < 0) = false := decide_eq_false h2
      by_cases h3 : 2 < s.state
      · have Hf := hid_ (Hb.out (by rw [Hok.out, decide_eq_false (show ¬ s.state ≤ 2 by omega)]; simp))
        have e3 : decide (2 < s.state) = true := decide_eq_true h3
        clear h1 h0
        go_wp2_with fail
        go_quiet (fail)
        go_wp2_with fail
        go_ret
        exact boolIs_mk Hf.out (below_drewN (Hw1.out _) _)
      have e3 : decide (2 < s.state) = false := decide_eq_false h3
      have Hn2 := hid_ (Hn.out (by rw [Hok.out, decide_eq_true (by omega), decide_eq_true (by omega), decide_eq_true (by omega)]; rfl))
      cases k with
      | zero =>
        obtain rfl := H0.out rfl
        have Hf := hid_ (Hyes.out (by omega))
        have e4 : decide (0 < 0) = false := rfl
        simp only [Nat.zero_mul, Nat.add_zero] at c0 c1 c2
        clear h1 h0
        go_wp2_with fail
        go_quiet (fail)
        go_wp2_with fail
        go_roundw
        case rel => exact ⟨1, s.id, by omega, by go_num, Hn2, Hf, hid_ (fun h => by omega), Hlast, hid_ (below_drewN (Hw1.out _) _)⟩
        case measure => simp [intOf] <;> omega
      | succ i =>
        have d0 := Hprev.out i (by omega) rfl
        have hne : b ≠ wr.heap.size := by omega
        have i0 : (0 : Int) ≤ (i : Int) := by omega
        have i1 : (i : Int) < (l.length : Int) := by omega
        have e4 : decide (0 < i + 1) = true := decide_eq_true (by omega)
        by_cases hxa : s.id ≤ a
        · have Hf := hid_ (Hno.out hxa)
          have e5 : decide (s.id ≤ a) = true := decide_eq_true hxa
          clear h1 h0
          go_wp2_with fail
          go_quiet (fail)
          go_wp2_with fail
          go_ret
          exact boolIs_mk Hf.out (below_drewN (Hw1.out _) _)
        · have Hf := hid_ (Hyes.out (by omega))
          have e5 : decide (s.id ≤ a) = false := decide_eq_false hxa
          clear h1 h0
          go_wp2_with fail
          go_quiet (fail)
          go_wp2_with fail
          go_roundw
          case rel => exact ⟨i + 1 + 1, s.id, by omega, by go_num, Hn2, Hf, hid_ (fun h => by omega), Hlast, hid_ (below_drewN (Hw1.out _) _)⟩
          case measure => simp [intOf] <;> omega
    · obtain rfl : k = l.length := by omega
      have Hf := hid_ (show membersR l = inF l.length by
        unfold membersR
        rw [mems_good (fun j hj => Hg.out j hj hj), Hr.out, List.drop_eq_nil_of_le (by simp)]
        rfl)
      rcases in_cases l.length with ⟨h1, h2⟩ | ⟨h1, h3, h2⟩ | ⟨h1, h3, h2⟩
      · have e1 : decide ((1 : Int) ≤ (l.length : Int)) = false := decide_eq_false (by omega)
        have Hf2 := hid_ (Hf.out.trans h2)
        clear h2
        go_wp2_with fail
        go_ret
        exact boolIs_mk Hf2.out Hw.out
      · have e1 : decide ((1 : Int) ≤ (l.length : Int)) = true := decide_eq_true (by omega)
        have e2 : decide ((l.length : Int) ≤ 16) = false := decide_eq_false (by omega)
        have Hf2 := hid_ (Hf.out.trans h2)
        clear h2
        go_wp2_with fail
        go_ret
        exact boolIs_mk Hf2.out Hw.out
      · have e1 : decide ((1 : Int) ≤ (l.length : Int)) = true := decide_eq_true (by omega)
        have e2 : decide ((l.length : Int) ≤ 16) = true := decide_eq_true (by omega)
        have Hf2 := hid_ (Hf.out.trans h2)
        clear h2
        go_wp2_with fail
        go_ret
        exact boolIs_mk Hf2.out Hw.out
end Go.Proofs.Ytcmoelphjdehaaa

/-
  What the reference's Same of two packets answers.
-/
namespace Go.Proofs.Ytcmoelphjdehaaa
set_option linter.unusedSimpArgs false
set_option linter.unusedVariables false
open Go.RowKit Ru

def sameM (a b : MemberD) : Bool := decide (a.id = b.id) && (decide (a.inc = b.inc) && decide (a.state = b.state))
set_option maxRecDepth 100000 in
theorem mem_equalIn (a b : MemberD) (w : World) : (Op.equalIn 10000 82 (memVal a) (memVal b)).run Try.prog w = .ok (sameM a b) w := by
  rw [run_equalIn_agg w 9999 82 _ _ (by kernel_rfl) (by kernel_rfl)]
  simp [Program.fieldsOf, Try.underlying82, Op.eqFields, part, go_sem]
  simp only [Int.ofNat_inj]
  unfold sameM
  repeat' split
  all_goals simp_all
theorem mem_neq (a b : MemberD) (w : World) : (binOp .neq 82 (memVal a) (memVal b)).run Try.prog w = .ok (.bool (!sameM a b)) w := by
  rw [run_neq_struct, mem_equalIn]
  rfl
def eqB (a b c d : Nat) : Bool := decide (a = c) && decide (b = d)
set_option maxRecDepth 100000 in
theorem ballot_equalIn2 (a b c d : Nat) (w : World) : (Op.equalIn 10000 196 (.agg #[.int .u64 (a : Nat), .int .u64 (b : Nat)]) (.agg #[.int .u64 (c : Nat), .int .u64 (d : Nat)])).run Try.prog w = .ok (eqB a b c d) w := by
  rw [run_equalIn_agg w 9999 196 _ _ (by kernel_rfl) (by kernel_rfl)]
  simp [Program.fieldsOf, Try.underlying196, Op.eqFields, part, go_sem]
  simp only [Int.ofNat_inj]
  unfold eqB
  repeat' split
  all_goals simp_all
theorem ballot_eql (a b c d : Nat) (w : World) : (binOp .eql 196 (.agg #[.int .u64 (a : Nat), .int .u64 (b : Nat)]) (.agg #[.int .u64 (c : Nat), .int .u64 (d : Nat)])).run Try.prog w = .ok (.bool (eqB a b c d)) w := by
  rw [run_eql_struct, ballot_equalIn2]
  rfl
def scalF (p q : PackD) : Bool := (p.kind == q.kind) && (((p.trace : Int) == (q.trace : Int)) && (eqB p.bn p.bnode q.bn q.bnode && (eqB p.sn p.snode q.sn q.snode && ((p.v == q.v) && (p.ok == q.ok)))))
def eqN (a b : Nat) : Bool := ((a : Int) == (b : Int))
def sameP (p q : PackD) : Bool := eqF sameF p.spans q.spans && (eqF sameM p.members q.members && (eqF eqN p.ids q.ids && scalF p q))
theorem same_no1 {p q : PackD} (h : eqF sameF p.spans q.spans = false) : sameP p q = false := by unfold sameP; rw [h]; rfl
theorem same_no2 {p q : PackD} (h : eqF sameM p.members q.members = false) : sameP p q = false := by unfold sameP; rw [h]; simp
theorem same_no3 {p q : PackD} (h : eqF eqN p.ids q.ids = false) : sameP p q = false := by unfold sameP; rw [h]; simp
theorem same_yes {p q : PackD} (h1 : eqF sameF p.spans q.spans = true) (h2 : eqF sameM p.members q.members = true) (h3 : eqF eqN p.ids q.ids = true) : sameP p q = scalF p q := by unfold sameP; rw [h1, h2, h3]; rfl
abbrev packBox (W : World) (g : Nat) (p : PackD) (s : PackS) : Prop := Whole W g 200 (packCells p s)

end Go.Proofs.Ytcmoelphjdehaaa
