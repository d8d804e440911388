/-
  The chapter's example; are operations few?
-/
import Derived.Test.YtcmoelphjdehaaaZGG3
import Derived.Test.YtcmoelphjdehaaaZGosOpen
namespace Go.Proofs.Ytcmoelphjdehaaa
set_option linter.unusedSimpArgs false
set_option linter.unusedVariables false
open Go.RowKit Ru Vw
namespace Gs
set_option linter.unusedSimpArgs false
set_option linter.unusedVariables false
theorem mem_eqlG (a b : MemberD) (w : World) : (binOp .eql 82 (memVal a) (memVal b)).run Try.prog w = .ok (.bool (sameM a b)) w := by
  rw [run_eql_struct, mem_equalIn]
  rfl
/-- A node that is the call's own, from block B on. -/
structure NdB (B : Nat) (w0 w : World) (g : Nat) (Q : Nat → Prop) (d : NodeD) : Prop where
  nd : Nd w g Q d
  below : Below B w0 w
  own : ∀ q, Q q → B ≤ q
  base : B ≤ w0.heap.size
theorem NdB.post {B : Nat} {w0 w w' : World} {g : Nat} {Q : Nat → Prop} {d d' : NodeD} {R : World → Value → Prop} {e : Ending} (h : NdB B w0 w g Q d) (k : NdPost w g Q R d' e w') : ∃ v, e = .returned v ∧ R w' v ∧ ∃ Q', NdB B w0 w' g Q' d' ∧ Tn Q w w' ∧ ∀ q, Q' q → Q q ∨ w.heap.size ≤ q := by
  obtain ⟨v, he, hr, Q', h1, ht, hq⟩ := k
  have hs := h.below.size
  have hb := h.base
  refine ⟨v, he, hr, Q', ⟨h1, Tn.below h.below ht h.own (by omega), fun q hq2 => ?_, h.base⟩, ht, hq⟩
  rcases hq q hq2 with h5 | h5
  · exact h.own q h5
  · omega
theorem NdB.later {B : Nat} {w0 w w' : World} {g : Nat} {Q : Nat → Prop} {d : NodeD} (h : NdB B w0 w g Q d) (k : Below w.heap.size w w') : NdB B w0 w' g Q d :=
  ⟨h.nd.below k, h.below.trans (k.mono (Nat.le_trans h.base h.below.size)), h.own, h.base⟩
theorem NdB.row_low {B : Nat} {w0 w : World} {g : Nat} {Q : Nat → Prop} {d : NodeD} (h : NdB B w0 w g Q d) {A : Option Addr} {n c : Nat} {l : List MemberD} (hl : MemRow w0 A n c l) (hB : w0.heap.size ≤ B) : ∀ a, A = some a → l ≠ [] → ¬ Q a.block := by
  intro a e hne hq
  obtain ⟨b, off, e2, hc⟩ := hl.cells (Enc.all_ne memE hne)
  rw [e] at e2
  cases e2
  have h1 : b < w0.heap.size := by
    obtain ⟨x, t, hx⟩ := List.exists_cons_of_ne_nil (Enc.all_ne memE hne)
    exact lt_of_cell (hc 0 x (by show (memE.all l)[0]? = _; rw [hx]; rfl))
  have := h.own _ hq
  simp only at this
  omega
theorem NdB.row_new {B : Nat} {w0 w : World} {g : Nat} {Q : Nat → Prop} {d : NodeD} (h : NdB B w0 w g Q d) (x : Nat) (hx : w.heap.size ≤ x) : ¬ Q x := fun hq => by have := h.nd.qlt x hq; omega
def aliveL : List MemberD := [⟨1, 1, 1⟩, ⟨2, 1, 0⟩]
theorem alive_wf : ∀ m ∈ aliveL, m.Wf := by
  intro m hm
  unfold aliveL at hm
  rcases List.mem_cons.1 hm with rfl | hm
  · exact ⟨by simp only; omega, by simp only; omega, by simp only; omega, by simp only; omega⟩
  · rw [List.mem_singleton] at hm
    subst hm
    exact ⟨by simp only; omega, by simp only; omega, by simp only; omega, by simp only; omega⟩
theorem alive_k : hearK (newD 1 1 5 10 0) aliveL = 0 := by
  have h1 : rightV aliveL = true := by decide
  have h2 : mgF (newD 1 1 5 10 0).ms aliveL = [⟨1, 1, 1⟩, ⟨2, 1, 0⟩] := by simp [mgF, newD, aliveL, putM, joinM, newerB]
  unfold hearK
  rw [if_pos h1, h2]
  rfl
theorem alive_ms : (hearD (newD 1 1 5 10 0) 2 aliveL 1).ms = [⟨1, 2, 0⟩, ⟨2, 1, 0⟩] ∧ (hearD (newD 1 1 5 10 0) 2 aliveL 1).self = 1 := by
  have h2 : mgF (newD 1 1 5 10 0).ms aliveL = [⟨1, 1, 1⟩, ⟨2, 1, 0⟩] := by simp [mgF, newD, aliveL, putM, joinM, newerB]
  unfold hearD
  rw [if_pos alive_k]
  unfold heardD
  rw [h2]
  refine ⟨?_, rfl⟩
  simp [objF, objects, newD]
set_option maxRecDepth 20000 in
set_option maxHeartbeats 8000000 in
theorem alive_any (w : World) : Calls Try.prog 41 #[] w (BoolIs w true) := by
  have HNw := hid_ (show Calls Try.prog 39 #[.int .u64 1, .int .u64 1, .int .u64 5, .int .u64 10, .int .u64 0] w (NewPost w 1 1 5 10 0) from new_any 1 1 5 10 0 w (by omega) (by omega) (by omega))
  have kn : ∀ w, (binOp .eql 82 (.agg #[.int .u64 1, .int .u64 2, .int .i64 0]) (.agg #[.int .u64 1, .int .u64 2, .int .i64 0])).run Try.prog w = .ok (.bool true) w := fun w => mem_eqlG ⟨1, 2, 0⟩ ⟨1, 2, 0⟩ w
  go_enter Try.func41, Try.ntmps41
  go_wp2_with fail
  refine Calls.mono HNw.out ?_
  rintro e w1 h1
  rcases h1 with ⟨h1, -, -⟩ | ⟨-, g, Q, rfl, hnd, hown, hb⟩
  · exact absurd h1 (by decide)
  have HN := hid_ (show NdB w.heap.size w w1 g Q (newD 1 1 5 10 0) from ⟨hnd, hb, hown, Nat.le_refl _⟩)
  have HN2 := hid_ (HN.out.later ((Below.refl _ _).alloc (Nat.le_refl _) (.cells #[.int .u64 1, .int .u64 1, .int .i64 1, .int .u64 2, .int .u64 1, .int .i64 0] 82)))
  have HRow := hid_ (show MemRow (w1.alloc (.cells #[.int .u64 1, .int .u64 1, .int .i64 1, .int .u64 2, .int .u64 1, .int .i64 0] 82)) (some ⟨w1.heap.size, 0, none⟩) 2 2 aliveL from
    memRow_of_enc (Enc.own_litK (E := memE) (e := 82) w1 aliveL _ rfl 2 rfl (by decide) 0 (Nat.zero_le _)).row)
  have HH := hid_ (show Calls Try.prog 43 #[.pointer (some ⟨g, 0, none⟩), .int .u64 2, .slice (some ⟨w1.heap.size, 0, none⟩) 2 2, .int .u64 1] _ _ from
    hear_any g Q _ 2 1 _ 2 2 aliveL _ HN2.out.nd HRow.out alive_wf (fun a e _ hq => by cases e; exact HN.out.row_new _ (Nat.le_refl _) hq) (by omega))
  clear hnd hown hb
  go_wp2_with fail
  refine Calls.mono HH.out ?_
  rintro e w2 h2
  obtain ⟨v, rfl, hv, Q2, h3, -, -⟩ := HN2.out.post h2
  obtain rfl : v = .int .i64 0 := by rw [← alive_k]; exact hv
  have HN3 := hid_ h3
  have HS := hid_ (show Calls Try.prog 49 #[.pointer (some ⟨g, 0, none⟩)] w2 (RetB w2.heap.size w2 (.agg #[.int .u64 1, .int .u64 2, .int .i64 0])) from self_any g Q2 _ w2 h3.nd ⟨1, 2, 0⟩ (by rw [alive_ms.1]; simp) (by rw [alive_ms.2]))
  clear h2 hv h3
  go_wp2_with fail
  refine Calls.mono HS.out ?_
  rintro e w3 ⟨rfl, hb3⟩
  have HN4 := hid_ (HN3.out.later hb3)
  have HV := hid_ (view_any g Q2 _ w3 HN4.out.nd)
  clear hb3
  go_wp2_with fail
  refine Calls.mono HV.out ?_
  rintro e w4 ⟨A4, c4, rfl, -, -, hb4⟩
  have hl : (hearD (newD 1 1 5 10 0) 2 aliveL 1).ms.length = 2 := by rw [alive_ms.1]; rfl
  rw [hl]
  have HF := hid_ (HN4.out.later hb4).below
  clear hb4 hl
  go_wp2_with fail
  go_ret
  exact boolIs_mk rfl HF.out
def lightF (l : List OpD) : Bool := decide (l.length ≤ 60) && l.all (fun o => decide (o.l.length ≤ 100))
theorem light_no {l : List OpD} {k : Nat} (hk : k < l.length) (h : 100 < l[k].l.length) : lightF l = false := by
  unfold lightF
  rw [List.all_eq_false.2 ⟨l[k], List.getElem_mem hk, by simp; omega⟩, Bool.and_false]
theorem light_yes {l : List OpD} (h1 : l.length ≤ 60) (h : ∀ j (hj : j < l.length), l[j].l.length ≤ 100) : lightF l = true := by
  unfold lightF
  rw [decide_eq_true h1, Bool.true_and, List.all_eq_true]
  intro o ho
  obtain ⟨j, hj, rfl⟩ := List.getElem_of_mem ho
  simpa using h j hj
theorem light_facts {l : List OpD} (h : lightF l = true) : l.length ≤ 60 ∧ ∀ o ∈ l, o.l.length ≤ 100 := by
  unfold lightF at h
  simp only [Bool.and_eq_true, decide_eq_true_eq, List.all_eq_true] at h
  exact h
set_option maxRecDepth 20000 in
set_option maxHeartbeats 4000000 in
theorem light_any (A : Option Addr) (n c : Nat) (l : List OpD) (w : World) (h : OpRow w A n c l) : Calls Try.prog 40 #[.slice A n c] w (RetV w (.bool (lightF l))) := by
  have hn := h.len
  have hcm := Nat.le_trans h.cap h.max
  have H := hid_ h
  clear h
  by_cases hbig : 60 < n
  · have e1 : decide ((n : Int) > 60) = true := decide_eq_true (by omega)
    have e2 : decide ((60 : Int) < (n : Int)) = true := decide_eq_true (by omega)
    have e3 : decide (60 < n) = true := decide_eq_true hbig
    have HR := hid_ (show lightF l = false by unfold lightF; rw [decide_eq_false (by omega), Bool.false_and])
    clear hbig hn
    go_enter Try.func40, Try.ntmps40
    go_wp2_with fail
    go_ret
    exact retV_mk (by rw [HR.out]; rfl)
  · have e1 : decide ((n : Int) > 60) = false := decide_eq_false (by omega)
    have e2 : decide ((60 : Int) < (n : Int)) = false := decide_eq_false (by omega)
    have e3 : decide (60 < n) = false := decide_eq_false hbig
    have Hn := hid_ hn
    have Hbg := hid_ hbig
    clear hbig hn
    go_enter Try.func40, Try.ntmps40
    go_wp2_with fail
    go_loopw [3] (fun vi wr => ∃ k : Nat, k ≤ n ∧ vi = .int .i64 (k : Nat) ∧ Hid (∀ j (hj : j < l.length), j < k → l[j].l.length ≤ 100) ∧ w = wr) (fun vi _ => n - (intOf vi).toNat)
    case atStart => exact ⟨0, Nat.zero_le _, rfl, hid_ (fun j _ h => absurd h (by omega)), rfl⟩
    case round =>
      obtain ⟨k, hk, rfl, HG, rfl⟩ := hrel
      by_cases hlt : k < n
      · have hkl : k < l.length := by rw [Hn.out]; exact hlt
        obtain ⟨g, off, B, c', rfl, ho⟩ := H.out.at_ hkl
        have c3 := ho.c3
        have i0 : (0 : Int) ≤ (k : Int) := by omega
        have i1 : (k : Int) < (n : Int) := by omega
        have HK := hid_ hlt
        have HGn := hid_ (fun (h : l[k].l.length ≤ 100) => show ∀ j (hj : j < l.length), j < k + 1 → l[j].l.length ≤ 100 from fun j hj h2 => by
          by_cases e : j = k
          · subst e; exact h
          · exact HG.out j hj (by omega))
        have HNo := hid_ (light_no hkl)
        generalize l[k].l.length = m at *
        clear ho hkl hlt
        by_cases hm : 100 < m
        · have f1 : decide ((m : Int) > 100) = true := decide_eq_true (by omega)
          have f2 : decide ((100 : Int) < (m : Int)) = true := decide_eq_true (by omega)
          have f3 : decide (100 < m) = true := decide_eq_true hm
          have HR := hid_ (HNo.out hm)
          clear hm HNo HGn
          go_wp2_with fail
          go_ret
          exact retV_mk (by rw [HR.out]; rfl)
        · have f1 : decide ((m : Int) > 100) = false := decide_eq_false (by omega)
          have f2 : decide ((100 : Int) < (m : Int)) = false := decide_eq_false (by omega)
          have f3 : decide (100 < m) = false := decide_eq_false hm
          have HR := hid_ (HGn.out (by omega))
          clear hm HNo HGn
          go_wp2_with fail
          go_roundw
          case rel => exact ⟨k + 1, by have := HK.out; omega, by go_num, HR, trivial⟩
          case measure => have := HK.out; simp [intOf]; omega
      · obtain rfl : k = n := by omega
        have HR := hid_ (show lightF l = true from light_yes (by have := Hn.out; have := Hbg.out; omega) (fun j hj => HG.out j hj (by have := Hn.out; omega)))
        clear hlt
        go_wp2_with fail
        go_ret
        exact retV_mk (by rw [HR.out]; rfl)
end Gs
end Go.Proofs.Ytcmoelphjdehaaa
