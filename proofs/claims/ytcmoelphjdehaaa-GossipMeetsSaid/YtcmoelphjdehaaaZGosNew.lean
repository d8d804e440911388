/-
  A new node; what View hands out.
-/
import Derived.Test.YtcmoelphjdehaaaZGG1
import Derived.Test.YtcmoelphjdehaaaZShClone
namespace Go.Proofs.Ytcmoelphjdehaaa
set_option linter.unusedSimpArgs false
set_option linter.unusedVariables false
open Go.RowKit Ru Vw
namespace Gs
set_option linter.unusedSimpArgs false
set_option linter.unusedVariables false
theorem nd_new (w : World) (self inc period wait now : Nat) (hok : newOk self inc period wait = true) (h1 : self < 18446744073709551616) (h2 : inc < 18446744073709551616) (h3 : now < 18446744073709551616) :
    Nd (((w.alloc (.cells #[.int .u64 (self : Nat), .int .u64 (inc : Nat), .int .i64 0] 82)).alloc (.map #[] 0)).alloc (.cells (cellsN w.heap.size 1 1 (w.heap.size + 1) (newD self inc period wait now)) 134)) (w.heap.size + 2) (fun q => w.heap.size ≤ q ∧ q ≤ w.heap.size + 2) (newD self inc period wait now) := by
  refine ⟨new_ok hok h1 h2 h3, ⟨by omega, by omega⟩, fun q hq => by simp; omega, w.heap.size, 1, 1, w.heap.size + 1, .map [], ⟨by omega, by omega⟩, ⟨by omega, by omega⟩, whole_at _ _ _ _ (by simp), ?_, ?_, by omega, by omega, by omega⟩
  · have h := Enc.own_litK (E := memE) (e := 82) w [⟨self, inc, 0⟩] #[.int .u64 (self : Nat), .int .u64 (inc : Nat), .int .i64 0] rfl 1 rfl (by decide) 0 (Nat.zero_le _)
    exact (h.later (((Below.refl _ _).alloc (Nat.le_refl _) _).alloc (by simp) _))
  · have h := hmap_new (w.alloc (.cells #[.int .u64 (self : Nat), .int .u64 (inc : Nat), .int .i64 0] 82))
    simp only [World.size_alloc] at h
    exact h.stands (Below.heap_alloc _ _ _ (by simp))
/-- What New answers. -/
def NewPost (w : World) (self inc period wait now : Nat) (e : Ending) (w' : World) : Prop :=
  (newOk self inc period wait = false ∧ e = .returned (.tuple #[.pointer none, .int .i64 1]) ∧ w = w') ∨
  (newOk self inc period wait = true ∧ ∃ g Q, e = .returned (.tuple #[.pointer (some ⟨g, 0, none⟩), .int .i64 0]) ∧ Nd w' g Q (newD self inc period wait now) ∧ (∀ q, Q q → w.heap.size ≤ q) ∧ Below w.heap.size w w')
theorem newPost_no {w : World} {self inc period wait now : Nat} (h : newOk self inc period wait = false) : NewPost w self inc period wait now (.returned (.tuple #[.pointer none, .int .i64 1])) w := .inl ⟨h, rfl, rfl⟩
set_option maxHeartbeats 8000000 in
theorem new_any (self inc period wait now : Nat) (w : World) (h1 : self < 18446744073709551616) (h2 : inc < 18446744073709551616) (h3 : now < 18446744073709551616) :
    Calls Try.prog 39 #[.int .u64 (self : Nat), .int .u64 (inc : Nat), .int .u64 (period : Nat), .int .u64 (wait : Nat), .int .u64 (now : Nat)] w (NewPost w self inc period wait now) := by
  have HL1 := hid_ (lasts_any period w)
  have HL2 := hid_ (lasts_any wait w)
  have HDef := hid_ (show newOk self inc period wait = (decide (self ≠ 0) && (decide (inc ≠ 0) && ((decide (1 ≤ period) && decide (period ≤ 1099511627776)) && (decide (1 ≤ wait) && decide (wait ≤ 1099511627776))))) from rfl)
  have HNew := hid_ (fun (hok : newOk self inc period wait = true) => show NewPost w self inc period wait now (.returned (.tuple #[.pointer (some ⟨w.heap.size + 2, 0, none⟩), .int .i64 0])) (((w.alloc (.cells #[.int .u64 (self : Nat), .int .u64 (inc : Nat), .int .i64 0] 82)).alloc (.map #[] 0)).alloc (.cells (cellsN w.heap.size 1 1 (w.heap.size + 1) (newD self inc period wait now)) 134)) from
    .inr ⟨hok, _, _, rfl, nd_new w self inc period wait now hok h1 h2 h3, fun q hq => hq.1, (((Below.refl w.heap.size w).alloc (Nat.le_refl _) _).alloc (by simp) _).alloc (by simp only [World.size_alloc]; omega) _⟩)
  have HNo := hid_ (fun (h : newOk self inc period wait = false) => newPost_no (w := w) (now := now) h)
  generalize (decide (1 ≤ period) && decide (period ≤ 1099511627776)) = p1 at *
  generalize (decide (1 ≤ wait) && decide (wait ≤ 1099511627776)) = p2 at *
  have hmm := @run_makeMap Try.prog
  by_cases e1 : self = 0
  · have f1 : (self == 0) = true := by rw [beq_iff_eq]; exact e1
    have f2 : ((self : Int) == 0) = true := by rw [beq_iff_eq]; omega
    have HE := hid_ (HNo.out (by rw [HDef.out]; simp [e1]))
    clear e1 HNo HNew HDef
    go_enter Try.func39, Try.ntmps39
    go_wp2_with fail
    go_ret2
    exact HE.out
  have f1 : (self == 0) = false := by rw [beq_eq_false_iff_ne]; exact e1
  have f2 : ((self : Int) == 0) = false := by rw [beq_eq_false_iff_ne]; omega
  by_cases e2 : inc = 0
  · have f3 : (inc == 0) = true := by rw [beq_iff_eq]; exact e2
    have f4 : ((inc : Int) == 0) = true := by rw [beq_iff_eq]; omega
    have HE := hid_ (HNo.out (by rw [HDef.out]; simp [e2]))
    clear e1 e2 HNo HNew HDef
    go_enter Try.func39, Try.ntmps39
    go_wp2_with fail
    go_ret2
    exact HE.out
  have f3 : (inc == 0) = false := by rw [beq_eq_false_iff_ne]; exact e2
  have f4 : ((inc : Int) == 0) = false := by rw [beq_eq_false_iff_ne]; omega
  cases p1
  · have HE := hid_ (HNo.out (by rw [HDef.out]; simp))
    clear e1 e2 HNo HNew HDef
    go_enter Try.func39, Try.ntmps39
    go_wp2_with fail
    refine Calls.mono HL1.out ?_
    rintro e w1 ⟨rfl, rfl⟩
    go_wp2_with fail
    go_ret2
    exact HE.out
  cases p2
  · have HE := hid_ (HNo.out (by rw [HDef.out]; simp))
    clear e1 e2 HNo HNew HDef
    go_enter Try.func39, Try.ntmps39
    go_wp2_with fail
    refine Calls.mono HL1.out ?_
    rintro e w1 ⟨rfl, rfl⟩
    go_wp2_with fail
    refine Calls.mono HL2.out ?_
    rintro e w1 ⟨rfl, rfl⟩
    go_wp2_with fail
    go_ret2
    exact HE.out
  have HE := hid_ (HNew.out (by rw [HDef.out]; simp [e1, e2]))
  clear e1 e2 HNo HNew HDef
  go_enter Try.func39, Try.ntmps39
  go_wp2_with fail
  refine Calls.mono HL1.out ?_
  rintro e w1 ⟨rfl, rfl⟩
  go_wp2_with fail
  refine Calls.mono HL2.out ?_
  rintro e w1 ⟨rfl, rfl⟩
  go_wp2_with fail
  go_ret2
  exact HE.out
theorem info_memC : (Try.prog.info? 82).map (fun i => (i.zero, i.size, i.bytes)) = some (some (.agg #[.int .u64 0, .int .u64 0, .int .i64 0]), 3, 24) := by kernel_rfl
/-- What View answers. -/
def ViewPost (w : World) (ms : List MemberD) (e : Ending) (w' : World) : Prop := ∃ A c, e = .returned (.slice A ms.length c) ∧ MemRow w' A ms.length c ms ∧ (∀ a, A = some a → w.heap.size ≤ a.block) ∧ Below w.heap.size w w'
theorem clone_any (A : Option Addr) (n c : Nat) (ss : List MemberD) (w : World) (hs : MemRow w A n c ss) (hn : n ≤ 1000000) (hne : ss ≠ []) :
    Calls Try.prog 82 #[.slice A n c] w (ViewPost w ss) := by
  obtain ⟨i0, hi0, hz0, hz1, hz2⟩ := info_parts info_memC
  obtain rfl := hs.len
  obtain ⟨b, o, rfl, -⟩ := hs.holds hne
  refine Calls.mono (AnyE.slices_Clone Sh.cloneMembers i0 _ 3 24 hi0 hz0 hz1 hz2 rfl (by omega) (fun w => by kernel_rfl) b o ss.length c (memsAll ss) w (by rw [memsAll_length]) (by unfold maxLen; omega) (by omega) (fun j u hu => ?_) (memsAll_one ss)) ?_
  · obtain ⟨b2, o2, e, hc⟩ := hs.cells (by rintro hh; rw [hh] at hu; simp at hu)
    cases e
    exact hc j u hu
  · rintro e w' ⟨v', rfl, ho, _, hb⟩
    obtain ⟨A', c', rfl, -⟩ := own_form ho
    have h1 : memE.Own 82 w.heap.size w' A' ss.length c' ss := ho
    exact ⟨A', c', rfl, memRow_of_enc h1.row, fun a e => own_from ho a.block (by rw [e]; rfl), hb⟩
theorem view_nil (w : World) : Calls Try.prog 42 #[.pointer none] w (fun e w' => e = .returned (.slice none 0 0) ∧ w = w') := by
  have HN := hid_ (none_nil w)
  go_enter Try.func42, Try.ntmps42
  go_wp2_with fail
  refine Calls.mono HN.out ?_
  rintro e w1 ⟨rfl, rfl⟩
  go_wp2_with fail
  go_ret
  exact ⟨rfl, rfl⟩
theorem nok_pos {d : NodeD} (h : NOk d) : d.ms ≠ [] := by
  obtain ⟨m, hm, _⟩ := h.has
  rintro e
  rw [e] at hm
  simp at hm
set_option maxHeartbeats 4000000 in
theorem view_any (g : Nat) (Q : Nat → Prop) (d : NodeD) (w : World) (h : Nd w g Q d) :
    Calls Try.prog 42 #[.pointer (some ⟨g, 0, none⟩)] w (ViewPost w d.ms) := by
  obtain ⟨a, n, c, b, D, qa, qb, hin⟩ := h.mem
  obtain ⟨c0, -, -, -, -, -, c6, -, -⟩ := nd_facts hin.cells
  have HN := hid_ (none_any g d.self w c0 h.ok.self0)
  have hl := rightV_len h.ok.right
  have HC := hid_ (clone_any _ n c d.ms w (memRow_of_enc hin.row.row) (by have := hin.row.len; omega) (nok_pos h.ok))
  clear h hin qa qb hl
  go_enter Try.func42, Try.ntmps42
  go_wp2_with fail
  refine Calls.mono HN.out ?_
  rintro e w1 ⟨rfl, rfl⟩
  go_wp2_with fail
  refine Calls.mono HC.out ?_
  rintro e w1 ⟨A', c', rfl, hr, ha, hb⟩
  have HF := hid_ (And.intro hr (And.intro ha hb))
  clear hr ha hb
  go_wp2_with fail
  go_ret
  exact ⟨A', c', rfl, HF.out.1, HF.out.2.1, HF.out.2.2⟩
end Gs
end Go.Proofs.Ytcmoelphjdehaaa
