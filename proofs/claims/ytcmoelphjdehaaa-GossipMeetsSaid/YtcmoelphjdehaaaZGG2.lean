/-
  Who was heard when: note.
-/
import Derived.Test.YtcmoelphjdehaaaZGG1
import Derived.StillTailTactics
namespace Go.Proofs.Ytcmoelphjdehaaa
set_option linter.unusedSimpArgs false
set_option linter.unusedVariables false
open Go.RowKit Ru Vw
namespace Gs
set_option linter.unusedSimpArgs false
set_option linter.unusedVariables false
def withHeard (d : NodeD) (h : Nat → Option Nat) : NodeD := { d with heard := h }
theorem NdIn.noted {w w' : World} {g a n c b : Nat} {d : NodeD} {D D' : DataW Value} {h : Nat → Option Nat} (hi : NdIn w g a n c b d D) (hg : w.grownBy w' (some b)) (hm : HMap w' b h D') : NdIn w' g a n c b (withHeard d h) D' :=
  ⟨(hg.block g hi.cells.lt (fun e => hi.bg (by injection e with e; exact e.symm))).trans hi.cells, own_stands hi.row (hg.block a hi.alt (fun e => hi.ab (by injection e))), hm, hi.ag, hi.bg, hi.ab⟩
theorem step_no1 {self frm time : Nat} {h : Nat → Option Nat} {m : MemberD} (e : m.id = self) : noteStep self frm time h m = h := by
  unfold noteStep
  rw [if_neg (fun h => h.1 e)]
theorem step_no2 {self frm time : Nat} {h : Nat → Option Nat} {m : MemberD} (e : m.id ≠ frm) (e2 : (h m.id).isSome = true) : noteStep self frm time h m = h := by
  unfold noteStep
  rw [if_neg (fun h3 => h3.2.elim e (fun h4 => by rw [h4] at e2; cases e2))]
theorem step_yes {self frm time : Nat} {h : Nat → Option Nat} {m : MemberD} (e : m.id ≠ self) (e2 : m.id = frm ∨ h m.id = none) : noteStep self frm time h m = (fun x => if x = m.id then some time else h x) := by
  unfold noteStep
  rw [if_pos ⟨e, e2⟩]
theorem fold_dom {self frm time : Nat} {ms : List MemberD} {h : Nat → Option Nat} (hd : ∀ id, (h id).isSome = true → ∃ m ∈ ms, m.id = id) : ∀ (l : List MemberD), (∀ m ∈ l, m ∈ ms) → ∀ id, (l.foldl (noteStep self frm time) h id).isSome = true → ∃ m ∈ ms, m.id = id := by
  intro l
  induction l generalizing h with
  | nil => intro _ id hid; exact hd id hid
  | cons x t ih =>
    intro hm id hid
    refine ih (h := noteStep self frm time h x) (fun id hid => ?_) (fun m hmt => hm m (by simp [hmt])) id hid
    by_cases e : x.id = id
    · exact ⟨x, hm x (by simp), e⟩
    · rw [noteStep_other e] at hid
      exact hd id hid
set_option maxRecDepth 20000 in
set_option maxHeartbeats 16000000 in
theorem note_any (g : Nat) (Q : Nat → Prop) (d : NodeD) (frm : Nat) (w : World) (h : Nd w g Q d) :
    Calls Try.prog 85 #[.pointer (some ⟨g, 0, none⟩), .int .u64 (frm : Nat)] w (NdPost w g Q NoAns (notedD d frm)) := by
  obtain ⟨a, n, c, b, D, qa, qb, hin⟩ := h.mem
  have hlen := hin.row.len
  have hcap := hin.row.row.cap
  have hmax := hin.row.row.max
  have h16 := rightV_len h.ok.right
  have HLen := hid_ hlen
  have HWf := hid_ (fun m (hm : m ∈ d.ms) => (h.ok.wf m hm).id)
  have HIn := hid_ hin
  have hfold := fold_note (self := d.self) (frm := frm) (time := d.time) d.ms (right_rising h.ok.right) d.heard
  have HEnd := hid_ (fun (W : World) (D' : DataW Value) (hi : NdIn W g a n c b (withHeard d (d.ms.foldl (noteStep d.self frm d.time) d.heard)) D') (ht : Tn Q w W) => show NdPost w g Q NoAns (notedD d frm) (.returned (.tuple #[])) W from
    ndPost_mk rfl (nd_of h qa qb ht.size hi (show NOk (withHeard d (d.ms.foldl (noteStep d.self frm d.time) d.heard)) by rw [hfold]; exact noted_ok h.ok frm)) (by unfold withHeard notedD; rw [hfold]) ht (fun q hq => .inl hq))
  have HSmall := hid_ (fun (W : World) (k : Nat) (D' : DataW Value) (hm : HMap W b ((d.ms.take k).foldl (noteStep d.self frm d.time) d.heard) D') => hm.small (right_rising h.ok.right) (fold_dom (fun id hid => (h.ok.dom id hid).2) (d.ms.take k) (fun m hm => List.mem_of_mem_take hm)))
  have HQ := hid_ (show ∀ j, some b = some j → Q j ∨ w.heap.size ≤ j from fun j e => by injection e with e; subst e; exact .inl qb)
  obtain ⟨c0, -, -, c3, -, -, c6, c7, -⟩ := nd_facts hin.cells
  clear h hin hfold hlen qa qb c0 c3 c7
  go_enter Try.func85, Try.ntmps85
  go_wp2_with fail
  go_loopw [13] (fun vi wr => ∃ (k : Nat) (D' : DataW Value), k ≤ n ∧ vi = .int .i64 (k : Nat) ∧ Hid (NdIn wr g a n c b (withHeard d ((d.ms.take k).foldl (noteStep d.self frm d.time) d.heard)) D') ∧ Hid (Tn Q w wr)) (fun vi _ => n - (intOf vi).toNat)
  case atStart => exact ⟨0, D, Nat.zero_le _, rfl, HIn, hid_ (Tn.refl _ _)⟩
  case round =>
    obtain ⟨k, D', hk, rfl, HN, HT⟩ := hrel
    by_cases hlt : k < n
    · have hkl : k < d.ms.length := by rw [HLen.out]; exact hlt
      obtain ⟨x, y, s, hx⟩ : ∃ x y s, d.ms[k] = (⟨x, y, s⟩ : MemberD) := ⟨_, _, _, rfl⟩
      obtain ⟨a0, a1, a2⟩ := row_cells HN.out.row hkl x y s hx
      have hidB : x < 18446744073709551616 := by have := HWf.out _ (List.getElem_mem hkl); rw [hx] at this; exact this
      have hal := HN.out.alt
      have hgl := HN.out.cells.lt
      have HTk := hid_ (show (d.ms.take (k + 1)).foldl (noteStep d.self frm d.time) d.heard = noteStep d.self frm d.time ((d.ms.take k).foldl (noteStep d.self frm d.time) d.heard) ⟨x, y, s⟩ by
        rw [List.take_succ_eq_append_getElem hkl, List.foldl_append, hx]; rfl)
      have i0 : (0 : Int) ≤ (k : Int) := by omega
      have i1 : (k : Int) < (n : Int) := by omega
      have HSm := hid_ (fun W hm => HSmall.out W k D' hm)
      generalize (d.ms.take k).foldl (noteStep d.self frm d.time) d.heard = hk0 at *
      have b0 : wr.cell? ⟨g, 0, none⟩ = some (.int .u64 (d.self : Nat)) := (nd_facts HN.out.cells).1
      have b3 : wr.cell? ⟨g, 3, none⟩ = some (.int .u64 (d.time : Nat)) := (nd_facts HN.out.cells).2.2.2.1
      have b7 : wr.cell? ⟨g, 7, none⟩ = some (.map (some b)) := (nd_facts HN.out.cells).2.2.2.2.2.2.2.1
      have HN1 := hid_ (HN.out.below ((Below.refl _ _).alloc (Nat.le_refl _) (.cells #[.int .u64 (x : Nat), .int .u64 (y : Nat), .int .i64 s] 82)))
      have HT1 := hid_ (HT.out.alloc (.cells #[.int .u64 (x : Nat), .int .u64 (y : Nat), .int .i64 s] 82))
      have hl : ∀ q, (Instr.lookup 132 (.map (some b)) (.int .u64 (x : Nat)) true).run Try.prog ((wr.alloc (.cells #[.int .u64 (x : Nat), .int .u64 (y : Nat), .int .i64 s] 82)).drewN q) = .ok (.tuple #[.int .u64 ((hk0 x).getD 0 : Nat), .bool (hk0 x).isSome]) ((wr.alloc (.cells #[.int .u64 (x : Nat), .int .u64 (y : Nat), .int .i64 s] 82)).drewN q) := fun q =>
        HMap.look_ok (h := hk0) (HN1.out.map.stands (W' := (wr.alloc (.cells #[.int .u64 (x : Nat), .int .u64 (y : Nat), .int .i64 s] 82)).drewN q) rfl) hidB
      have HKU := hid_ (ku_key hidB)
      have HK := hid_ hlt
      have hn16 : d.ms.length ≤ 16 := h16
      clear hx hidB hkl hlt
      by_cases e1 : x = d.self
      · have q1 : (x != d.self) = false := by simp [e1]
        have q2 : ((x : Int) != (d.self : Int)) = false := by simp [e1]
        have HR := hid_ (HTk.out.trans (step_no1 e1))
        clear e1
        go_wp2_with fail
        go_quiet (fail)
        go_wp2_with fail
        go_quiet (fail)
        go_wp2_with fail
        go_roundw
        case rel => exact ⟨k + 1, D', by have := HK.out; omega, by go_num, hid_ (by rw [HR.out]; exact HN1.out.stands rfl rfl rfl), hid_ (HT1.out.drewN _)⟩
        case measure => have := HK.out; simp [intOf]; omega
      have q1 : (x != d.self) = true := by simp [e1]
      have q2 : ((x : Int) != (d.self : Int)) = true := by rw [bne_iff_ne]; omega
      by_cases e2 : x = frm
      · have q3 : (x == frm) = true := by simp [e2]
        have q4 : ((x : Int) == (frm : Int)) = true := by rw [beq_iff_eq]; omega
        have HR := hid_ (HTk.out.trans (step_yes e1 (.inl e2)))
        clear e1 e2
        go_wp2_with fail
        go_quiet (fail)
        have HS := hid_ (show (((wr.alloc (.cells #[.int .u64 (x : Nat), .int .u64 (y : Nat), .int .i64 s] 82)).drewN nq).cell? ⟨g, 0, none⟩ = some (.int .u64 (d.self : Nat))) ∧ (((wr.alloc (.cells #[.int .u64 (x : Nat), .int .u64 (y : Nat), .int .i64 s] 82)).drewN nq).cell? ⟨g, 3, none⟩ = some (.int .u64 (d.time : Nat))) ∧ (((wr.alloc (.cells #[.int .u64 (x : Nat), .int .u64 (y : Nat), .int .i64 s] 82)).drewN nq).cell? ⟨g, 7, none⟩ = some (.map (some b))) ∧
            (((wr.alloc (.cells #[.int .u64 (x : Nat), .int .u64 (y : Nat), .int .i64 s] 82)).drewN nq).cell? ⟨wr.heap.size, 0, none⟩ = some (.int .u64 (x : Nat))) ∧ NdIn ((wr.alloc (.cells #[.int .u64 (x : Nat), .int .u64 (y : Nat), .int .i64 s] 82)).drewN nq) g a n c b (withHeard d hk0) D' ∧ Tn Q w ((wr.alloc (.cells #[.int .u64 (x : Nat), .int .u64 (y : Nat), .int .i64 s] 82)).drewN nq) ∧ wr.heap.size < ((wr.alloc (.cells #[.int .u64 (x : Nat), .int .u64 (y : Nat), .int .i64 s] 82)).drewN nq).heap.size from
          ⟨((nd_facts HN1.out.cells).1), ((nd_facts HN1.out.cells).2.2.2.1), ((nd_facts HN1.out.cells).2.2.2.2.2.2.2.1), (whole_new wr _ _).cell 0 _ rfl, HN1.out.stands rfl rfl rfl, HT1.out.drewN _, by simp [World.drewN]⟩)
        generalize (wr.alloc (.cells #[.int .u64 (x : Nat), .int .u64 (y : Nat), .int .i64 s] 82)).drewN nq = wq at *
        obtain ⟨p0, p3, p7, pm, -, -, psz⟩ := HS.out
        generalize wr.heap.size = gm at *
        go_wp2_with fail
        go_quiet (fail)
        go_wp2_with fail
        have HZ := hid_ (show ((wq.drewN nq).cell? ⟨g, 3, none⟩ = some (.int .u64 (d.time : Nat))) ∧ ((wq.drewN nq).cell? ⟨g, 7, none⟩ = some (.map (some b))) ∧ ((wq.drewN nq).cell? ⟨gm, 0, none⟩ = some (.int .u64 (x : Nat))) ∧ NdIn (wq.drewN nq) g a n c b (withHeard d hk0) D' ∧ Tn Q w (wq.drewN nq) from
          ⟨p3, p7, pm, HS.out.2.2.2.2.1.stands rfl rfl rfl, HS.out.2.2.2.2.2.1.drewN _⟩)
        clear p0 p3 p7 pm psz b0 b3 b7 HS
        generalize wq.drewN nq = wz at *
        obtain ⟨p3, p7, pm, -, -⟩ := HZ.out
        go_still_tail 10, (by kernel_rfl)
        have HN5 := hid_ (show NdIn wz.drew g a n c b (withHeard d hk0) D' from HZ.out.2.2.2.1.stands rfl rfl rfl)
        have HT5 := hid_ (show Tn Q w wz.drew from HZ.out.2.2.2.2.drew)
        have HO5 := hid_ (HSm.out _ HN5.out.map)
        go_wp2_with (first
          | (at_mapUpdate; refine wpList_mapUpdate_own _ rfl _ _ _ 132 rfl 60 60 keyLawU Try.underlying132 _ b d.ms.length _ rfl HO5.out (by unfold maxLen; omega) _ _ _ rfl rfl HKU.out (.held (.int .u64 (d.time : Nat))) [] rfl ?_; intro w6 hm hg; have HX := hid_ (And.intro hm hg); clear hm hg)
          | fail)
        go_roundw
        case rel => exact ⟨k + 1, D'.put (ku x) (.held (.int .u64 (d.time : Nat))), by have := HK.out; omega, by go_num, hid_ (by rw [HR.out]; exact HN5.out.noted HX.out.2 (HN5.out.map.put x d.time HX.out.1)), hid_ (HT5.out.grown HX.out.2 HQ.out)⟩
        case measure => have := HK.out; simp [intOf]; omega
      have q3 : (x == frm) = false := by rw [beq_eq_false_iff_ne]; exact e2
      have q4 : ((x : Int) == (frm : Int)) = false := by rw [beq_eq_false_iff_ne]; omega
      cases hs : (hk0 x).isSome
      · have HR := hid_ (HTk.out.trans (step_yes e1 (.inr (by cases h : hk0 x with | none => rfl | some t => rw [h] at hs; cases hs))))
        rw [hs] at hl
        clear e1 e2 hs
        go_wp2_with fail
        go_quiet (fail)
        have HS := hid_ (show (((wr.alloc (.cells #[.int .u64 (x : Nat), .int .u64 (y : Nat), .int .i64 s] 82)).drewN nq).cell? ⟨g, 0, none⟩ = some (.int .u64 (d.self : Nat))) ∧ (((wr.alloc (.cells #[.int .u64 (x : Nat), .int .u64 (y : Nat), .int .i64 s] 82)).drewN nq).cell? ⟨g, 3, none⟩ = some (.int .u64 (d.time : Nat))) ∧ (((wr.alloc (.cells #[.int .u64 (x : Nat), .int .u64 (y : Nat), .int .i64 s] 82)).drewN nq).cell? ⟨g, 7, none⟩ = some (.map (some b))) ∧
            (((wr.alloc (.cells #[.int .u64 (x : Nat), .int .u64 (y : Nat), .int .i64 s] 82)).drewN nq).cell? ⟨wr.heap.size, 0, none⟩ = some (.int .u64 (x : Nat))) ∧ NdIn ((wr.alloc (.cells #[.int .u64 (x : Nat), .int .u64 (y : Nat), .int .i64 s] 82)).drewN nq) g a n c b (withHeard d hk0) D' ∧ Tn Q w ((wr.alloc (.cells #[.int .u64 (x : Nat), .int .u64 (y : Nat), .int .i64 s] 82)).drewN nq) ∧ wr.heap.size < ((wr.alloc (.cells #[.int .u64 (x : Nat), .int .u64 (y : Nat), .int .i64 s] 82)).drewN nq).heap.size from
          ⟨((nd_facts HN1.out.cells).1), ((nd_facts HN1.out.cells).2.2.2.1), ((nd_facts HN1.out.cells).2.2.2.2.2.2.2.1), (whole_new wr _ _).cell 0 _ rfl, HN1.out.stands rfl rfl rfl, HT1.out.drewN _, by simp [World.drewN]⟩)
        generalize (wr.alloc (.cells #[.int .u64 (x : Nat), .int .u64 (y : Nat), .int .i64 s] 82)).drewN nq = wq at *
        obtain ⟨p0, p3, p7, pm, -, -, psz⟩ := HS.out
        generalize wr.heap.size = gm at *
        go_wp2_with fail
        go_quiet (fail)
        go_wp2_with fail
        have HZ := hid_ (show ((wq.drewN nq).cell? ⟨g, 3, none⟩ = some (.int .u64 (d.time : Nat))) ∧ ((wq.drewN nq).cell? ⟨g, 7, none⟩ = some (.map (some b))) ∧ ((wq.drewN nq).cell? ⟨gm, 0, none⟩ = some (.int .u64 (x : Nat))) ∧ NdIn (wq.drewN nq) g a n c b (withHeard d hk0) D' ∧ Tn Q w (wq.drewN nq) from
          ⟨p3, p7, pm, HS.out.2.2.2.2.1.stands rfl rfl rfl, HS.out.2.2.2.2.2.1.drewN _⟩)
        clear p0 p3 p7 pm psz b0 b3 b7 HS
        generalize wq.drewN nq = wz at *
        obtain ⟨p3, p7, pm, -, -⟩ := HZ.out
        go_still_tail 10, (by kernel_rfl)
        have HN5 := hid_ (show NdIn wz.drew g a n c b (withHeard d hk0) D' from HZ.out.2.2.2.1.stands rfl rfl rfl)
        have HT5 := hid_ (show Tn Q w wz.drew from HZ.out.2.2.2.2.drew)
        have HO5 := hid_ (HSm.out _ HN5.out.map)
        go_wp2_with (first
          | (at_mapUpdate; refine wpList_mapUpdate_own _ rfl _ _ _ 132 rfl 60 60 keyLawU Try.underlying132 _ b d.ms.length _ rfl HO5.out (by unfold maxLen; omega) _ _ _ rfl rfl HKU.out (.held (.int .u64 (d.time : Nat))) [] rfl ?_; intro w6 hm hg; have HX := hid_ (And.intro hm hg); clear hm hg)
          | fail)
        go_roundw
        case rel => exact ⟨k + 1, D'.put (ku x) (.held (.int .u64 (d.time : Nat))), by have := HK.out; omega, by go_num, hid_ (by rw [HR.out]; exact HN5.out.noted HX.out.2 (HN5.out.map.put x d.time HX.out.1)), hid_ (HT5.out.grown HX.out.2 HQ.out)⟩
        case measure => have := HK.out; simp [intOf]; omega
      · have HR := hid_ (HTk.out.trans (step_no2 (m := ⟨x, y, s⟩) e2 hs))
        rw [hs] at hl
        clear e1 e2 hs
        go_wp2_with fail
        go_quiet (fail)
        have HS := hid_ (show (((wr.alloc (.cells #[.int .u64 (x : Nat), .int .u64 (y : Nat), .int .i64 s] 82)).drewN nq).cell? ⟨g, 0, none⟩ = some (.int .u64 (d.self : Nat))) ∧ (((wr.alloc (.cells #[.int .u64 (x : Nat), .int .u64 (y : Nat), .int .i64 s] 82)).drewN nq).cell? ⟨g, 3, none⟩ = some (.int .u64 (d.time : Nat))) ∧ (((wr.alloc (.cells #[.int .u64 (x : Nat), .int .u64 (y : Nat), .int .i64 s] 82)).drewN nq).cell? ⟨g, 7, none⟩ = some (.map (some b))) ∧
            (((wr.alloc (.cells #[.int .u64 (x : Nat), .int .u64 (y : Nat), .int .i64 s] 82)).drewN nq).cell? ⟨wr.heap.size, 0, none⟩ = some (.int .u64 (x : Nat))) ∧ NdIn ((wr.alloc (.cells #[.int .u64 (x : Nat), .int .u64 (y : Nat), .int .i64 s] 82)).drewN nq) g a n c b (withHeard d hk0) D' ∧ Tn Q w ((wr.alloc (.cells #[.int .u64 (x : Nat), .int .u64 (y : Nat), .int .i64 s] 82)).drewN nq) ∧ wr.heap.size < ((wr.alloc (.cells #[.int .u64 (x : Nat), .int .u64 (y : Nat), .int .i64 s] 82)).drewN nq).heap.size from
          ⟨((nd_facts HN1.out.cells).1), ((nd_facts HN1.out.cells).2.2.2.1), ((nd_facts HN1.out.cells).2.2.2.2.2.2.2.1), (whole_new wr _ _).cell 0 _ rfl, HN1.out.stands rfl rfl rfl, HT1.out.drewN _, by simp [World.drewN]⟩)
        generalize (wr.alloc (.cells #[.int .u64 (x : Nat), .int .u64 (y : Nat), .int .i64 s] 82)).drewN nq = wq at *
        obtain ⟨p0, p3, p7, pm, -, -, psz⟩ := HS.out
        generalize wr.heap.size = gm at *
        go_wp2_with fail
        go_quiet (fail)
        go_wp2_with fail
        go_roundw
        case rel => exact ⟨k + 1, D', by have := HK.out; omega, by go_num, hid_ (by rw [HR.out]; exact HS.out.2.2.2.2.1.stands rfl rfl rfl), hid_ (HS.out.2.2.2.2.2.1.drewN _)⟩
        case measure => have := HK.out; simp [intOf]; omega
    · obtain rfl : k = n := by omega
      have HE := hid_ (HEnd.out wr D' (by have := HN.out; rw [List.take_of_length_le (by have := HLen.out; omega)] at this; exact this) HT.out)
      clear hlt
      go_wp2_with fail
      go_end0
      exact HE.out
end Gs
end Go.Proofs.Ytcmoelphjdehaaa

/-
  Who was silent for too long: judge.
-/
namespace Go.Proofs.Ytcmoelphjdehaaa
set_option linter.unusedSimpArgs false
set_option linter.unusedVariables false
open Go.RowKit Ru Vw
namespace Gs
set_option linter.unusedSimpArgs false
set_option linter.unusedVariables false
/-- The first k of them turned. -/
def mixF (f : MemberD → MemberD) (k : Nat) (l : List MemberD) : List MemberD := (l.take k).map f ++ l.drop k
theorem mix_zero (f : MemberD → MemberD) (l : List MemberD) : mixF f 0 l = l := rfl
theorem mix_all (f : MemberD → MemberD) (l : List MemberD) : mixF f l.length l = l.map f := by unfold mixF; rw [List.take_length, List.drop_length, List.append_nil]
theorem mix_length (f : MemberD → MemberD) (k : Nat) (l : List MemberD) : (mixF f k l).length = l.length := by
  unfold mixF
  rw [List.length_append, List.length_map, List.length_take, List.length_drop]
  omega
theorem mix_get (f : MemberD → MemberD) {k : Nat} {l : List MemberD} (hk : k < l.length) : (mixF f k l)[k]'(by rw [mix_length]; exact hk) = l[k] := by
  unfold mixF
  rw [List.getElem_append_right (by rw [List.length_map, List.length_take]; omega)]
  simp [Nat.min_eq_left (Nat.le_of_lt hk)]
theorem mix_step (f : MemberD → MemberD) {k : Nat} {l : List MemberD} (hk : k < l.length) : mixF f (k + 1) l = (l.take k).map f ++ f l[k] :: l.drop (k + 1) := by
  unfold mixF
  rw [List.take_succ_eq_append_getElem hk, List.map_append]
  simp
theorem mix_same (f : MemberD → MemberD) {k : Nat} {l : List MemberD} (hk : k < l.length) (h : f l[k] = l[k]) : mixF f (k + 1) l = mixF f k l := by
  rw [mix_step f hk, h]
  unfold mixF
  rw [List.drop_eq_getElem_cons hk]
theorem mix_set (f : MemberD → MemberD) {k : Nat} {l : List MemberD} (hk : k < l.length) : (mixF f k l).set k (f l[k]) = mixF f (k + 1) l := by
  rw [mix_step f hk]
  unfold mixF
  rw [List.drop_eq_getElem_cons hk, List.set_append_right _ _ (by rw [List.length_map, List.length_take]; omega)]
  have : k - ((l.take k).map f).length = 0 := by rw [List.length_map, List.length_take]; omega
  rw [this, List.set_cons_zero]
theorem judF_self {self time wait : Nat} {h : Nat → Option Nat} {m : MemberD} (e : m.id = self) : judF self time wait h m = m := if_pos e
theorem judF_else {self time wait : Nat} {h : Nat → Option Nat} {x y : Nat} {s : Int} (e : x ≠ self) : judF self time wait h ⟨x, y, s⟩ = ⟨x, y, nextF s (silentF time h x) wait⟩ := if_neg e
set_option maxRecDepth 20000 in
set_option maxHeartbeats 16000000 in
theorem judge_any (g : Nat) (Q : Nat → Prop) (d : NodeD) (w : World) (h : Nd w g Q d) :
    Calls Try.prog 87 #[.pointer (some ⟨g, 0, none⟩)] w (NdPost w g Q NoAns (judD d)) := by
  obtain ⟨a, n, c, b, D, qa, qb, hin⟩ := h.mem
  have hcap := hin.row.row.cap
  have hmax := hin.row.row.max
  have HLen := hid_ hin.row.len
  have HOk := hid_ h.ok
  have HIn := hid_ hin
  have HEnd := hid_ (fun (W : World) (hi : NdIn W g a n c b (withMs d (d.ms.map (judF d.self d.time d.wait d.heard))) D) (ht : Tn Q w W) => show NdPost w g Q NoAns (judD d) (.returned (.tuple #[])) W from
    ndPost_mk rfl (nd_of h qa qb ht.size hi (show NOk (judD d) from jud_ok h.ok)) rfl ht (fun q hq => .inl hq))
  have HQ := hid_ (show Q a ∨ w.heap.size ≤ a from .inl qa)
  obtain ⟨-, -, -, -, -, -, c6, -, -⟩ := nd_facts hin.cells
  clear h hin qa qb
  go_enter Try.func87, Try.ntmps87
  go_wp2_with fail
  go_loopw [9] (fun vi wr => ∃ k : Nat, k ≤ n ∧ vi = .int .i64 (k : Nat) ∧ Hid (NdIn wr g a n c b (withMs d (mixF (judF d.self d.time d.wait d.heard) k d.ms)) D) ∧ Hid (Tn Q w wr)) (fun vi _ => n - (intOf vi).toNat)
  case atStart => exact ⟨0, Nat.zero_le _, rfl, HIn, hid_ (Tn.refl _ _)⟩
  case round =>
    obtain ⟨k, hk, rfl, HN, HT⟩ := hrel
    by_cases hlt : k < n
    · have hkl : k < d.ms.length := by rw [HLen.out]; exact hlt
      obtain ⟨x, y, s, hx⟩ : ∃ x y s, d.ms[k] = (⟨x, y, s⟩ : MemberD) := ⟨_, _, _, rfl⟩
      have hkm : k < (mixF (judF d.self d.time d.wait d.heard) k d.ms).length := by rw [mix_length]; exact hkl
      have hxm : (mixF (judF d.self d.time d.wait d.heard) k d.ms)[k] = (⟨x, y, s⟩ : MemberD) := by rw [mix_get _ hkl, hx]
      obtain ⟨a0, a1, a2⟩ := row_cells HN.out.row hkm x y s hxm
      have hwf := HOk.out.wf _ (List.getElem_mem hkl)
      have hok := right_ok HOk.out.right _ (List.getElem_mem hkl)
      rw [hx] at hwf hok
      have hst := (ok_iff.1 hok).2
      simp only at hst
      have hidB : x < 18446744073709551616 := hwf.id
      have hal := HN.out.alt
      have hgl := HN.out.cells.lt
      have i0 : (0 : Int) ≤ (k : Int) := by omega
      have i1 : (k : Int) < (n : Int) := by omega
      have b0 : wr.cell? ⟨g, 0, none⟩ = some (.int .u64 (d.self : Nat)) := (nd_facts HN.out.cells).1
      have HN1 := hid_ (HN.out.below ((Below.refl _ _).alloc (Nat.le_refl _) (.cells #[.int .u64 (x : Nat), .int .u64 (y : Nat), .int .i64 s] 82)))
      have HT1 := hid_ (HT.out.alloc (.cells #[.int .u64 (x : Nat), .int .u64 (y : Nat), .int .i64 s] 82))
      have HK := hid_ hlt
      by_cases e1 : x = d.self
      · have q1 : (x != d.self) = false := by simp [e1]
        have q2 : ((x : Int) != (d.self : Int)) = false := by simp [e1]
        have HR := hid_ (mix_same (judF d.self d.time d.wait d.heard) hkl (judF_self (by rw [hx]; exact e1)))
        clear e1 hx hkm hxm hwf hok hst hidB hkl hlt
        go_wp2_with fail
        go_quiet (fail)
        go_wp2_with fail
        go_roundw
        case rel => exact ⟨k + 1, by have := HK.out; omega, by go_num, hid_ (by rw [HR.out]; exact HN1.out.stands rfl rfl rfl), hid_ (HT1.out.drewN _)⟩
        case measure => have := HK.out; simp [intOf]; omega
      have q1 : (x != d.self) = true := by simp [e1]
      have q2 : ((x : Int) != (d.self : Int)) = true := by rw [bne_iff_ne]; omega
      have hje := judF_else (time := d.time) (wait := d.wait) (h := d.heard) (y := y) (s := s) e1
      have hR := mix_set (judF d.self d.time d.wait d.heard) hkl
      rw [hx, hje] at hR
      have hhb : (d.heard x).getD 0 ≤ d.time := by
        rcases hh : d.heard x with _ | t
        · exact Nat.zero_le _
        · exact HOk.out.heardB x t hh
      have htb := HOk.out.timeB
      obtain ⟨sl, hsl⟩ : ∃ sl : Nat, sl = silentF d.time d.heard x := ⟨_, rfl⟩
      have hsub : IntKind.u64.wrap ((d.time : Int) - (((d.heard x).getD 0 : Nat) : Int)) = (sl : Int) := by rw [wrap_u64, hsl]; unfold silentF; omega
      rw [← hsl] at hR
      have HNx := hid_ (fun W => next_any s sl d.wait W hst HOk.out.waitB)
      have HSt := hid_ (fun (W : World) (hi : NdIn W g a n c b (withMs d (mixF (judF d.self d.time d.wait d.heard) k d.ms)) D) => show NdIn (W.setCell ⟨a, k * 3 + 2, none⟩ (.int .i64 (nextF s sl d.wait))) g a n c b (withMs d (mixF (judF d.self d.time d.wait d.heard) (k + 1) d.ms)) D from hR ▸ hi.state hkm x y s hxm (nextF s sl d.wait))
      have HRow := hid_ (fun (W : World) (hi : NdIn W g a n c b (withMs d (mixF (judF d.self d.time d.wait d.heard) k d.ms)) D) => And.intro (row_cells hi.row hkm x y s hxm) (own_free hi.row (k * 3 + 2)))
      have HKB := hid_ hidB
      generalize nextF s sl d.wait = s' at *
      clear e1 hx hkm hxm hwf hok hst hidB hkl hlt hje hR hhb hsl htb
      go_wp2_with fail
      go_quiet (fail)
      go_wp2_with fail
      have HS := hid_ (show (((wr.alloc (.cells #[.int .u64 (x : Nat), .int .u64 (y : Nat), .int .i64 s] 82)).drewN nq).cell? ⟨wr.heap.size, 0, none⟩ = some (.int .u64 (x : Nat))) ∧ (((wr.alloc (.cells #[.int .u64 (x : Nat), .int .u64 (y : Nat), .int .i64 s] 82)).drewN nq).cell? ⟨wr.heap.size, 2, none⟩ = some (.int .i64 s)) ∧ NdIn ((wr.alloc (.cells #[.int .u64 (x : Nat), .int .u64 (y : Nat), .int .i64 s] 82)).drewN nq) g a n c b (withMs d (mixF (judF d.self d.time d.wait d.heard) k d.ms)) D ∧ Tn Q w ((wr.alloc (.cells #[.int .u64 (x : Nat), .int .u64 (y : Nat), .int .i64 s] 82)).drewN nq) from
        ⟨(whole_new wr _ _).cell 0 _ rfl, (whole_new wr _ _).cell 2 _ rfl, HN1.out.stands rfl rfl rfl, HT1.out.drewN _⟩)
      clear a0 a1 a2 b0 HN1 HT1
      generalize (wr.alloc (.cells #[.int .u64 (x : Nat), .int .u64 (y : Nat), .int .i64 s] 82)).drewN nq = wz at *
      generalize wr.heap.size = gm at *
      obtain ⟨m0, m2, hz, -⟩ := HS.out
      obtain ⟨⟨a0, a1, a2⟩, af⟩ := HRow.out wz hz
      have b2 : wz.cell? ⟨g, 2, none⟩ = some (.int .u64 (d.wait : Nat)) := (nd_facts hz.cells).2.2.1
      have b3 : wz.cell? ⟨g, 3, none⟩ = some (.int .u64 (d.time : Nat)) := (nd_facts hz.cells).2.2.2.1
      have b6 : wz.cell? ⟨g, 6, none⟩ = some (.slice (some ⟨a, 0, none⟩) n c) := (nd_facts hz.cells).2.2.2.2.2.2.1
      have b7 : wz.cell? ⟨g, 7, none⟩ = some (.map (some b)) := (nd_facts hz.cells).2.2.2.2.2.2.2.1
      have hl : (Instr.lookup 132 (.map (some b)) (.int .u64 (x : Nat)) false).run Try.prog wz.drew = .ok (.int .u64 ((d.heard x).getD 0 : Nat)) wz.drew := HMap.look (h := d.heard) (hz.map.stands (W' := wz.drew) rfl) HKB.out
      have hnx := HNx.out wz.drew
      have HNX := hid_ hnx
      have HE := hid_ (And.intro (HSt.out wz.drew (hz.stands rfl rfl rfl)) (HS.out.2.2.2.drew))
      generalize (d.heard x).getD 0 = hv at *
      clear hz hnx HSt HRow
      refine wp_region_still_tail 26 (by kernel_rfl) (by kernel_rfl) ?_
      simp only [List.take_succ_cons, List.take_zero, List.drop_succ_cons, List.drop_zero]
      repeat still_step
      still_call (quiet_flip HNX.out)
      repeat still_step
      refine wpStill_nil ?_
      go_wp2_with fail
      go_roundw
      case rel => exact ⟨k + 1, by have := HK.out; omega, by go_num, hid_ HE.out.1, hid_ (HE.out.2.set HQ.out _ _)⟩
      case measure => have := HK.out; simp [intOf]; omega
    · obtain rfl : k = n := by omega
      have HE := hid_ (HEnd.out wr (by have := HN.out; rw [← HLen.out, mix_all] at this; rw [← HLen.out]; exact this) HT.out)
      clear hlt
      go_wp2_with fail
      go_end0
      exact HE.out
end Gs
end Go.Proofs.Ytcmoelphjdehaaa

/-
  Whom to tell: whom.
-/
namespace Go.Proofs.Ytcmoelphjdehaaa
set_option linter.unusedSimpArgs false
set_option linter.unusedVariables false
open Go.RowKit Ru Vw
namespace Gs
set_option linter.unusedSimpArgs false
set_option linter.unusedVariables false
theorem ids_snoc (self : Nat) (l : List MemberD) (m : MemberD) : idsF self (l ++ [m]) = idsF self l ++ (if m.id ≠ self ∧ m.state ≠ 2 then [m.id] else []) := by
  unfold idsF
  rw [List.filter_append, List.map_append]
  by_cases h : m.id ≠ self ∧ m.state ≠ 2
  · rw [if_pos h]; simp [h.1, h.2]
  · rw [if_neg h, List.filter_cons_of_neg (by simpa using h)]
    rfl
theorem gone_snoc (self : Nat) (l : List MemberD) (m : MemberD) : goneIds self (l ++ [m]) = goneIds self l ++ (if m.id ≠ self ∧ m.state = 2 then [m.id] else []) := by
  unfold goneIds
  rw [List.filter_append, List.map_append]
  by_cases h : m.id ≠ self ∧ m.state = 2
  · rw [if_pos h]; simp [h.1, h.2]
  · rw [if_neg h, List.filter_cons_of_neg (by simpa using h)]
    rfl
theorem ids_len (self : Nat) (l : List MemberD) : (idsF self l).length ≤ l.length := by
  unfold idsF
  rw [List.length_map]
  exact List.length_filter_le _ _
theorem gone_len (self : Nat) (l : List MemberD) : (goneIds self l).length ≤ l.length := by
  unfold goneIds
  rw [List.length_map]
  exact List.length_filter_le _ _
abbrev OwnU := Rg.numE.Own 60
/-- Two rows of numbers, in blocks of their own. -/
structure TwoU (B : Nat) (W : World) (A1 : Option Addr) (m1 c1 : Nat) (l1 : List Nat) (A2 : Option Addr) (m2 c2 : Nat) (l2 : List Nat) : Prop where
  o1 : OwnU B W A1 m1 c1 l1
  o2 : OwnU B W A2 m2 c2 l2
  ap : ∀ q, (Value.slice A1 m1 c1).ownBlock = some q → (Value.slice A2 m2 c2).ownBlock ≠ some q
theorem TwoU.later {B : Nat} {W W' : World} {A1 : Option Addr} {m1 c1 : Nat} {l1 : List Nat} {A2 : Option Addr} {m2 c2 : Nat} {l2 : List Nat} (h : TwoU B W A1 m1 c1 l1 A2 m2 c2 l2) (hb : Below W.heap.size W W') : TwoU B W' A1 m1 c1 l1 A2 m2 c2 l2 := ⟨h.o1.later hb, h.o2.later hb, h.ap⟩
theorem TwoU.flip {B : Nat} {W : World} {A1 : Option Addr} {m1 c1 : Nat} {l1 : List Nat} {A2 : Option Addr} {m2 c2 : Nat} {l2 : List Nat} (h : TwoU B W A1 m1 c1 l1 A2 m2 c2 l2) : TwoU B W A2 m2 c2 l2 A1 m1 c1 l1 := ⟨h.o2, h.o1, fun q h2 h1 => h.ap q h1 h2⟩
theorem TwoU.grow {B : Nat} {W W' : World} {A1 : Option Addr} {m1 c1 : Nat} {l1 : List Nat} {A2 : Option Addr} {m2 c2 : Nat} {l2 : List Nat} (h : TwoU B W A1 m1 c1 l1 A2 m2 c2 l2) {A : Option Addr} {m c : Nat} {l : List Nat} (ho : OwnU B W' A m c l) (hg : W.grownBy W' (Value.slice A1 m1 c1).ownBlock)
    (ha : (Value.slice A m c).ownBlock = (Value.slice A1 m1 c1).ownBlock ∨ (Value.slice A m c).ownBlock = some W.heap.size) : TwoU B W' A m c l A2 m2 c2 l2 := by
  refine ⟨ho, h.o2.kept hg ?_, fun q hq h2 => ?_⟩
  · rcases hA : (Value.slice A2 m2 c2).ownBlock with _ | q
    · exact .inl rfl
    · exact .inr fun e => h.ap q e.symm hA
  · rcases ha with e | e
    · exact h.ap q (e ▸ hq) h2
    · rw [e] at hq
      injection hq with hq
      have := (h.o2.from_ q h2).2
      omega
def WhomPost (w : World) (l : List Nat) (e : Ending) (w' : World) : Prop := ∃ A m c, e = .returned (.slice A m c) ∧ Rg.numE.Row w' A m c l ∧ Below w.heap.size w w'
theorem whomPost_mk {w w' : World} {l : List Nat} {A : Option Addr} {m c : Nat} (h : Rg.numE.Row w' A m c l) (hb : Below w.heap.size w w') : WhomPost w l (.returned (.slice A m c)) w' := ⟨A, m, c, rfl, h, hb⟩
theorem info_u : (Try.prog.info? 60).map (fun i => (i.zero, i.size, i.bytes)) = some (some (.int .u64 0), Rg.numE.K, 8) := by kernel_rfl
theorem numU_at (w : World) (g x : Nat) (T : TypeId) (h : g = w.heap.size) : Rg.numE.Row (w.alloc (.cells #[.int .u64 (x : Nat)] T)) (some ⟨g, 0, none⟩) 1 1 [x] := by
  subst h
  exact Enc.row_new (E := Rg.numE) w x _ rfl T
set_option maxRecDepth 20000 in
set_option maxHeartbeats 16000000 in
theorem whom_any (g : Nat) (Q : Nat → Prop) (d : NodeD) (pick : Nat) (w : World) (h : Nd w g Q d) :
    Calls Try.prog 88 #[.pointer (some ⟨g, 0, none⟩), .int .u64 (pick : Nat)] w (WhomPost w (whomF d.self d.ms pick)) := by
  obtain ⟨a, n, c, b, D, qa, qb, hin⟩ := h.mem
  have hcap := hin.row.row.cap
  have hmax := hin.row.row.max
  have h16 := rightV_len h.ok.right
  have HLen := hid_ hin.row.len
  have HIn := hid_ hin
  have HDef := hid_ (show whomF d.self d.ms pick = if goneIds d.self d.ms = [] then idsF d.self d.ms else idsF d.self d.ms ++ [(goneIds d.self d.ms)[pick % (goneIds d.self d.ms).length]?.getD 0] from rfl)
  generalize whomF d.self d.ms pick = res at *
  obtain ⟨-, -, -, -, -, -, c6, -, -⟩ := nd_facts hin.cells
  have hgl0 := hin.cells.lt
  clear h hin qa qb
  go_enter Try.func88, Try.ntmps88
  go_wp2_with fail
  go_loopw [5, 6, 14] (fun v1 v2 vi wr => ∃ (k : Nat) (A1 : Option Addr) (m1 c1 : Nat) (A2 : Option Addr) (m2 c2 : Nat), k ≤ n ∧ vi = .int .i64 (k : Nat) ∧ v1 = .slice A1 m1 c1 ∧ v2 = .slice A2 m2 c2 ∧ m1 ≤ k ∧ m2 ≤ k ∧ Hid (TwoU w.heap.size wr A1 m1 c1 (idsF d.self (d.ms.take k)) A2 m2 c2 (goneIds d.self (d.ms.take k))) ∧ Hid (Below w.heap.size w wr)) (fun _ _ vi _ => n - (intOf vi).toNat)
  case atStart => exact ⟨0, none, 0, 0, none, 0, 0, Nat.zero_le _, rfl, rfl, rfl, Nat.le_refl _, Nat.le_refl _, hid_ ⟨Enc.Own.none _ _, Enc.Own.none _ _, fun q h => by cases h⟩, hid_ (Below.refl _ _)⟩
  case round =>
    obtain ⟨k, A1, m1, c1, A2, m2, c2, hk, rfl, rfl, rfl, hm1, hm2, HO, HB⟩ := hrel
    by_cases hlt : k < n
    · have hkl : k < d.ms.length := by rw [HLen.out]; exact hlt
      obtain ⟨x, y, s, hx⟩ : ∃ x y s, d.ms[k] = (⟨x, y, s⟩ : MemberD) := ⟨_, _, _, rfl⟩
      have hkn : k ≤ 16 := by omega
      have HN := hid_ (HIn.out.stands (w' := wr) (HB.out.block g HIn.out.cells.lt) (HB.out.block a HIn.out.alt) (HB.out.block b HIn.out.map.lt))
      obtain ⟨a0, a1, a2⟩ := row_cells HN.out.row hkl x y s hx
      have hal := HN.out.alt
      have hgl := HN.out.cells.lt
      have b0 : wr.cell? ⟨g, 0, none⟩ = some (.int .u64 (d.self : Nat)) := (nd_facts HN.out.cells).1
      have i0 : (0 : Int) ≤ (k : Int) := by omega
      have i1 : (k : Int) < (n : Int) := by omega
      have HTi := hid_ (show idsF d.self (d.ms.take (k + 1)) = _ by rw [List.take_succ_eq_append_getElem hkl, ids_snoc, hx])
      have HTg := hid_ (show goneIds d.self (d.ms.take (k + 1)) = _ by rw [List.take_succ_eq_append_getElem hkl, gone_snoc, hx])
      simp only at HTi HTg
      have HO1 := hid_ (HO.out.later ((Below.refl _ _).alloc (Nat.le_refl _) (.cells #[.int .u64 (x : Nat), .int .u64 (y : Nat), .int .i64 s] 82)))
      have HB1 := hid_ (HB.out.alloc HB.out.size (.cells #[.int .u64 (x : Nat), .int .u64 (y : Nat), .int .i64 s] 82))
      have HK := hid_ hlt
      clear hx hkl hlt
      by_cases e1 : x = d.self
      · have q1 : (x == d.self) = true := by simp [e1]
        have q2 : ((x : Int) == (d.self : Int)) = true := by simp [e1]
        have HR := hid_ (show idsF d.self (d.ms.take (k + 1)) = idsF d.self (d.ms.take k) by rw [HTi.out, if_neg (fun h => h.1 e1), List.append_nil])
        have HG := hid_ (show goneIds d.self (d.ms.take (k + 1)) = goneIds d.self (d.ms.take k) by rw [HTg.out, if_neg (fun h => h.1 e1), List.append_nil])
        clear e1 HTi HTg
        go_wp2_with fail
        go_quiet (fail)
        go_wp2_with fail
        go_roundw
        case rel => exact ⟨k + 1, A1, m1, c1, A2, m2, c2, by have := HK.out; omega, by go_num, rfl, rfl, by omega, by omega, hid_ (by rw [HR.out, HG.out]; exact HO1.out.later (below_drewN (Below.refl _ _) _)), hid_ (below_drewN HB1.out _)⟩
        case measure => have := HK.out; simp [intOf]; omega
      have q1 : (x == d.self) = false := by rw [beq_eq_false_iff_ne]; exact e1
      have q2 : ((x : Int) == (d.self : Int)) = false := by rw [beq_eq_false_iff_ne]; omega
      by_cases e2 : s = 2
      · have q3 : (s == 2) = true := by rw [e2]; rfl
        have HR := hid_ (show idsF d.self (d.ms.take (k + 1)) = idsF d.self (d.ms.take k) by rw [HTi.out, if_neg (fun h => h.2 e2), List.append_nil])
        have HG := hid_ (show goneIds d.self (d.ms.take k) ++ [x] = goneIds d.self (d.ms.take (k + 1)) by rw [HTg.out, if_pos ⟨e1, e2⟩])
        clear e1 e2 HTi HTg
        go_wp2_with fail
        go_quiet (fail)
        have HS := hid_ (show (((wr.alloc (.cells #[.int .u64 (x : Nat), .int .u64 (y : Nat), .int .i64 s] 82)).drewN nq).cell? ⟨wr.heap.size, 0, none⟩ = some (.int .u64 (x : Nat))) ∧ (((wr.alloc (.cells #[.int .u64 (x : Nat), .int .u64 (y : Nat), .int .i64 s] 82)).drewN nq).cell? ⟨wr.heap.size, 2, none⟩ = some (.int .i64 s)) ∧ TwoU w.heap.size ((wr.alloc (.cells #[.int .u64 (x : Nat), .int .u64 (y : Nat), .int .i64 s] 82)).drewN nq) A1 m1 c1 (idsF d.self (d.ms.take k)) A2 m2 c2 (goneIds d.self (d.ms.take k)) ∧ Below w.heap.size w ((wr.alloc (.cells #[.int .u64 (x : Nat), .int .u64 (y : Nat), .int .i64 s] 82)).drewN nq) from
          ⟨(whole_new wr _ _).cell 0 _ rfl, (whole_new wr _ _).cell 2 _ rfl, HO1.out.later (below_drewN (Below.refl _ _) _), below_drewN HB1.out _⟩)
        clear a0 a1 a2 b0 HO1 HB1 HN
        generalize (wr.alloc (.cells #[.int .u64 (x : Nat), .int .u64 (y : Nat), .int .i64 s] 82)).drewN nq = wq at *
        generalize wr.heap.size = gm at *
        obtain ⟨m0, m2c, -, -⟩ := HS.out
        have hgm : gm < wq.heap.size := lt_of_cell m0
        have HLit := hid_ (numU_at wq wq.heap.size x 60 rfl)
        have HOL := hid_ (HS.out.2.2.1.later ((Below.refl _ _).alloc (Nat.le_refl _) (.cells #[.int .u64 (x : Nat)] 60)))
        have HBL := hid_ (HS.out.2.2.2.alloc HS.out.2.2.2.size (.cells #[.int .u64 (x : Nat)] 60))
        go_wp2_with (at_builtin; refine Enc.wpList_rows (E := Rg.numE) (e := 60) rfl (.tmp 35) (.tmp 38) 65 rfl _ 8 Try.underlying65 info_u rfl w.heap.size A2 m2 c2 _ rfl HOL.out.o2 (some ⟨wq.heap.size, 0, none⟩) 1 1 [x] rfl HLit.out (m2 + 1) _ rfl HG.out (by omega) (by omega) (HBL.out.size) ?_; intro A3 c3 w3 ho3 hb3 hg3 ha3; have HX := hid_ (And.intro (HOL.out.flip.grow ho3 hg3 ha3).flip (HBL.out.trans hb3)); clear ho3 hb3 hg3 ha3)
        go_roundw
        case rel => exact ⟨k + 1, A1, m1, c1, A3, m2 + 1, c3, by have := HK.out; omega, by go_num, rfl, rfl, by omega, by omega, hid_ (by rw [HR.out]; exact HX.out.1), hid_ HX.out.2⟩
        case measure => have := HK.out; simp [intOf]; omega
      · have q3 : (s == 2) = false := by rw [beq_eq_false_iff_ne]; exact e2
        have HR := hid_ (show idsF d.self (d.ms.take k) ++ [x] = idsF d.self (d.ms.take (k + 1)) by rw [HTi.out, if_pos ⟨e1, e2⟩])
        have HG := hid_ (show goneIds d.self (d.ms.take (k + 1)) = goneIds d.self (d.ms.take k) by rw [HTg.out, if_neg (fun h => e2 h.2), List.append_nil])
        clear e1 e2 HTi HTg
        go_wp2_with fail
        go_quiet (fail)
        have HS := hid_ (show (((wr.alloc (.cells #[.int .u64 (x : Nat), .int .u64 (y : Nat), .int .i64 s] 82)).drewN nq).cell? ⟨wr.heap.size, 0, none⟩ = some (.int .u64 (x : Nat))) ∧ (((wr.alloc (.cells #[.int .u64 (x : Nat), .int .u64 (y : Nat), .int .i64 s] 82)).drewN nq).cell? ⟨wr.heap.size, 2, none⟩ = some (.int .i64 s)) ∧ TwoU w.heap.size ((wr.alloc (.cells #[.int .u64 (x : Nat), .int .u64 (y : Nat), .int .i64 s] 82)).drewN nq) A1 m1 c1 (idsF d.self (d.ms.take k)) A2 m2 c2 (goneIds d.self (d.ms.take k)) ∧ Below w.heap.size w ((wr.alloc (.cells #[.int .u64 (x : Nat), .int .u64 (y : Nat), .int .i64 s] 82)).drewN nq) from
          ⟨(whole_new wr _ _).cell 0 _ rfl, (whole_new wr _ _).cell 2 _ rfl, HO1.out.later (below_drewN (Below.refl _ _) _), below_drewN HB1.out _⟩)
        clear a0 a1 a2 b0 HO1 HB1 HN
        generalize (wr.alloc (.cells #[.int .u64 (x : Nat), .int .u64 (y : Nat), .int .i64 s] 82)).drewN nq = wq at *
        generalize wr.heap.size = gm at *
        obtain ⟨m0, m2c, -, -⟩ := HS.out
        have hgm : gm < wq.heap.size := lt_of_cell m0
        have HLit := hid_ (numU_at wq wq.heap.size x 60 rfl)
        have HOL := hid_ (HS.out.2.2.1.later ((Below.refl _ _).alloc (Nat.le_refl _) (.cells #[.int .u64 (x : Nat)] 60)))
        have HBL := hid_ (HS.out.2.2.2.alloc HS.out.2.2.2.size (.cells #[.int .u64 (x : Nat)] 60))
        go_wp2_with (at_builtin; refine Enc.wpList_rows (E := Rg.numE) (e := 60) rfl (.tmp 18) (.tmp 21) 65 rfl _ 8 Try.underlying65 info_u rfl w.heap.size A1 m1 c1 _ rfl HOL.out.o1 (some ⟨wq.heap.size, 0, none⟩) 1 1 [x] rfl HLit.out (m1 + 1) _ rfl HR.out (by omega) (by omega) (HBL.out.size) ?_; intro A3 c3 w3 ho3 hb3 hg3 ha3; have HX := hid_ (And.intro (HOL.out.grow ho3 hg3 ha3) (HBL.out.trans hb3)); clear ho3 hb3 hg3 ha3)
        go_roundw
        case rel => exact ⟨k + 1, A3, m1 + 1, c3, A2, m2, c2, by have := HK.out; omega, by go_num, rfl, rfl, by omega, by omega, hid_ (by rw [HG.out]; exact HX.out.1), hid_ HX.out.2⟩
        case measure => have := HK.out; simp [intOf]; omega
    · obtain rfl : k = n := by omega
      have HO2 := hid_ (show TwoU w.heap.size wr A1 m1 c1 (idsF d.self d.ms) A2 m2 c2 (goneIds d.self d.ms) by have := HO.out; rw [List.take_of_length_le (by have := HLen.out; omega)] at this; exact this)
      have l1 := HO2.out.o1.len
      have l2 := HO2.out.o2.len
      by_cases hz : m2 = 0
      · subst hz
        have HR := hid_ (show res = idsF d.self d.ms by rw [HDef.out, if_pos (List.length_eq_zero_iff.1 l2)])
        clear hlt l1 l2 HO HDef
        go_wp2_with fail
        go_ret
        exact whomPost_mk (by rw [HR.out]; exact HO2.out.o1.row) HB.out
      · have hpos : 0 < m2 := by omega
        obtain ⟨g2, rfl, -, hg2, hc2⟩ := HO2.out.o2.place hpos
        obtain ⟨pk, hpk⟩ : ∃ pk : Nat, pk = pick % m2 := ⟨_, rfl⟩
        have hpl : pk < m2 := by rw [hpk]; exact Nat.mod_lt _ hpos
        obtain ⟨z, hz2⟩ : ∃ z : Nat, z = (goneIds d.self d.ms)[pk]'(by omega) := ⟨_, rfl⟩
        have HR := hid_ (show idsF d.self d.ms ++ [z] = res by
          rw [HDef.out, if_neg (fun e => by rw [e] at l2; simp at l2; omega), l2, ← hpk, List.getElem?_eq_getElem (by omega), hz2]; rfl)
        obtain ⟨gb, off, eA, _, hcell⟩ := HO2.out.o2.row.at_ (k := pk) (by omega)
        injection eA with eA
        injection eA with eA1 eA2 _
        subst eA1 eA2
        have z0 : wr.cell? ⟨g2, pk, none⟩ = some (.int .u64 (z : Nat)) := by
          have := hcell 0 (.int .u64 (z : Nat)) (by rw [hz2]; rfl)
          rwa [show 0 + pk * Rg.numE.K + 0 = pk by show 0 + pk * 1 + 0 = _; omega] at this
        have e1 : Int.tmod (pick : Int) (m2 : Int) = (pk : Int) := by rw [hpk]; rfl
        have e2 : (pick : Int) % (m2 : Int) = (pk : Int) := by rw [hpk]; rfl
        have e3 : IntKind.u64.wrap (m2 : Int) = (m2 : Int) := by rw [wrap_u64]; omega
        have e4 : ((m2 : Int) == 0) = false := by rw [beq_eq_false_iff_ne]; omega
        have e5 : (m2 == 0) = false := by rw [beq_eq_false_iff_ne]; omega
        have i0 : (0 : Int) ≤ (pk : Int) := by omega
        have i1 : (pk : Int) < (m2 : Int) := by omega
        have i2 : (0 : Int) < (m2 : Int) := by omega
        have HLit := hid_ (numU_at wr wr.heap.size z 60 rfl)
        have HOL := hid_ (HO2.out.later ((Below.refl _ _).alloc (Nat.le_refl _) (.cells #[.int .u64 (z : Nat)] 60)))
        have HBL := hid_ (HB.out.alloc HB.out.size (.cells #[.int .u64 (z : Nat)] 60))
        have hm1' : m1 ≤ 16 := by have := HLen.out; omega
        clear hlt l1 l2 HO HDef hcell hz2 hpk HO2
        go_wp2_with (at_builtin; refine Enc.wpList_rows (E := Rg.numE) (e := 60) rfl (.tmp 44) (.tmp 53) 65 rfl _ 8 Try.underlying65 info_u rfl w.heap.size A1 m1 c1 _ rfl HOL.out.o1 (some ⟨wr.heap.size, 0, none⟩) 1 1 [z] rfl HLit.out (m1 + 1) _ rfl HR.out (by omega) (by omega) (HBL.out.size) ?_; intro A3 c3 w3 ho3 hb3 hg3 ha3; have HX := hid_ (And.intro ho3 (HBL.out.trans hb3)); clear ho3 hb3 hg3 ha3)
        go_ret
        exact whomPost_mk HX.out.1.row HX.out.2
end Gs
end Go.Proofs.Ytcmoelphjdehaaa
