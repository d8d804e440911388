/-
  What a node hears: Hear.
-/
import Derived.Test.YtcmoelphjdehaaaZGG2
import Derived.Test.YtcmoelphjdehaaaZGosNew
namespace Go.Proofs.Ytcmoelphjdehaaa
set_option linter.unusedSimpArgs false
set_option linter.unusedVariables false
open Go.RowKit Ru Vw
namespace Gs
set_option linter.unusedSimpArgs false
set_option linter.unusedVariables false
theorem memRow_tn {Q : Nat → Prop} {w w' : World} {A : Option Addr} {n c : Nat} {l : List MemberD} (h : MemRow w A n c l) (k : Tn Q w w') (ha : ∀ a, A = some a → l ≠ [] → ¬ Q a.block) : MemRow w' A n c l := by
  have hh := h.cells
  refine memRow_of (fun hne => ?_) h.len h.cap h.max h.nil
  obtain ⟨b, off, e, hc⟩ := hh hne
  refine ⟨b, off, e, fun i u hu => ?_⟩
  have h1 := hc i u hu
  rw [← h1]
  exact World.cell?_of_block (k.block b (lt_of_cell h1) (ha _ e (by rintro rfl; exact hne rfl)))
/-- A merged row becomes the node's view. -/
theorem Nd.take {w : World} {g : Nat} {Q : Nat → Prop} {d : NodeD} (h : Nd w g Q d) {a n c B : Nat} {r : List MemberD} (hr : OwnM B w (some ⟨a, 0, none⟩) n c r) (ha : ¬ Q a) (ho : NOk (withMs d r)) :
    Nd (w.setCell ⟨g, 6, none⟩ (.slice (some ⟨a, 0, none⟩) n c)) g (fun q => Q q ∨ q = a) (withMs d r) := by
  obtain ⟨a0, n0, c0, b, D, qa, qb, hin⟩ := h.mem
  have hg : a ≠ g := fun e => ha (e ▸ h.qg)
  have hs : ∀ q, q ≠ g → (w.setCell ⟨g, 6, none⟩ (.slice (some ⟨a, 0, none⟩) n c)).heap[q]? = w.heap[q]? := fun q hq => Below.heap_setCell w ⟨g, 6, none⟩ _ q hq
  refine ⟨ho, .inl h.qg, ?_, a, n, c, b, D, .inr rfl, .inl qb, hin.cells.store 6 _, own_stands (hr.mono (Nat.zero_le _)) (hs a hg), hin.map.stands (hs b hin.bg), hg, hin.bg, fun e => ha (e ▸ qb)⟩
  rintro q (hq | rfl)
  · simpa using h.qlt q hq
  · simpa using (hr.from_ _ rfl).2
def KindAns (k : Int) (_ : World) (v : Value) : Prop := v = .int .i64 k
theorem hear_nil (frm now : Nat) (v : Value) (w : World) : Calls Try.prog 43 #[.pointer none, .int .u64 (frm : Nat), v, .int .u64 (now : Nat)] w (fun e w' => e = .returned (.int .i64 13) ∧ w = w') := by
  have HN := hid_ (none_nil w)
  go_enter Try.func43, Try.ntmps43
  go_wp2_with fail
  refine Calls.mono HN.out ?_
  rintro e w1 ⟨rfl, rfl⟩
  go_wp2_with fail
  go_ret
  exact ⟨rfl, rfl⟩
set_option maxRecDepth 20000 in
set_option maxHeartbeats 8000000 in
theorem hear_any (g : Nat) (Q : Nat → Prop) (d : NodeD) (frm now : Nat) (A : Option Addr) (nl cl : Nat) (l : List MemberD) (w : World) (h : Nd w g Q d) (hl : MemRow w A nl cl l) (hw : ∀ m ∈ l, m.Wf) (hA : ∀ a, A = some a → l ≠ [] → ¬ Q a.block) (hn : now < 18446744073709551616) :
    Calls Try.prog 43 #[.pointer (some ⟨g, 0, none⟩), .int .u64 (frm : Nat), .slice A nl cl, .int .u64 (now : Nat)] w (NdPost w g Q (KindAns (hearK d l)) (hearD d frm l now)) := by
  obtain ⟨a0, n0, c0, b0, D0, qa, qb, hin⟩ := h.mem
  have HN := hid_ (none_any g d.self w (nd_facts hin.cells).1 h.ok.self0)
  have HP := hid_ (pass_any g Q d now w h hn)
  have HL := hid_ (fun (W : World) (ht : Tn Q w W) => memRow_tn hl ht hA)
  have HW := hid_ hw
  have HOk := hid_ h.ok
  have HQg := hid_ h.qg
  have hneg := hearK_cases d l
  have HNo := hid_ (fun (hk : hearK d l ≠ 0) (W : World) (Q1 : Nat → Prop) (h1 : Nd W g Q1 (passD d now)) (ht : Tn Q w W) (hq : ∀ q, Q1 q → Q q ∨ w.heap.size ≤ q) => show NdPost w g Q (KindAns (hearK d l)) (hearD d frm l now) (.returned (.int .i64 (hearK d l))) W from
    ndPost_mk rfl h1 (by unfold hearD; rw [if_neg hk]) ht hq)
  have HYes := hid_ (fun (hk : hearK d l = 0) => show hearD d frm l now = objD (notedD (withMs (passD d now) (mgF d.ms l)) frm) by unfold hearD; rw [if_pos hk]; exact heardD_steps d frm l now)
  clear h hl hw hA hin qa qb
  go_enter Try.func43, Try.ntmps43
  go_wp2_with fail
  refine Calls.mono HN.out ?_
  rintro e w0 ⟨rfl, rfl⟩
  go_wp2_with fail
  refine Calls.mono HP.out ?_
  rintro e w1 ⟨v, rfl, rfl, Q1, h1, ht1, hq1⟩
  obtain ⟨a, n, c, b, D, qa1, qb1, hin1⟩ := h1.mem
  have c6 : w1.cell? ⟨g, 6, none⟩ = some (.slice (some ⟨a, 0, none⟩) n c) := (nd_facts hin1.cells).2.2.2.2.2.2.1
  have HM := hid_ (merge_own _ A n nl c cl d.ms l w1 (memRow_of_enc hin1.row.row) (HL.out w1 ht1) HOk.out.wf HW.out)
  have H1 := hid_ (And.intro h1 (And.intro ht1 hq1))
  clear h1 ht1 hq1 hin1 qa1 qb1 HN HP
  go_wp2_with fail
  refine Calls.mono HM.out ?_
  rintro e w2 ⟨A2, n2, c2, r, k, rfl, ho, hi, hb⟩
  obtain ⟨hk, hr⟩ := mergeIs_mg HOk.out.right hi
  have H2 := hid_ (And.intro (H1.out.1.below hb) (And.intro (H1.out.2.1.then_below hb) H1.out.2.2))
  by_cases hz : hearK d l = 0
  · have hk0 : k = 0 := hk.trans hz
    subst hk0
    obtain rfl := hr rfl
    obtain ⟨hl1, hl2⟩ := hearK_zero hz
    have hpos : 0 < n2 := by
      rw [← ho.len]
      obtain ⟨m, hm, _⟩ := HOk.out.has
      obtain ⟨m', hm', _⟩ := mg_ids HOk.out.right hl1 hm
      exact List.length_pos_of_mem hm'
    obtain ⟨a2, rfl, hge, hlt2, _⟩ := ho.place hpos
    have hna : ¬ Q1 a2 := fun hq => by have := H1.out.1.qlt a2 hq; omega
    have h3 := H2.out.1.take ho hna (show NOk (withMs (passD d now) (mgF d.ms l)) from withMs_ok (pass_ok HOk.out hn) HW.out hl1 hl2)
    have ht3 := H2.out.2.1.set (.inl HQg.out) 6 (.slice (some ⟨a2, 0, none⟩) n2 c2)
    have hq3 : ∀ q, (Q1 q ∨ q = a2) → Q q ∨ w.heap.size ≤ q := by
      rintro q (hq | rfl)
      · exact H2.out.2.2 q hq
      · exact .inr (Nat.le_trans H1.out.2.1.size hge)
    have HE := hid_ (HYes.out hz)
    have HZ := hid_ hz
    have hg2 : w2.cell? ⟨g, 6, none⟩ = some (.slice (some ⟨a, 0, none⟩) n c) := (hb.cell (p := ⟨g, 6, none⟩) (H1.out.1.qlt g H1.out.1.qg)).trans c6
    have hf2 : w2.frozen? ⟨g, 6, none⟩ = false := by
      obtain ⟨_, _, _, _, _, _, _, hx⟩ := H2.out.1.mem
      exact (nd_facts hx.cells).2.2.2.2.2.2.2.2 6
    have HNt := hid_ (note_any g _ _ frm _ h3)
    have H3 := hid_ (And.intro ht3 hq3)
    clear hz hk hr hi ho hb hl1 hl2 hpos hge hlt2 hna h3 ht3 hq3 HYes HNo hneg c6
    go_wp2_with fail
    refine Calls.mono HNt.out ?_
    rintro e w4 ⟨v, rfl, rfl, Q4, h4, ht4, hq4⟩
    have H4 := hid_ (And.intro (H3.out.1.trans ht4 H3.out.2) (fun q (hq : Q4 q) => show Q q ∨ w.heap.size ≤ q from by
      rcases hq4 q hq with h5 | h5
      · exact H3.out.2 q h5
      · exact .inr (Nat.le_trans H3.out.1.size h5)))
    have HOb := hid_ (object_any g Q4 _ w4 h4)
    clear h4 ht4 hq4
    go_wp2_with fail
    refine Calls.mono HOb.out ?_
    rintro e w5 ⟨v, rfl, rfl, Q5, h5, ht5, hq5⟩
    have HF := hid_ (show NdPost w g Q (KindAns (hearK d l)) (hearD d frm l now) (.returned (.int .i64 0)) w5 from
      ndPost_mk (by rw [HZ.out]; rfl) h5 HE.out.symm (H4.out.1.trans ht5 H4.out.2) (fun q hq => by
        rcases hq5 q hq with h6 | h6
        · exact H4.out.2 q h6
        · exact .inr (Nat.le_trans H4.out.1.size h6)))
    clear h5 ht5 hq5
    go_wp2_with fail
    go_ret
    exact HF.out
  · have e1 : (hearK d l != 0) = true := by rw [bne_iff_ne]; exact hz
    subst hk
    have HF := hid_ (HNo.out hz w2 Q1 H2.out.1 H2.out.2.1 H2.out.2.2)
    clear hz hr hi ho hb HYes HNo hneg c6
    generalize hearK d l = k at *
    go_wp2_with fail
    go_ret
    exact HF.out
end Gs
end Go.Proofs.Ytcmoelphjdehaaa

/-
  A node's ticks: Tick.
-/
namespace Go.Proofs.Ytcmoelphjdehaaa
set_option linter.unusedSimpArgs false
set_option linter.unusedVariables false
open Go.RowKit Ru Vw
namespace Gs
set_option linter.unusedSimpArgs false
set_option linter.unusedVariables false
/-- Numbers are answered. -/
def NumsAns (l : List Nat) (W : World) (v : Value) : Prop := ∃ A m c, v = .slice A m c ∧ Rg.numE.Row W A m c l
theorem tick_nil (now pick : Nat) (w : World) : Calls Try.prog 44 #[.pointer none, .int .u64 (now : Nat), .int .u64 (pick : Nat)] w (fun e w' => e = .returned (.slice none 0 0) ∧ w = w') := by
  have HN := hid_ (none_nil w)
  go_enter Try.func44, Try.ntmps44
  go_wp2_with fail
  refine Calls.mono HN.out ?_
  rintro e w1 ⟨rfl, rfl⟩
  go_wp2_with fail
  go_ret
  exact ⟨rfl, rfl⟩
set_option maxRecDepth 20000 in
set_option maxHeartbeats 8000000 in
theorem tick_any (g : Nat) (Q : Nat → Prop) (d : NodeD) (now pick : Nat) (w : World) (h : Nd w g Q d) (hn : now < 18446744073709551616) :
    Calls Try.prog 44 #[.pointer (some ⟨g, 0, none⟩), .int .u64 (now : Nat), .int .u64 (pick : Nat)] w (NdPost w g Q (NumsAns (tickR d now pick)) (tickD d now)) := by
  obtain ⟨a0, n0, c0, b0, D0, qa, qb, hin⟩ := h.mem
  have HN := hid_ (none_any g d.self w (nd_facts hin.cells).1 h.ok.self0)
  have HP := hid_ (pass_any g Q d now w h hn)
  have HOk := hid_ (pass_ok h.ok hn)
  have HQg := hid_ h.qg
  have htb := HOk.out.timeB
  change max d.time now < 18446744073709551616 at htb
  have HNo := hid_ (fun (hk : max d.time now < d.due) (W : World) (Q1 : Nat → Prop) (h1 : Nd W g Q1 (passD d now)) (ht : Tn Q w W) (hq : ∀ q, Q1 q → Q q ∨ w.heap.size ≤ q) => show NdPost w g Q (NumsAns (tickR d now pick)) (tickD d now) (.returned (.slice none 0 0)) W from
    ndPost_mk ⟨none, 0, 0, rfl, by unfold tickR; rw [if_pos hk]; exact Enc.Row.none _⟩ h1 (by unfold tickD; rw [if_pos hk]) ht hq)
  have HYes := hid_ (fun (hk : ¬ max d.time now < d.due) (W : World) (Q1 : Nat → Prop) (A : Option Addr) (m c : Nat) (h1 : Nd W g Q1 (judD (dueD (passD d now)))) (hr : Rg.numE.Row W A m c (whomF d.self (tickedD d now).ms pick)) (ht : Tn Q w W) (hq : ∀ q, Q1 q → Q q ∨ w.heap.size ≤ q) => show NdPost w g Q (NumsAns (tickR d now pick)) (tickD d now) (.returned (.slice A m c)) W from
    ndPost_mk ⟨A, m, c, rfl, by unfold tickR; rw [if_neg hk]; exact hr⟩ h1 (by unfold tickD; rw [if_neg hk]; rfl) ht hq)
  have HPT := hid_ (show (passD d now).time = max d.time now ∧ (passD d now).due = d.due ∧ (passD d now).period = d.period from ⟨rfl, rfl, rfl⟩)
  have HDue := hid_ (show (dueD (passD d now)).due = max d.time now + min d.period (18446744073709551615 - max d.time now) from rfl)
  generalize htt : max d.time now = tt at *
  clear h hin qa qb htt
  go_enter Try.func44, Try.ntmps44
  go_wp2_with fail
  refine Calls.mono HN.out ?_
  rintro e w0 ⟨rfl, rfl⟩
  go_wp2_with fail
  refine Calls.mono HP.out ?_
  rintro e w1 ⟨v, rfl, rfl, Q1, h1, ht1, hq1⟩
  obtain ⟨a, n, c, b, D, qa1, qb1, hin1⟩ := h1.mem
  have c3 : w1.cell? ⟨g, 3, none⟩ = some (.int .u64 (tt : Nat)) := by have := (nd_facts hin1.cells).2.2.2.1; rwa [HPT.out.1] at this
  have c4 : w1.cell? ⟨g, 4, none⟩ = some (.int .u64 (d.due : Nat)) := (nd_facts hin1.cells).2.2.2.2.1
  have H1 := hid_ (And.intro h1 (And.intro ht1 hq1))
  clear h1 ht1 hq1 hin1 qa1 qb1 HN HP
  by_cases hk : tt < d.due
  · have e1 : decide (tt < d.due) = true := decide_eq_true hk
    have e2 : decide ((tt : Int) < (d.due : Int)) = true := decide_eq_true (by omega)
    have HF := hid_ (fun nq => HNo.out hk (w1.drewN nq) Q1 (H1.out.1.drewN nq) (H1.out.2.1.drewN nq) H1.out.2.2)
    clear hk HNo HYes
    go_wp2_with fail
    go_quiet (fail)
    go_wp2_with fail
    go_ret
    exact HF.out _
  · have e1 : decide (tt < d.due) = false := decide_eq_false hk
    have e2 : decide ((tt : Int) < (d.due : Int)) = false := decide_eq_false (by omega)
    have HY := hid_ (HYes.out hk)
    clear hk HNo HYes
    go_wp2_with fail
    go_quiet (fail)
    go_wp2_with fail
    have H2 := hid_ (And.intro (H1.out.1.drewN nq) (And.intro (H1.out.2.1.drewN nq) H1.out.2.2))
    clear c3 c4
    generalize w1.drewN nq = w2 at *
    obtain ⟨a2, n2, c2, b2, D2, qa2, qb2, hin2⟩ := H2.out.1.mem
    have d1 : w2.cell? ⟨g, 1, none⟩ = some (.int .u64 (d.period : Nat)) := (nd_facts hin2.cells).2.1
    have d3 : w2.cell? ⟨g, 3, none⟩ = some (.int .u64 (tt : Nat)) := by have := (nd_facts hin2.cells).2.2.2.1; rwa [HPT.out.1] at this
    have d4 : w2.cell? ⟨g, 4, none⟩ = some (.int .u64 (d.due : Nat)) := (nd_facts hin2.cells).2.2.2.2.1
    have df : w2.frozen? ⟨g, 4, none⟩ = false := (nd_facts hin2.cells).2.2.2.2.2.2.2.2 4
    obtain ⟨rs, hrs⟩ : ∃ rs : Nat, rs = 18446744073709551615 - tt := ⟨_, rfl⟩
    obtain ⟨mn, hmn⟩ : ∃ mn : Nat, mn = min d.period rs := ⟨_, rfl⟩
    obtain ⟨nd, hnd⟩ : ∃ nd : Nat, nd = tt + mn := ⟨_, rfl⟩
    have f1 : IntKind.u64.wrap (18446744073709551615 - (tt : Int)) = (rs : Int) := by rw [wrap_u64, hrs]; omega
    have f2 : min (d.period : Int) (rs : Int) = (mn : Int) := by rw [hmn]; omega
    have f3 : IntKind.u64.wrap ((tt : Int) + (mn : Int)) = (nd : Int) := by rw [wrap_u64, hnd]; omega
    have hdue : (dueD (passD d now)).due = nd := by rw [HDue.out, ← hrs, ← hmn, ← hnd]
    have h3 : Nd (w2.drew.setCell ⟨g, 4, none⟩ (.int .u64 (nd : Nat))) g Q1 (dueD (passD d now)) :=
      (H2.out.1.stands (w' := w2.drew) (Nat.le_refl _) (fun _ _ => rfl)).cell (due_ok HOk.out) rfl rfl 4 _ (fun a n c b => by rw [← hdue]; rfl)
    have ht3 := (H2.out.2.1.drew).set (.inl HQg.out) 4 (.int .u64 (nd : Nat))
    have HJ := hid_ (judge_any g Q1 _ _ h3)
    have H3 := hid_ (And.intro ht3 H2.out.2.2)
    clear qa2 qb2 hin2 hrs hmn hnd hdue h3 ht3
    go_still_tail 18, (by kernel_rfl)
    go_wp2_with fail
    refine Calls.mono HJ.out ?_
    rintro e w4 ⟨v, rfl, rfl, Q4, h4, ht4, hq4⟩
    have H4 := hid_ (And.intro h4 (And.intro (H3.out.1.trans ht4 H3.out.2) (fun q (hq : Q4 q) => show Q q ∨ w.heap.size ≤ q from by
      rcases hq4 q hq with h5 | h5
      · exact H3.out.2 q h5
      · exact .inr (Nat.le_trans H3.out.1.size h5))))
    have HWm := hid_ (whom_any g Q4 _ pick w4 h4)
    clear h4 ht4 hq4
    go_wp2_with fail
    refine Calls.mono HWm.out ?_
    rintro e w5 ⟨A5, m5, c5, rfl, hr5, hb5⟩
    have HF := hid_ (HY.out w5 Q4 A5 m5 c5 (H4.out.1.below hb5) hr5 (H4.out.2.1.then_below hb5) H4.out.2.2)
    clear hr5 hb5
    go_wp2_with fail
    go_ret
    exact HF.out
end Gs
end Go.Proofs.Ytcmoelphjdehaaa
