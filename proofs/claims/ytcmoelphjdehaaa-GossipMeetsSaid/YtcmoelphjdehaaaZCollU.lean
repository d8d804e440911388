/-
  The library's AppendSeq, Collect and Sorted at uint64, over the keys of a map of members.
-/
import Derived.Test.YtcmoelphjdehaaaZKeysU
import Derived.Test.YtcmoelphjdehaaaZNumSort
namespace Go.Proofs.Ytcmoelphjdehaaa
set_option linter.unusedSimpArgs false
set_option linter.unusedVariables false
open Go.RowKit Rg
attribute [local go_sem] Oper.semAt_some
namespace Vw
set_option linter.unusedSimpArgs false
set_option linter.unusedVariables false
abbrev OwnU := numE.Own 60
theorem info_u64v : (Try.prog.info? 60).map (fun i => (i.zero, i.size, i.bytes)) = some (some (.int .u64 0), 1, 8) := by kernel_rfl
theorem ownU_block {B : Nat} {w w' : World} {A : Option Addr} {n c : Nat} {rs : List Nat} (h : OwnU B w A n c rs) (hk : ∀ (g : Nat) (o : Obj), w.heap[g]? = some o → o.isCells = true → w'.heap[g]? = w.heap[g]?) : OwnU B w' A n c rs := by
  obtain ⟨hx, h | ⟨g, cap, cur, e', hg, hh, r⟩⟩ := h
  · exact ⟨hx, .inl h⟩
  · exact ⟨hx, .inr ⟨g, cap, cur, e', hg, (hk g _ hh rfl).trans hh, r⟩⟩
theorem ownU_other {B : Nat} {w : World} {A : Option Addr} {n c : Nat} {rs : List Nat} (h : OwnU B w A n c rs) {g : Nat} {t : TypeId} {cs : Array Value} (hg : Whole w g t cs) (hne : 60 ≠ t) : (Value.slice A n c).ownBlock ≠ some g := by
  rcases h.2 with ⟨e', _⟩ | ⟨g', cap, cur, e', _, hh, _⟩
  · rw [e']; simp [Value.ownBlock]
  · rw [e']
    intro he
    have : g' = g := by simpa [Value.ownBlock] using he
    subst this
    unfold Whole at hg
    rw [hh] at hg
    injection hg with hg
    injection hg with _ ht
    exact hne ht
theorem ownU_object {B : Nat} {w : World} {A : Option Addr} {n c : Nat} {rs : List Nat} (h : OwnU B w A n c rs) {g : Nat} {o : Obj} (hg : w.heap[g]? = some o) (ho : o.isCells = false) : (Value.slice A n c).ownBlock ≠ some g := by
  rcases h.2 with ⟨e', _⟩ | ⟨g', cap, cur, e', _, hh, _⟩
  · rw [e']; simp [Value.ownBlock]
  · rw [e']
    intro he
    have : g' = g := by simpa [Value.ownBlock] using he
    subst this
    rw [hh] at hg
    cases hg
    cases ho
theorem ownU_set {B : Nat} {w : World} {A : Option Addr} {n c : Nat} {rs : List Nat} (h : OwnU B w A n c rs) {g : Nat} {t : TypeId} {cs : Array Value} (hg : Whole w g t cs) (hne : 60 ≠ t) (v : Value) : OwnU B (w.setCell ⟨g, 0, none⟩ v) A n c rs := by
  refine World.ownsRow.kept h (row := some g) ?_ (.inr (ownU_other h hg hne))
  exact ⟨rfl, rfl, rfl, by show _ ≤ (w.heap.modify _ _).size; rw [Array.size_modify]; exact Nat.le_refl _, fun i _ hi => Below.heap_setCell w ⟨g, 0, none⟩ v i (by rintro rfl; exact hi rfl)⟩
theorem whole_grown {w w' : World} {g : Nat} {t : TypeId} {cs : Array Value} {row : Option Nat} (h : Whole w g t cs) (hb : w.grownBy w' row) (hg : row ≠ some g) : Whole w' g t cs := (hb.block g h.lt (Ne.symm hg)).trans h
/-- What stands between two rounds: the list so far in its box, the block for deferred calls. -/
structure JU (w : World) (ss : List Nat) (W : World) : Prop where
  bel : Below w.heap.size w W
  row : ∃ A c, Whole W w.heap.size 65 #[.slice A ss.length c] ∧ OwnU w.heap.size W A ss.length c ss
  def_ : W.heap[w.heap.size + 1]? = some (.deferred (some []))
theorem JU.move {w W W' : World} {ss : List Nat} (h : JU w ss W) (hb : Below w.heap.size w W') (hk : ∀ g o, W.heap[g]? = some o → (o.isCells = true ∨ g = w.heap.size + 1) → W'.heap[g]? = W.heap[g]?) : JU w ss W' := by
  obtain ⟨_, ⟨A, c, h2, h3⟩, h7⟩ := h
  exact ⟨hb, ⟨A, c, (hk _ _ h2 (.inl rfl)).trans h2, ownU_block h3 fun g o hg ho => hk g o hg (.inl ho)⟩, (hk _ _ h7 (.inr rfl)).trans h7⟩
theorem JU.rec_ {w W : World} {ss : List Nat} {lo : Loop} (h : JU w ss W) (hl : W.heap[w.heap.size + 1 + 1]? = some (.loop lo)) (lo' : Loop) : JU w ss (W.putObj (w.heap.size + 1 + 1) (.loop lo')) := by
  refine h.move (h.bel.trans (belowK_b (w := w) (Nat.le_refl _) W _ _ _ (by omega) hl rfl rfl)) fun g o hg ho => World.putObj_heap_other ?_
  rintro rfl
  rw [hl] at hg
  cases hg
  rcases ho with ho | ho
  · cases ho
  · omega
theorem ju_start (w : World) (lo : Loop) :
    JU w [] (((w.alloc (.cells #[.slice none 0 0] 65)).alloc (.deferred (some []))).alloc (.loop lo)) ∧
    (((w.alloc (.cells #[.slice none 0 0] 65)).alloc (.deferred (some []))).alloc (.loop lo)).heap[w.heap.size + 1 + 1]? = some (.loop lo) := by
  refine ⟨⟨?_, ⟨none, 0, ?_, Enc.Own.none _ _⟩, ?_⟩, ?_⟩
  · repeat (first | exact Below.refl _ _ | refine Below.alloc ?_ (by simp; omega) _ | refine Below.alloc ?_ (by simp) _)
  · exact ((whole_new w _ _).alloc _).alloc _
  · have h := World.alloc_heap_new (w.alloc (.cells #[.slice none 0 0] 65)) (.deferred (some []))
    simp only [World.size_alloc] at h
    exact (Below.heap_alloc _ _ _ (by simp)).trans h
  · have h := World.alloc_heap_new ((w.alloc (.cells #[.slice none 0 0] 65)).alloc (.deferred (some []))) (.loop lo)
    simp only [World.size_alloc] at h
    exact h
/-- An iterator's step leaves it as it is. -/
theorem JU.abides {w : World} {lo : Loop} {B : Nat} (hB : w.heap.size ≤ B) : AbidesFrom B (fun ss W => JU w ss W ∧ W.heap[w.heap.size + 1 + 1]? = some (.loop lo)) := by
  rintro ss W W' row ⟨h, hl⟩ hg hrow
  have hrow' : ∀ r, row = some r → ∃ o : Obj, W.heap[r]? = some o ∧ o.isWalk = true := fun r e => (hrow r e).2
  refine ⟨h.move (h.bel.grown hg h.bel.size (fun k e => Nat.le_trans hB (hrow k e).1)) fun g o hgo ho => ?_, (grownBy_keeps hg hrow' hl rfl).trans hl⟩
  refine grownBy_keeps hg hrow' hgo ?_
  rcases ho with ho | rfl
  · cases o <;> first | rfl | cases ho
  · rw [h.def_] at hgo
    cases hgo
    rfl
def CollPost (S : List Nat → Prop) (w : World) (e : Ending) (w' : World) : Prop := ∃ A c ss, e = .returned (.slice A ss.length c) ∧ S ss ∧ OwnU w.heap.size w' A ss.length c ss ∧ Below w.heap.size w w'
theorem num_one_new (W : World) (g : Nat) (hg : W.heap.size = g) (x : Nat) (T : TypeId) : ∀ j u, (numE.cf x)[j]? = some u → (W.alloc (.cells #[.int .u64 (x : Nat)] T)).cell? ((⟨g, 0, none⟩ : Addr).add j) = some u := by
  subst hg
  intro j u hu
  rw [add_plain, World.cell?_alloc_mark, ← hu]
  simp [numE]
set_option maxRecDepth 100000 in
set_option maxHeartbeats 8000000 in
theorem appendseqU_any (g : Nat) (lb : Array Value) (eg : ∀ args w, (callFunc g args).run Try.prog w = .ok (.enter g args) w) (S : List Nat → Prop) (N : Nat) (hN : N ≤ 1000000) (w : World) (hseq : SeqGives Fence.wide 2 Try.prog g lb encU S N w) :
    Calls Try.prog 168 #[.slice none 0 0, .func (.func g) #[] lb] w (CollPost S w) := by
  have Hseq := hid_ hseq
  clear hseq
  refine (callsIn_wide (n := 3)).1 ?_
  refine callsIn_of_wp_marks Try.func168 rfl trivial ?_ rfl
  simp only [Try.ntmps168, List.size_toArray, List.length_cons, List.length_nil, Nat.reduceAdd, Nat.reduceSub, Array.replicate_succ, Array.replicate_zero, List.push_toArray, List.append_toArray, List.nil_append, List.cons_append]
  gi_wp2
  refine wide_range (w.heap.size + 1) (by simp) g lb rfl eg ?_
  intro fn rec hrec
  have Hrec := hid_ hrec
  have hpend : (rec .ready none).pending = none := by rw [hrec]
  have hstate : (rec .ready none).state ≠ .busy := by rw [hrec]; intro e; cases e
  have Hpend := hid_ hpend
  have Hstate := hid_ hstate
  clear hrec hpend hstate
  obtain ⟨hJ0, hl0⟩ := ju_start w (rec .ready none)
  refine (Hseq.out (w.heap.size + 1 + 1) (fun ss W => JU w ss W ∧ W.heap[w.heap.size + 1 + 1]? = some (.loop (rec .ready none))) _ ?hbel ?habide ?hY ⟨hJ0, hl0⟩).mono ?_
  case hbel => exact hJ0.bel
  case habide => exact JU.abides (by simp; omega)
  case hY =>
    rintro ss x W ⟨hJ, hl⟩ hlen
    have hJb := hJ.rec_ hl (rec .busy none)
    have hlb := World.putObj_heap_same (o := .loop (rec .busy none)) (Array.getElem?_eq_some_iff.1 hl).1
    have hG : w.heap.size + 1 + 1 < W.heap.size := (Array.getElem?_eq_some_iff.1 hl).1
    have hk0 : KeepsWalks W (W.putObj (w.heap.size + 1 + 1) (.loop (rec .busy none))) := KeepsWalks.putObj _ hl rfl
    refine wide_round W rec Hrec.out hl hl rfl { tmps := #[.slice none 0 0, .func (.func g) #[] lb, .pointer (some ⟨w.heap.size, 0, none⟩), undef, .slice none 0 0, .int .u64 (x : Nat), .func (.func g) #[] lb, .int .u64 (x : Nat), undef, undef, undef, undef, undef], defers := [] } ?_
      (fun W' => JU w (ss ++ [x]) W' ∧ KeepsWalks W W') ?_ _ ?_
    · intro K hK
      unfold encU
      gi_wp2
      exact hK
    · generalize W.putObj (w.heap.size + 1 + 1) (.loop (rec .busy none)) = Wb at hJb hlb hk0 ⊢
      clear hJ hl
      obtain ⟨A, c, hlrow, hown⟩ := hJb.row
      obtain ⟨i0, hi, hz0, hz1, hz2⟩ := info_parts info_u64v
      have hbs := hJb.bel.size
      have hlt := hlrow.lt
      have cl := hlrow.cell 0 _ rfl
      have fl := hlrow.free 0
      gi_wp2_with (gi_at_builtin; refine wpListIn_append_own _ rfl (.tmp 8) (.tmp 10) 65 rfl w.heap.size 60 i0 _ 1 8 Try.underlying65 hi hz0 hz1 hz2 rfl (by decide) _ _ _ rfl (World.ownsRow.alloc hown _) ⟨Wb.heap.size, 0, none⟩ 1 1 (numE.cf x) rfl rfl (num_one_new Wb Wb.heap.size rfl x 60) (numE.one x) (by unfold maxLen; omega) (by omega) (by simp; omega) ?_; intro v' w2 hown' hgrow _; obtain ⟨g', cap', rfl⟩ := ownsRow_succ hown'; have hl2 := whole_grown (hlrow.alloc (.cells #[.int .u64 (x : Nat)] 60)) hgrow (ownU_other hown hlrow (by decide)); have cl2 := hl2.cell 0 _ rfl; have fl2 := hl2.free 0)
      have hbel2 : Below w.heap.size w w2 := by
        refine Below.trans ?_ ((Below.refl w.heap.size (Wb.alloc (.cells #[.int .u64 (x : Nat)] 60))).grown hgrow (by simp; omega) (fun k hk => (hown.from_ k hk).1))
        exact hJb.bel.alloc hbs _
      have keep : ∀ (q : Nat) (o : Obj), Wb.heap[q]? = some o → (Value.slice A ss.length c).ownBlock ≠ some q → q ≠ w.heap.size → (w2.setCell ⟨w.heap.size, 0, none⟩ (.slice (some ⟨g', 0, none⟩) (ss.length + 1) cap')).heap[q]? = some o := by
        intro q o hg hne hne2
        have hlt := (Array.getElem?_eq_some_iff.1 hg).1
        have k2 : (Wb.alloc (.cells #[.int .u64 (x : Nat)] 60)).heap[q]? = some o := (Below.heap_alloc _ _ _ hlt).trans hg
        have k3 : w2.heap[q]? = some o := (hgrow.block q (by simp; omega) (Ne.symm hne)).trans k2
        exact (Below.heap_setCell w2 ⟨w.heap.size, 0, none⟩ _ q hne2).trans k3
      have hown2 : OwnU w.heap.size w2 (some ⟨g', 0, none⟩) (ss.length + 1) cap' (ss ++ [x]) := by
        have h := hown'
        rw [show numE.all ss ++ numE.cf x = numE.all (ss ++ [x]) by rw [numE.all_append]; simp [Enc.all]] at h
        exact h
      have hkw : KeepsWalks W (w2.setCell ⟨w.heap.size, 0, none⟩ (.slice (some ⟨g', 0, none⟩) (ss.length + 1) cap')) := by
        refine ((hk0.trans (KeepsWalks.alloc _ (.cells #[.int .u64 (x : Nat)] 60))).trans (KeepsWalks.of_grownBy hgrow ?_)).trans (KeepsWalks.setCell _ _ _)
        intro j o hj0 ho
        have hj : (Value.slice A ss.length c).ownBlock = some j := hj0
        clear hj0
        rcases hown.2 with ⟨e', _⟩ | ⟨gg, cap, cur, e', _, hh, _⟩
        · rw [e'] at hj
          cases hj
        · rw [e'] at hj
          have hgj : gg = j := by injection hj
          subst hgj
          have hlt2 := (Array.getElem?_eq_some_iff.1 hh).1
          rw [Below.heap_alloc _ _ _ hlt2, hh] at ho
          cases ho
          rfl
      refine ⟨keep _ _ hlb (ownU_object hown hlb rfl) (by omega), ⟨hbel2.setCell (p := ⟨w.heap.size, 0, none⟩) (Nat.le_refl _) _, ⟨some ⟨g', 0, none⟩, cap', ?_, ?_⟩, keep _ _ hJb.def_ (ownU_object hown hJb.def_ rfl) (by omega)⟩, hkw⟩
      · have := hl2.store 0 (.slice (some ⟨g', 0, none⟩) (ss.length + 1) cap')
        rw [List.length_append]
        exact this
      · have := ownU_set (t := 65) hown2 hl2 (by decide) (.slice (some ⟨g', 0, none⟩) (ss.length + 1) cap')
        rw [List.length_append]
        exact this
    · rintro W' hb ⟨h1, h2⟩
      exact ⟨rfl, ⟨h1.rec_ hb (rec .ready none), World.putObj_heap_same (Array.getElem?_eq_some_iff.1 hb).1⟩, h2.trans (KeepsWalks.putObj _ hb rfl)⟩
  rintro e W ⟨⟨v, rfl⟩, ss, hS, hJ, hl⟩
  have HS := hid_ hS
  clear hS
  have he := run_endLoop (P := Try.prog) hl Hstate.out
  have hJ2 := hJ.rec_ hl { rec .ready none with state := .exhausted }
  obtain ⟨W2, hW2⟩ : ∃ W2, W.putObj (w.heap.size + 1 + 1) (.loop { rec .ready none with state := .exhausted }) = W2 := ⟨_, rfl⟩
  rw [hW2] at he hJ2
  refine ⟨(rec .ready none).pending, W2, he, ?_⟩
  rw [Hpend.out]
  clear hJ hl he hJ0 hl0 hW2
  obtain ⟨A, c, hlrow, hown⟩ := hJ2.row
  have cl := hlrow.cell 0 _ rfl
  gi_wp2
  have hK := hJ2.def_
  refine ⟨by simp, .inl ⟨_, _, rfl, run_takeDeferred hK, ?_⟩⟩
  have hown4 := ownsRow_putObj hown (.deferred none) hK rfl
  have hbel4 := hJ2.bel.trans (belowK_b (w := w) (Nat.le_refl _) W2 _ _ (.deferred none) (by omega) hK rfl rfl)
  exact ⟨.slice A ss.length c, by simp [results, Try.results168, go_sem], A, c, ss, rfl, HS.out, hown4, hbel4⟩
set_option maxHeartbeats 1000000 in
theorem collectU_any (g : Nat) (lb : Array Value) (eg : ∀ args w, (callFunc g args).run Try.prog w = .ok (.enter g args) w) (S : List Nat → Prop) (N : Nat) (hN : N ≤ 1000000) (w : World) (hseq : SeqGives Fence.wide 2 Try.prog g lb encU S N w) :
    Calls Try.prog 143 #[.func (.func g) #[] lb] w (CollPost S w) := by
  have H := hid_ (appendseqU_any g lb eg S N hN w hseq)
  clear hseq
  go_enter Try.func143, Try.ntmps143
  go_wp2_with fail
  refine Calls.mono H.out ?_
  rintro e w1 ⟨A, c, ss, rfl, hS, ho, hb⟩
  go_wp2_with fail
  go_ret
  exact ⟨A, c, ss, rfl, hS, ho, hb⟩
/-- A row of numbers, sorted, which are S's. -/
def SortedU (S : List Nat → Prop) (w : World) (e : Ending) (w' : World) : Prop := ∃ A n c ks ss, e = .returned (.slice A n c) ∧ S ss ∧ ks.Perm ss ∧ ks.Pairwise (· ≤ ·) ∧ numE.Row w' A n c ks ∧ Below w.heap.size w w'
theorem sortedU_mk {S : List Nat → Prop} {w w' : World} {A : Option Addr} {n c : Nat} {ks ss : List Nat} (h1 : S ss) (h2 : ks.Perm ss) (h3 : ks.Pairwise (· ≤ ·)) (h4 : numE.Row w' A n c ks) (h5 : Below w.heap.size w w') : SortedU S w (.returned (.slice A n c)) w' := ⟨A, n, c, ks, ss, rfl, h1, h2, h3, h4, h5⟩
set_option maxHeartbeats 2000000 in
theorem sortedU_any (g : Nat) (lb : Array Value) (eg : ∀ args w, (callFunc g args).run Try.prog w = .ok (.enter g args) w) (S : List Nat → Prop) (N : Nat) (hN : N ≤ 1000000) (hSN : ∀ ss, S ss → ss.length ≤ 1000000) (w : World) (hseq : SeqGives Fence.wide 2 Try.prog g lb encU S N w) :
    Calls Try.prog 111 #[.func (.func g) #[] lb] w (SortedU S w) := by
  have H := hid_ (collectU_any g lb eg S N hN w hseq)
  have HSN := hid_ hSN
  clear hseq hSN
  go_enter Try.func111, Try.ntmps111
  go_wp2_with fail
  refine Calls.mono H.out ?_
  rintro e w1 ⟨A, c, ss, rfl, hS, ho, hb⟩
  have HS := hid_ hS
  have Hb := hid_ hb
  have hl := HSN.out ss hS
  rcases Nat.eq_zero_or_pos ss.length with h0 | hpos
  · have Hrow := hid_ ho.row
    have hss : ss = [] := List.eq_nil_of_length_eq_zero h0
    subst hss
    have Hz := hid_ (fun W => Ns.sort_zero A c W)
    clear hS ho hb h0
    simp only [List.length_nil] at *
    go_wp2_with fail
    refine Calls.mono (Hz.out _) ?_
    rintro e w2 ⟨rfl, rfl⟩
    go_wp2_with fail
    go_ret
    exact sortedU_mk HS.out (List.Perm.refl _) List.Pairwise.nil Hrow.out Hb.out
  · obtain ⟨q, rfl, hq1, hq2, hq3⟩ := ho.place hpos
    have hrow := ho.row
    have hf : ∀ o, w1.frozen? ⟨q, o, none⟩ = false := by
      intro o
      rcases ho.2 with ⟨e', _⟩ | ⟨gg, cap, cur, e', _, hh, _⟩
      · cases e'
      · injection e' with e1
        injection e1 with e1
        injection e1 with e1
        subst e1
        simp [World.frozen?, hh]
    have Hs := hid_ (Ns.sort_some w.heap.size w1 q 0 ss.length c ss w1 (Ns.nst_of hrow hq1 hq2 hf) rfl (by omega) hq3)
    have hmx := hrow.max
    clear hS ho hb hrow hf
    go_wp2_with fail
    refine Calls.mono Hs.out ?_
    rintro e w2 ⟨rfl, ks, hp, hpw, hst⟩
    have HP := hid_ hp
    have HW := hid_ hpw
    have HR := hid_ (Ns.row_of hst hp.length_eq hq3 hmx)
    have Hb2 := hid_ (Hb.out.trans hst.bel)
    clear hp hpw hst
    go_wp2_with fail
    go_ret
    exact sortedU_mk HS.out HP.out HW.out HR.out Hb2.out
end Vw
end Go.Proofs.Ytcmoelphjdehaaa
