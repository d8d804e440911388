/-
  One verdict over registers: plain mathematics.
-/
import Derived.Test.YtljlhaillmeedaaZGRM
import Derived.Test.YtljlhaillmeedaaZGRN
import Derived.Deep.Matrix
import Derived.WideShapes
import Derived.Laws.MakeOwn
import Derived.IntWalk
namespace Go.Proofs.Ytljlhaillmeedaa
set_option linter.unusedSimpArgs false
set_option linter.unusedVariables false
open Go.RowKit Rg Bl
namespace Re
set_option linter.unusedSimpArgs false
set_option linter.unusedVariables false
theorem nodup_le : ∀ (n : Nat) (l : List Nat), l.Nodup → (∀ x ∈ l, x < n) → l.length ≤ n
  | 0, l, _, h => by
    cases l with
    | nil => exact Nat.le_refl _
    | cons a t => exact absurd (h a (by simp)) (by omega)
  | n + 1, l, hn, h => by
    have h1 := nodup_le n (l.erase n) (hn.erase n) (fun x hx => by
      have := (hn.mem_erase_iff).1 hx
      have h2 := h x this.2
      have h3 := this.1
      omega)
    by_cases hm : n ∈ l
    · rw [List.length_erase_of_mem hm] at h1
      omega
    · rw [List.erase_of_not_mem hm] at h1
      omega
/-- A quorum of n. -/
structure Quo (n : Nat) (Q : List Nat) : Prop where
  nd : Q.Nodup
  lt : ∀ y ∈ Q, y < n
  big : n < 2 * Q.length
theorem Quo.meets {n : Nat} {P Q : List Nat} (h : Quo n P) (k : Quo n Q) : ∃ y, y ∈ P ∧ y ∈ Q := by
  refine Classical.byContradiction fun hno => ?_
  have hd : (P ++ Q).Nodup := by
    rw [List.nodup_append]
    refine ⟨h.nd, k.nd, fun a ha b hb e => hno ⟨a, ha, by rw [e]; exact hb⟩⟩
  have h1 := nodup_le n (P ++ Q) hd (fun x hx => by
    rcases List.mem_append.1 hx with h2 | h2
    · exact h.lt x h2
    · exact k.lt x h2)
  rw [List.length_append] at h1
  have := h.big
  have := k.big
  omega
abbrev regAt (regs : List RegD) (x : Nat) : RegD := regs.getD x zeroR
/-- Why v could be proposed under b: of a quorum that has promised it, none had voted below it, or v is what its highest vote said. -/
def SafeAt (n : Nat) (regs : List RegD) (W : Nat → BalD → Int → Prop) (b : BalD) (v : Int) (Q : List Nat) : Prop :=
  Quo n Q ∧ (∀ y ∈ Q, lessB (regAt regs y).p b = false) ∧
    ((∀ y ∈ Q, ∀ b0 v0, W y b0 v0 → lessB b0 b = false) ∨ ∃ b' z, lessB b' b = true ∧ W z b' v ∧ ∀ y ∈ Q, ∀ b0 v0, W y b0 v0 → lessB b0 b = true → lessB b' b0 = false)
structure Inv (n i : Nat) (regs : List RegD) (seen : BalD) (W : Nat → BalD → Int → Prop) (chosen : List Int) : Prop where
  len : regs.length = n
  right : ∀ x, x < n → rightR (regAt regs x) = true
  low : ∀ x, x < n → (regAt regs x).p.pos ≤ i
  lows : seen.pos ≤ i
  vt : ∀ x, x < n → (regAt regs x).t ≠ ⟨0, 0⟩ → W x (regAt regs x).t (regAt regs x).v
  vle : ∀ x b v, W x b v → x < n ∧ b.pos ≠ 0 ∧ lessB (regAt regs x).t b = false
  vone : ∀ x y b v v', W x b v → W y b v' → v = v'
  safe : ∀ x b v, W x b v → ∃ Q, SafeAt n regs W b v Q
  ch : ∀ c ∈ chosen, ∃ b M, Quo n M ∧ ∀ y ∈ M, W y b c
theorem wfB : WellFounded (fun a b : BalD => lessB a b = true) := by
  refine Subrelation.wf (r := InvImage (Prod.Lex (· < ·) (· < ·)) (fun a : BalD => (a.pos, a.id))) ?_ (InvImage.wf _ (Prod.lex Nat.lt_wfRel Nat.lt_wfRel).wf)
  intro a b h
  have h := of_decide_eq_true h
  show Prod.Lex (· < ·) (· < ·) (a.pos, a.id) (b.pos, b.id)
  rcases h with h | ⟨h1, h2⟩
  · exact Prod.Lex.left _ _ h
  · rw [h1]; exact Prod.Lex.right _ h2
theorem Inv.above {n i : Nat} {regs : List RegD} {seen : BalD} {W : Nat → BalD → Int → Prop} {chosen : List Int} (h : Inv n i regs seen W chosen) {b0 : BalD} {c : Int} {M : List Nat} (hq : Quo n M) (hm : ∀ y ∈ M, W y b0 c) :
    ∀ b, ∀ x v, W x b v → lessB b b0 = false → v = c := by
  intro b
  refine wfB.induction (C := fun b => ∀ x v, W x b v → lessB b b0 = false → v = c) b ?_
  intro b ih x v hw hle
  rcases le_cases hle with rfl | hlt
  · obtain ⟨y, hy, -⟩ := hq.meets hq
    exact h.vone _ _ _ _ _ hw (hm y hy)
  · obtain ⟨Q, hQ, hp, h1⟩ := h.safe x b v hw
    obtain ⟨y, hy, hyQ⟩ := hq.meets hQ
    rcases h1 with h1 | ⟨b', z, hb', hz, h1⟩
    · rw [h1 y hyQ b0 c (hm y hy)] at hlt
      cases hlt
    · exact ih b' hb' z v hz (h1 y hyQ b0 c (hm y hy) hlt)
theorem Inv.one {n i : Nat} {regs : List RegD} {seen : BalD} {W : Nat → BalD → Int → Prop} {chosen : List Int} (h : Inv n i regs seen W chosen) {c d : Int} (hc : c ∈ chosen) (hd : d ∈ chosen) : c = d := by
  obtain ⟨b, M, hM, hm⟩ := h.ch c hc
  obtain ⟨b2, M2, hM2, hm2⟩ := h.ch d hd
  obtain ⟨y, hy, -⟩ := hM.meets hM
  obtain ⟨z, hz, -⟩ := hM2.meets hM2
  rcases hs : lessB b2 b with _ | _
  · exact (h.above hM hm b2 z d (hm2 z hz) hs).symm
  · have hs2 : lessB b b2 = false := by
      rcases hx : lessB b b2 with _ | _
      · rfl
      · exact (less_irr hs hx).elim
    exact h.above hM2 hm2 b y c (hm y hy) hs2
theorem at_set_same {regs : List RegD} {x : Nat} (r : RegD) (h : x < regs.length) : regAt (regs.set x r) x = r := by
  simp [regAt, List.getD, h]
theorem at_set_other {regs : List RegD} {x y : Nat} (r : RegD) (h : y ≠ x) : regAt (regs.set x r) y = regAt regs y := by
  simp only [regAt, List.getD, List.getElem?_set_ne (Ne.symm h)]
theorem at_mem {regs : List RegD} {x : Nat} (h : x < regs.length) : regAt regs x = regs[x] := by
  simp [regAt, List.getD, h]
/-- What an ask does to the whole: promises rise, nothing is taken. -/
theorem Inv.asks {n i : Nat} {regs : List RegD} {seen : BalD} {W : Nat → BalD → Int → Prop} {chosen : List Int} (h : Inv n i regs seen W chosen) {x : Nat} (hx : x < n) {b : BalD} (hb : b.pos ≤ i) :
    Inv n i (regs.set x (prepD (regAt regs x) b)) seen W chosen := by
  have hl : x < regs.length := by rw [h.len]; exact hx
  have ht : ∀ y, (regAt (regs.set x (prepD (regAt regs x) b)) y).t = (regAt regs y).t ∧ (regAt (regs.set x (prepD (regAt regs x) b)) y).v = (regAt regs y).v ∧ lessB (regAt (regs.set x (prepD (regAt regs x) b)) y).p (regAt regs y).p = false := by
    intro y
    by_cases e : y = x
    · subst e
      rw [at_set_same _ hl]
      rcases hL : lateB (regAt regs y) b with _ | _
      · rw [prep_yes hL]; exact ⟨rfl, rfl, ((late_iff _ _).1 hL).2⟩
      · rw [prep_no hL]; exact ⟨rfl, rfl, less_self _⟩
    · rw [at_set_other _ e]; exact ⟨rfl, rfl, less_self _⟩
  refine ⟨by rw [List.length_set]; exact h.len, fun y hy => ?_, fun y hy => ?_, h.lows, fun y hy => ?_, fun y c v hw => ?_, h.vone, fun y c v hw => ?_, h.ch⟩
  · by_cases e : y = x
    · subst e; rw [at_set_same _ hl]; exact prep_right (h.right y hy)
    · rw [at_set_other _ e]; exact h.right y hy
  · by_cases e : y = x
    · subst e
      rw [at_set_same _ hl]
      unfold prepD
      split
      · exact h.low y hy
      · exact hb
    · rw [at_set_other _ e]; exact h.low y hy
  · rw [(ht y).1, (ht y).2.1]; exact h.vt y hy
  · rw [(ht y).1]; exact h.vle y c v hw
  · obtain ⟨Q, hQ, hp, h1⟩ := h.safe y c v hw
    exact ⟨Q, hQ, fun z hz => le_on (ht z).2.2 (hp z hz), h1⟩
theorem Inv.sees {n i : Nat} {regs : List RegD} {seen s2 : BalD} {W : Nat → BalD → Int → Prop} {chosen : List Int} (h : Inv n i regs seen W chosen) (hs : s2.pos ≤ i) : Inv n i regs s2 W chosen :=
  ⟨h.len, h.right, h.low, hs, h.vt, h.vle, h.vone, h.safe, h.ch⟩
theorem Inv.later {n i j : Nat} {regs : List RegD} {seen : BalD} {W : Nat → BalD → Int → Prop} {chosen : List Int} (h : Inv n i regs seen W chosen) (hij : i ≤ j) : Inv n j regs seen W chosen :=
  ⟨h.len, h.right, fun x hx => Nat.le_trans (h.low x hx) hij, Nat.le_trans h.lows hij, h.vt, h.vle, h.vone, h.safe, h.ch⟩
/-- What is known of those that were asked. -/
structure Asked (n : Nat) (b : BalD) (want : Int) (regs : List RegD) (asked : List Nat) (best : BalD) (v : Int) : Prop where
  nd : asked.Nodup
  lt : ∀ y ∈ asked, y < n
  pr : ∀ y ∈ asked, (regAt regs y).p = b
  from_ : (v = want ∧ ∀ y ∈ asked, (regAt regs y).v = 0) ∨ ∃ z ∈ asked, (regAt regs z).t = best ∧ (regAt regs z).v = v ∧ v ≠ 0
  top : ∀ y ∈ asked, (regAt regs y).v ≠ 0 → lessB best (regAt regs y).t = false
theorem asked_zero (n : Nat) (b : BalD) (want : Int) (regs : List RegD) : Asked n b want regs [] ⟨0, 0⟩ want :=
  ⟨List.nodup_nil, by simp, by simp, .inl ⟨rfl, by simp⟩, by simp⟩
/-- One more has promised; best0: is best still zero where nothing was told? -/
theorem Asked.more {n : Nat} {b : BalD} {want : Int} {regs : List RegD} {asked : List Nat} {best : BalD} {v : Int} (h : Asked n b want regs asked best v) {x : Nat} (hx : x < n) (hl : regs.length = n) (hno : x ∉ asked) (hok : lateB (regAt regs x) b = false)
    (best' : BalD) (v' : Int) (hnew : ((regAt regs x).v ≠ 0 ∧ lessB best (regAt regs x).t = true ∧ best' = (regAt regs x).t ∧ v' = (regAt regs x).v) ∨ (((regAt regs x).v = 0 ∨ lessB best (regAt regs x).t = false) ∧ best' = best ∧ v' = v))
    (hz : (v = want ∧ ∀ y ∈ asked, (regAt regs y).v = 0) → best = ⟨0, 0⟩) (hr : rightR (regAt regs x) = true) :
    Asked n b want (regs.set x (prepD (regAt regs x) b)) (asked ++ [x]) best' v' := by
  have hxl : x < regs.length := by rw [hl]; exact hx
  have e := prep_yes hok
  have hat : ∀ y, y ∈ asked → regAt (regs.set x (prepD (regAt regs x) b)) y = regAt regs y := fun y hy => at_set_other _ (fun e => hno (by rw [← e]; exact hy))
  have hxx : regAt (regs.set x (prepD (regAt regs x) b)) x = ⟨b, (regAt regs x).t, (regAt regs x).v⟩ := by rw [at_set_same _ hxl, e]
  refine ⟨?_, fun y hy => ?_, fun y hy => ?_, ?_, fun y hy => ?_⟩
  · rw [List.nodup_append]
    exact ⟨h.nd, by simp, fun a ha c hc e2 => by
      rw [List.mem_singleton] at hc
      rw [e2, hc] at ha
      exact hno ha⟩
  · rcases List.mem_append.1 hy with h1 | h1
    · exact h.lt y h1
    · rw [List.mem_singleton] at h1; rw [h1]; exact hx
  · rcases List.mem_append.1 hy with h1 | h1
    · rw [hat y h1]; exact h.pr y h1
    · rw [List.mem_singleton] at h1; rw [h1, hxx]
  · rcases hnew with ⟨h1, h2, rfl, rfl⟩ | ⟨h1, rfl, rfl⟩
    · exact .inr ⟨x, by simp, by rw [hxx], by rw [hxx], h1⟩
    · rcases h.from_ with ⟨h2, h3⟩ | ⟨z, hz1, h2, h3, h4⟩
      · by_cases hv : (regAt regs x).v = 0
        · refine .inl ⟨h2, fun y hy => ?_⟩
          rcases List.mem_append.1 hy with h4 | h4
          · rw [hat y h4]; exact h3 y h4
          · rw [List.mem_singleton] at h4; rw [h4, hxx]; exact hv
        · have h5 := h1.resolve_left hv
          rw [hz ⟨h2, h3⟩] at h5
          have h6 := of_decide_eq_false h5
          have h7 : (regAt regs x).t = ⟨0, 0⟩ := by
            have : (regAt regs x).t = ⟨(regAt regs x).t.pos, (regAt regs x).t.id⟩ := rfl
            rw [this]
            have h8 : (regAt regs x).t.pos = 0 := by simp only at h6; omega
            have h9 : (regAt regs x).t.id = 0 := by simp only at h6; omega
            rw [h8, h9]
          exact absurd (((right_iff _).1 hr).2.1 h7) hv
      · exact .inr ⟨z, by simp [hz1], by rw [hat z hz1]; exact h2, by rw [hat z hz1]; exact h3, h4⟩
  · rcases List.mem_append.1 hy with h4 | h4
    · rw [hat y h4]
      intro hv
      rcases hnew with ⟨h1, h2, rfl, rfl⟩ | ⟨h1, rfl, rfl⟩
      · rcases hx2 : lessB (regAt regs x).t (regAt regs y).t with _ | _
        · rfl
        · have h5 := h.top y h4 hv
          have h6 := less_on h2 hx2
          rw [h5] at h6
          cases h6
      · exact h.top y h4 hv
    · rw [List.mem_singleton] at h4
      rw [h4, hxx]
      intro hv
      rcases hnew with ⟨h1, h2, rfl, rfl⟩ | ⟨h1, rfl, rfl⟩
      · exact less_self _
      · exact h1.resolve_left hv
/-- What a proposal stands on while it is told. -/
structure Tells (n : Nat) (b : BalD) (v : Int) (regs : List RegD) (W : Nat → BalD → Int → Prop) : Prop where
  b0 : b.pos ≠ 0
  v0 : 1 ≤ v ∧ v ≤ 3
  one : ∀ x v', W x b v' → v' = v
  safe : ∃ Q, SafeAt n regs W b v Q
theorem tells_of {n i : Nat} {regs : List RegD} {seen : BalD} {W : Nat → BalD → Int → Prop} {chosen : List Int} (h : Inv n i regs seen W chosen) {b : BalD} {want : Int} {asked : List Nat} {best : BalD} {v : Int} (hA : Asked n b want regs asked best v)
    (hw : 1 ≤ want ∧ want ≤ 3) (hb : b.pos ≠ 0) (hbig : n < 2 * asked.length) (hun : ∀ x, x < n → (regAt regs x).t ≠ b) : Tells n b v regs W := by
  have hQ : Quo n asked := ⟨hA.nd, hA.lt, hbig⟩
  have hnone : ∀ x v', ¬ W x b v' := by
    intro x v' hx
    obtain ⟨hxn, -, hle⟩ := h.vle x b v' hx
    have hlt : lessB b (regAt regs x).t = true := by
      rcases le_cases hle with e | e
      · exact absurd e.symm (hun x hxn)
      · exact e
    have hne : (regAt regs x).t ≠ ⟨0, 0⟩ := by
      intro e
      rw [e] at hlt
      have := of_decide_eq_true hlt
      simp only at this
      omega
    obtain ⟨Q, hQ1, hp, -⟩ := h.safe x _ _ (h.vt x hxn hne)
    obtain ⟨y, hy1, hy2⟩ := hQ.meets hQ1
    have h3 := hp y hy2
    rw [hA.pr y hy1, hlt] at h3
    cases h3
  have hzero : ∀ y, y < n → (regAt regs y).v = 0 → ∀ c u, W y c u → False := by
    intro y hy hv c u hw2
    obtain ⟨-, h1, h2⟩ := h.vle y c u hw2
    have ht : (regAt regs y).t = ⟨0, 0⟩ := by
      refine Classical.byContradiction fun hn => ?_
      have := ((right_iff _).1 (h.right y hy)).2.2 hn
      omega
    rw [ht] at h2
    have h3 := of_decide_eq_false h2
    simp only at h3
    omega
  have hv : 1 ≤ v ∧ v ≤ 3 := by
    rcases hA.from_ with ⟨rfl, -⟩ | ⟨z, hz, h1, h2, h3⟩
    · exact hw
    · have hr := (right_iff _).1 (h.right z (hA.lt z hz))
      have hn : (regAt regs z).t ≠ ⟨0, 0⟩ := fun e => h3 (by rw [← h2]; exact hr.2.1 e)
      rw [← h2]
      exact hr.2.2 hn
  refine ⟨hb, hv, fun x v' hx => absurd hx (hnone x v'), asked, hQ, fun y hy => by rw [hA.pr y hy]; exact less_self b, ?_⟩
  rcases hA.from_ with ⟨-, h1⟩ | ⟨z, hz, h1, h2, h3⟩
  · exact .inl fun y hy c u hw2 => (hzero y (hA.lt y hy) (h1 y hy) c u hw2).elim
  · have hzn := hA.lt z hz
    have hr := (right_iff _).1 (h.right z hzn)
    have hn : (regAt regs z).t ≠ ⟨0, 0⟩ := fun e => h3 (by rw [← h2]; exact hr.2.1 e)
    refine .inr ⟨best, z, ?_, ?_, fun y hy c u hw2 hlt => ?_⟩
    · have h4 := hr.1
      rw [hA.pr z hz] at h4
      rcases le_cases h4 with e | e
      · exact absurd e (hun z hzn)
      · rw [← h1]; exact e
    · have := h.vt z hzn hn
      rwa [h1, h2] at this
    · by_cases hv0 : (regAt regs y).v = 0
      · exact (hzero y (hA.lt y hy) hv0 c u hw2).elim
      · exact le_on (hA.top y hy hv0) (h.vle y c u hw2).2.2
theorem Inv.tells {n i : Nat} {regs : List RegD} {seen : BalD} {W : Nat → BalD → Int → Prop} {chosen : List Int} (h : Inv n i regs seen W chosen) {b : BalD} {v : Int} (hT : Tells n b v regs W) (hbi : b.pos ≤ i) {x : Nat} (hx : x < n) :
    ∃ W', Inv n i (regs.set x (accD (regAt regs x) b v)) seen W' chosen ∧ Tells n b v (regs.set x (accD (regAt regs x) b v)) W' := by
  have hl : x < regs.length := by rw [h.len]; exact hx
  rcases ht : takesB (regAt regs x) b v with _ | _
  · refine ⟨W, ?_⟩
    have e : regs.set x (accD (regAt regs x) b v) = regs := by
      rw [acc_no ht, at_mem hl, List.set_getElem_self]
    rw [e]
    exact ⟨h, hT⟩
  · have hlate := ((takes_iff _ _ _).1 ht).1
    have hpb := ((late_iff _ _).1 hlate).2
    rw [acc_yes ht]
    have hs : ∀ y, lessB (regAt (regs.set x ⟨b, b, v⟩) y).p (regAt regs y).p = false := by
      intro y
      by_cases e : y = x
      · subst e; rw [at_set_same _ hl]; exact hpb
      · rw [at_set_other _ e]; exact less_self _
    have hold : ∀ c, lessB (regAt regs x).p c = false → lessB b c = false := fun c hc => le_on hpb hc
    have hsafe : ∀ c u Q, SafeAt n regs W c u Q → (∀ y ∈ Q, y = x → lessB b c = false) → SafeAt n (regs.set x ⟨b, b, v⟩) (fun y c u => W y c u ∨ (y = x ∧ c = b ∧ u = v)) c u Q := by
      rintro c u Q ⟨hQ, hp, h1⟩ hc
      refine ⟨hQ, fun y hy => le_on (hs y) (hp y hy), ?_⟩
      rcases h1 with h1 | ⟨b', z, g1, g2, g3⟩
      · refine .inl fun y hy c0 u0 hw => ?_
        rcases hw with hw | ⟨rfl, rfl, rfl⟩
        · exact h1 y hy c0 u0 hw
        · exact hc y hy rfl
      · refine .inr ⟨b', z, g1, .inl g2, fun y hy c0 u0 hw hlt => ?_⟩
        rcases hw with hw | ⟨rfl, rfl, rfl⟩
        · exact g3 y hy c0 u0 hw hlt
        · rw [hc y hy rfl] at hlt; cases hlt
    refine ⟨fun y c u => W y c u ∨ (y = x ∧ c = b ∧ u = v), ⟨by rw [List.length_set]; exact h.len, fun y hy => ?_, fun y hy => ?_, h.lows, fun y hy hne => ?_, fun y c u hw => ?_, fun y z c u u' h1 h2 => ?_, fun y c u hw => ?_, fun c hc => ?_⟩, ⟨hT.b0, hT.v0, fun y u hw => ?_, ?_⟩⟩
    · by_cases e : y = x
      · subst e
        rw [at_set_same _ hl]
        have := acc_right (b := b) (v := v) (h.right y hy)
        rwa [acc_yes ht] at this
      · rw [at_set_other _ e]; exact h.right y hy
    · by_cases e : y = x
      · subst e; rw [at_set_same _ hl]; exact hbi
      · rw [at_set_other _ e]; exact h.low y hy
    · by_cases e : y = x
      · subst e; rw [at_set_same _ hl]; exact .inr ⟨rfl, rfl, rfl⟩
      · rw [at_set_other _ e] at hne ⊢; exact .inl (h.vt y hy hne)
    · rcases hw with hw | ⟨rfl, rfl, rfl⟩
      · obtain ⟨g1, g2, g3⟩ := h.vle y c u hw
        refine ⟨g1, g2, ?_⟩
        by_cases e : y = x
        · subst e
          rw [at_set_same _ hl]
          exact hold c (le_on ((right_iff _).1 (h.right y hx)).1 g3)
        · rw [at_set_other _ e]; exact g3
      · exact ⟨hx, hT.b0, by rw [at_set_same _ hl]; exact less_self _⟩
    · rcases h1 with h1 | ⟨-, rfl, rfl⟩ <;> rcases h2 with h2 | ⟨-, e, rfl⟩
      · exact h.vone y z c u u' h1 h2
      · subst e; exact hT.one y u h1
      · exact (hT.one z u' h2).symm
      · rfl
    · rcases hw with hw | ⟨rfl, rfl, rfl⟩
      · obtain ⟨Q, hS⟩ := h.safe y c u hw
        exact ⟨Q, hsafe c u Q hS (fun z hz e => hold c (by rw [← e]; exact hS.2.1 z hz))⟩
      · obtain ⟨Q, hS⟩ := hT.safe
        exact ⟨Q, hsafe _ _ Q hS (fun _ _ _ => less_self _)⟩
    · obtain ⟨b1, M, hM, hm⟩ := h.ch c hc
      exact ⟨b1, M, hM, fun y hy => .inl (hm y hy)⟩
    · rcases hw with hw | ⟨-, -, rfl⟩
      · exact hT.one y u hw
      · rfl
    · obtain ⟨Q, hS⟩ := hT.safe
      exact ⟨Q, hsafe _ _ Q hS (fun _ _ _ => less_self _)⟩
/-- A verdict that more than half have taken under one ballot. -/
theorem Inv.takes {n i : Nat} {regs : List RegD} {seen : BalD} {W : Nat → BalD → Int → Prop} {chosen : List Int} (h : Inv n i regs seen W chosen) {c : Int} {t : BalD} {M : List Nat} (hM : Quo n M) (hm : ∀ y ∈ M, (regAt regs y).v ≠ 0 ∧ (regAt regs y).t = t ∧ (regAt regs y).v = c) : Inv n i regs seen W (chosen ++ [c]) :=
  ⟨h.len, h.right, h.low, h.lows, h.vt, h.vle, h.vone, h.safe, fun d hd => by
    rcases List.mem_append.1 hd with h1 | h1
    · exact h.ch d h1
    · rw [List.mem_singleton] at h1
      subst h1
      refine ⟨t, M, hM, fun y hy => ?_⟩
      obtain ⟨g1, g2, g3⟩ := hm y hy
      have hn : (regAt regs y).t ≠ ⟨0, 0⟩ := fun e => g1 (((right_iff _).1 (h.right y (hM.lt y hy))).2.1 e)
      have := h.vt y (hM.lt y hy) hn
      rwa [g2, g3] at this⟩
theorem inv_zero (n : Nat) : Inv n 0 (List.replicate n zeroR) ⟨0, 0⟩ (fun _ _ _ => False) [] := by
  have e : ∀ x, regAt (List.replicate n zeroR) x = zeroR := fun x => by
    simp only [regAt, List.getD, List.getElem?_replicate]
    split <;> rfl
  refine ⟨by simp, fun x _ => by rw [e]; rfl, fun x _ => by rw [e]; exact Nat.le_refl _, Nat.le_refl _, fun x _ hn => by rw [e] at hn; exact absurd rfl hn, fun x b v hw => hw.elim, fun x y b v v' hw => hw.elim, fun x b v hw => hw.elim, fun c hc => by cases hc⟩
end Re
end Go.Proofs.Ytljlhaillmeedaa

/-
  in, used, most: what RegisterOnce asks of its rows.
-/
namespace Go.Proofs.Ytljlhaillmeedaa
set_option linter.unusedSimpArgs false
set_option linter.unusedVariables false
open Go.RowKit Rg Bl
namespace Re
set_option linter.unusedSimpArgs false
set_option linter.unusedVariables false
theorem below_drewN {B : Nat} {a b : World} (h : Below B a b) (n : Nat) : Below B a (b.drewN n) := ⟨h.os, h.tape, h.output, h.size, h.block⟩
def natE : Enc Nat := ⟨fun k => [.int .i64 (k : Nat)], 1, fun _ => rfl, by decide, fun p u hu => by
  simp at hu
  subst hu
  rfl⟩
def verE : Enc Int := ⟨fun k => [.int .i64 k], 1, fun _ => rfl, by decide, fun p u hu => by
  simp at hu
  subst hu
  rfl⟩
def regE : Enc RegD := ⟨fun r => (regCells r).toList, 5, fun _ => rfl, by decide, fun p u hu => by
  simp at hu
  rcases hu with rfl | rfl | rfl | rfl | rfl <;> rfl⟩
theorem nat_at {w : World} {A : Option Addr} {n c : Nat} {l : List Nat} (h : natE.Row w A n c l) {k : Nat} (hk : k < l.length) : ∃ b off, A = some ⟨b, off, none⟩ ∧ b < w.heap.size ∧ w.cell? ⟨b, off + k, none⟩ = some (.int .i64 (l[k] : Nat)) := by
  obtain ⟨b, off, e, hb, hc⟩ := h.at_ hk
  have := hc 0 (.int .i64 (l[k] : Nat)) rfl
  rw [show off + k * natE.K + 0 = off + k by show off + k * 1 + 0 = _; omega] at this
  exact ⟨b, off, e, hb, this⟩
theorem ver_at {w : World} {A : Option Addr} {n c : Nat} {l : List Int} (h : verE.Row w A n c l) {k : Nat} (hk : k < l.length) : ∃ b off, A = some ⟨b, off, none⟩ ∧ b < w.heap.size ∧ w.cell? ⟨b, off + k, none⟩ = some (.int .i64 l[k]) := by
  obtain ⟨b, off, e, hb, hc⟩ := h.at_ hk
  have := hc 0 (.int .i64 l[k]) rfl
  rw [show off + k * verE.K + 0 = off + k by show off + k * 1 + 0 = _; omega] at this
  exact ⟨b, off, e, hb, this⟩
theorem reg_at {w : World} {A : Option Addr} {n c : Nat} {l : List RegD} (h : regE.Row w A n c l) {k : Nat} (hk : k < l.length) : ∃ b off, A = some ⟨b, off, none⟩ ∧ b < w.heap.size ∧ w.cell? ⟨b, off + k * 5, none⟩ = some (.int .u64 (l[k].p.pos : Nat)) ∧ w.cell? ⟨b, off + k * 5 + 1, none⟩ = some (.int .u64 (l[k].p.id : Nat)) ∧ w.cell? ⟨b, off + k * 5 + 2, none⟩ = some (.int .u64 (l[k].t.pos : Nat)) ∧ w.cell? ⟨b, off + k * 5 + 3, none⟩ = some (.int .u64 (l[k].t.id : Nat)) ∧ w.cell? ⟨b, off + k * 5 + 4, none⟩ = some (.int .i64 l[k].v) := by
  obtain ⟨b, off, e, hb, hc⟩ := h.at_ hk
  exact ⟨b, off, e, hb, hc 0 _ rfl, hc 1 _ rfl, hc 2 _ rfl, hc 3 _ rfl, hc 4 _ rfl⟩
set_option maxHeartbeats 4000000 in
theorem in_any (A : Option Addr) (n c : Nat) (l : List Nat) (x : Nat) (w : World) (h : natE.Row w A n c l) : Calls Try.prog 40 #[.slice A n c, .int .i64 (x : Nat)] w (RetB w.heap.size w (.bool (decide (x ∈ l)))) := by
  have hle := h.le
  have HL := hid_ h.len
  have HR := hid_ h
  clear h
  go_enter Try.func40, Try.ntmps40
  go_wp2_with fail
  go_loopw [5] (fun vi wr => ∃ k : Nat, k ≤ n ∧ vi = .int .i64 (k : Nat) ∧ Hid (∀ y ∈ l.take k, y ≠ x) ∧ Hid (Below w.heap.size w wr)) (fun vi _ => n - (intOf vi).toNat)
  case atStart => exact ⟨0, Nat.zero_le _, rfl, hid_ (by simp), hid_ (Below.refl _ _)⟩
  case round =>
    obtain ⟨k, hk, rfl, HN, HB⟩ := hrel
    by_cases hlt : k < n
    · have hkl : k < l.length := by rw [HL.out]; exact hlt
      obtain ⟨b, off, rfl, hbl, c0⟩ := nat_at (HR.out.below HB.out) hkl
      have x1 : (k : Int) < (n : Int) := by omega
      have x2 : (0 : Int) ≤ (k : Int) := by omega
      have HK := hid_ hlt
      have HIn := hid_ (List.getElem_mem hkl)
      have HNx := hid_ (fun (h : l[k] ≠ x) => show ∀ y ∈ l.take (k + 1), y ≠ x by
        intro y hy
        rw [List.take_succ_eq_append_getElem hkl] at hy
        rcases List.mem_append.1 hy with h1 | h1
        · exact HN.out y h1
        · rw [List.mem_singleton] at h1; rw [h1]; exact h)
      generalize l[k] = z at *
      clear hlt hkl hbl
      by_cases hz : z = x
      · subst hz
        have e1 : (z == z) = true := by simp
        have e2 : ((z : Int) == (z : Int)) = true := by simp
        have HD := hid_ (show decide (z ∈ l) = true from decide_eq_true HIn.out)
        clear HIn HNx
        go_wp2_with fail
        go_ret
        exact retB_mk (by rw [HD.out]; rfl) HB.out
      · have e1 : (z == x) = false := by rw [beq_eq_false_iff_ne]; exact hz
        have e2 : ((z : Int) == (x : Int)) = false := by rw [beq_eq_false_iff_ne]; omega
        have HN2 := hid_ (HNx.out hz)
        clear hz HIn HNx
        go_wp2_with fail
        go_roundw
        case rel => exact ⟨k + 1, by have := HK.out; omega, by go_num, HN2, HB⟩
        case measure => have := HK.out; simp [intOf]; omega
    · obtain rfl : k = n := by omega
      have HD := hid_ (show decide (x ∈ l) = false from decide_eq_false (fun hx => HN.out x (by rw [List.take_of_length_le (by rw [HL.out]; exact Nat.le_refl _)]; exact hx) rfl))
      go_wp2_with fail
      go_ret
      exact retB_mk (by rw [HD.out]; rfl) HB.out
/-- Was something taken under b? (The other way is not said.) -/
def UsedPost (w : World) (l : List RegD) (b : BalD) (e : Ending) (w' : World) : Prop := ∃ u : Bool, e = .returned (.bool u) ∧ (u = false → ∀ r ∈ l, r.t ≠ b) ∧ Below w.heap.size w w'
theorem usedPost_mk {w w' : World} {l : List RegD} {b : BalD} {u : Bool} (h : u = false → ∀ r ∈ l, r.t ≠ b) (hb : Below w.heap.size w w') : UsedPost w l b (.returned (.bool u)) w' := ⟨u, rfl, h, hb⟩
set_option maxRecDepth 20000 in
set_option maxHeartbeats 4000000 in
theorem used_any (A0 : Option Addr) (n0 c0 : Nat) (hn0 : n0 ≤ 1000) (A : Option Addr) (n c : Nat) (l : List RegD) (b : BalD) (w : World) (h : regE.Row w A n c l) : Calls Try.prog 42 #[.slice A0 n0 c0, .slice A n c, ptVal b] w (UsedPost w l b) := by
  have hle := h.le
  have HL := hid_ h.len
  have HB0 := hid_ ((Below.refl w.heap.size w).alloc (Nat.le_refl _) (.cells #[.int .u64 (b.pos : Nat), .int .u64 (b.id : Nat)] 50))
  have HR := hid_ (h.below HB0.out)
  have HW := hid_ (whole_new w 50 #[.int .u64 (b.pos : Nat), .int .u64 (b.id : Nat)])
  clear h
  go_enter Try.func42, Try.ntmps42
  go_wp2_with fail
  generalize w.alloc (.cells #[.int .u64 (b.pos : Nat), .int .u64 (b.id : Nat)] 50) = w1 at *
  go_loopw [7] (fun vi wr => ∃ k : Nat, k ≤ n ∧ vi = .int .i64 (k : Nat) ∧ Hid (∀ r ∈ l.take k, r.t ≠ b) ∧ Hid (Below w1.heap.size w1 wr)) (fun vi _ => n - (intOf vi).toNat)
  case atStart => exact ⟨0, Nat.zero_le _, rfl, hid_ (by simp), hid_ (Below.refl _ _)⟩
  case round =>
    obtain ⟨k, hk, rfl, HN, HB⟩ := hrel
    by_cases hlt : k < n
    · have hkl : k < l.length := by rw [HL.out]; exact hlt
      obtain ⟨g, off, rfl, hbl, r0, r1, r2, r3, r4⟩ := reg_at (HR.out.below HB.out) hkl
      have x1 : (k : Int) < (n : Int) := by omega
      have x2 : (0 : Int) ≤ (k : Int) := by omega
      have HK := hid_ hlt
      have HNx := hid_ (fun (h : l[k].t ≠ b) => show ∀ r ∈ l.take (k + 1), r.t ≠ b by
        intro y hy
        rw [List.take_succ_eq_append_getElem hkl] at hy
        rcases List.mem_append.1 hy with h1 | h1
        · exact HN.out y h1
        · rw [List.mem_singleton] at h1; rw [h1]; exact h)
      have HW1 := hid_ (HW.out.below HB.out HW.out.lt)
      have z0 := HW1.out.cell 0 (.int .u64 (b.pos : Nat)) rfl
      have z1 := HW1.out.cell 1 (.int .u64 (b.id : Nat)) rfl
      generalize l[k] = z at *
      have kn : ∀ w, (binOp .eql 50 (.agg #[.int .u64 (z.t.pos : Nat), .int .u64 (z.t.id : Nat)]) (.agg #[.int .u64 (b.pos : Nat), .int .u64 (b.id : Nat)])).run Try.prog w = .ok (.bool (sameB z.t b)) w := fun w => bal_eql z.t b w
      clear hlt hkl hbl r0 r1 r4
      cases hs : sameB z.t b
      · rw [hs] at kn
        have HN2 := hid_ (HNx.out (fun e => by rw [(sameB_iff _ _).2 e] at hs; cases hs))
        clear hs HNx
        go_wp2_with fail
        go_quiet (fail)
        go_wp2_with fail
        go_roundw
        case rel => exact ⟨k + 1, by have := HK.out; omega, by go_num, HN2, hid_ (below_drewN HB.out _)⟩
        case measure => have := HK.out; simp [intOf]; omega
      · rw [hs] at kn
        clear hs HNx
        go_wp2_with fail
        go_quiet (fail)
        go_wp2_with fail
        go_ret
        exact usedPost_mk (fun e => by cases e) (HB0.out.trans (Below.mono (below_drewN HB.out _) HB0.out.size))
    · obtain rfl : k = n := by omega
      have HD := hid_ (show ∀ r ∈ l, r.t ≠ b by
        have := HN.out
        rwa [List.take_of_length_le (by rw [HL.out]; exact Nat.le_refl _)] at this)
      have e1 : decide ((n0 : Int) < 0) = false := decide_eq_false (by omega)
      go_wp2_with fail
      go_ret
      exact usedPost_mk (fun _ => HD.out) (HB0.out.trans (HB.out.mono HB0.out.size))
/-- What most answers: the verdict of more than half under one ballot, if it is one. -/
def MostPost (w : World) (n : Nat) (l : List RegD) (e : Ending) (w' : World) : Prop := ∃ c : Int, e = .returned (.int .i64 c) ∧ (c ≠ 0 → ∃ t M, Quo n M ∧ ∀ y ∈ M, (regAt l y).v ≠ 0 ∧ (regAt l y).t = t ∧ (regAt l y).v = c) ∧ Below w.heap.size w w'
theorem mostPost_mk {w w' : World} {n : Nat} {l : List RegD} {c : Int} (h : c ≠ 0 → ∃ t M, Quo n M ∧ ∀ y ∈ M, (regAt l y).v ≠ 0 ∧ (regAt l y).t = t ∧ (regAt l y).v = c) (hb : Below w.heap.size w w') : MostPost w n l (.returned (.int .i64 c)) w' := ⟨c, rfl, h, hb⟩
/-- Those among the first k that say as r does. -/
structure Alikes (l : List RegD) (r : RegD) (k : Nat) (M : List Nat) : Prop where
  nd : M.Nodup
  lt : ∀ y ∈ M, y < k
  is : ∀ y ∈ M, (regAt l y).v ≠ 0 ∧ (regAt l y).t = r.t ∧ (regAt l y).v = r.v
theorem alikes_zero (l : List RegD) (r : RegD) : Alikes l r 0 [] := ⟨List.nodup_nil, by simp, by simp⟩
theorem Alikes.no {l : List RegD} {r : RegD} {k : Nat} {M : List Nat} (h : Alikes l r k M) : Alikes l r (k + 1) M := ⟨h.nd, fun y hy => Nat.lt_succ_of_lt (h.lt y hy), h.is⟩
theorem Alikes.yes {l : List RegD} {r : RegD} {k : Nat} {M : List Nat} (h : Alikes l r k M) (h1 : (regAt l k).v ≠ 0) (h2 : (regAt l k).t = r.t) (h3 : (regAt l k).v = r.v) : Alikes l r (k + 1) (k :: M) := by
  refine ⟨List.nodup_cons.2 ⟨fun hm => Nat.lt_irrefl _ (h.lt k hm), h.nd⟩, fun y hy => ?_, fun y hy => ?_⟩
  · rcases List.mem_cons.1 hy with rfl | hy
    · exact Nat.lt_succ_self _
    · exact Nat.lt_succ_of_lt (h.lt y hy)
  · rcases List.mem_cons.1 hy with rfl | hy
    · exact ⟨h1, h2, h3⟩
    · exact h.is y hy
theorem Alikes.le {l : List RegD} {r : RegD} {k : Nat} {M : List Nat} (h : Alikes l r k M) : M.length ≤ k := nodup_le k M h.nd h.lt
set_option maxRecDepth 20000 in
set_option maxHeartbeats 8000000 in
theorem most_any (A : Option Addr) (n c : Nat) (hn : n ≤ 1000) (l : List RegD) (w : World) (h : regE.Row w A n c l) : Calls Try.prog 43 #[.slice A n c] w (MostPost w n l) := by
  have HL := hid_ h.len
  have HR := hid_ h
  clear h
  go_enter Try.func43, Try.ntmps43
  go_wp2_with fail
  go_loopw [3] (fun vi wr => ∃ i : Nat, i ≤ n ∧ vi = .int .i64 (i : Nat) ∧ Hid (Below w.heap.size w wr)) (fun vi _ => n - (intOf vi).toNat)
  case atStart => exact ⟨0, Nat.zero_le _, rfl, hid_ (Below.refl _ _)⟩
  case round =>
    obtain ⟨i, hi, rfl, HB⟩ := hrel
    by_cases hlt : i < n
    · have hil : i < l.length := by rw [HL.out]; exact hlt
      have x1 : (i : Int) < (n : Int) := by omega
      have x2 : (0 : Int) ≤ (i : Int) := by omega
      have HI := hid_ hlt
      obtain ⟨wi, hwi⟩ : ∃ wi : World, wi = wr := ⟨_, rfl⟩
      subst hwi
      obtain ⟨r, hr⟩ : ∃ r, r = l[i] := ⟨_, rfl⟩
      have HRi := hid_ hr
      clear hlt hr
      go_wp2_with fail
      go_loopw [4, 5] (fun v4 v5 wr => ∃ (k : Nat) (M : List Nat), k ≤ n ∧ M.length ≤ k ∧ v5 = .int .i64 (k : Nat) ∧ v4 = .int .i64 (M.length : Nat) ∧ Hid (Alikes l r k M) ∧ Hid (Below w.heap.size w wr)) (fun _ v5 _ => n - (intOf v5).toNat)
      case atStart => exact ⟨0, [], Nat.zero_le _, Nat.le_refl _, rfl, rfl, hid_ (alikes_zero l r), HB⟩
      case round =>
        obtain ⟨k, M, hk, hmk, rfl, rfl, HM, HBr⟩ := hrel
        by_cases hlt : k < n
        · have hkl : k < l.length := by rw [HL.out]; exact hlt
          obtain ⟨g, off, rfl, hbl, r0, r1, r2, r3, r4⟩ := reg_at (HR.out.below HBr.out) hkl
          obtain ⟨g2, off2, hgg, hbl2, s0, s1, s2, s3, s4⟩ := reg_at (HR.out.below HBr.out) hil
          injection hgg with hgg
          injection hgg with hgg1 hgg2
          subst hgg1 hgg2
          have x3 : (k : Int) < (n : Int) := by omega
          have x4 : (0 : Int) ≤ (k : Int) := by omega
          have HK := hid_ hlt
          have HMk := hid_ hmk
          have Hat := hid_ (at_mem hkl)
          rw [← HRi.out] at s2 s3 s4
          have HY := hid_ (fun (h1 : l[k].v ≠ 0) (h2 : l[k].t = r.t) (h3 : l[k].v = r.v) => HM.out.yes (by rw [Hat.out]; exact h1) (by rw [Hat.out]; exact h2) (by rw [Hat.out]; exact h3))
          have HNo := hid_ HM.out.no
          generalize l[k] = z at *
          have hwm : IntKind.i64.wrap ((M.length : Int) + 1) = (M.length : Int) + 1 := IntWalk.i64_in _ (by omega)
          have kn : ∀ w, (binOp .eql 50 (.agg #[.int .u64 (z.t.pos : Nat), .int .u64 (z.t.id : Nat)]) (.agg #[.int .u64 (r.t.pos : Nat), .int .u64 (r.t.id : Nat)])).run Try.prog w = .ok (.bool (sameB z.t r.t)) w := fun w => bal_eql z.t r.t w
          clear hlt hkl hbl hbl2 r0 r1 s0 s1 hmk
          by_cases hv : z.v = 0
          · have e1 : (z.v != 0) = false := by rw [hv]; rfl
            clear hv HY
            go_wp2_with fail
            go_quiet (fail)
            go_wp2_with fail
            go_roundw
            case rel => exact ⟨k + 1, M, by have := HK.out; omega, by have := HMk.out; omega, by go_num, by go_num, HNo, hid_ (below_drewN HBr.out _)⟩
            case measure => have := HK.out; simp [intOf]; omega
          · have e1 : (z.v != 0) = true := by rw [bne_iff_ne]; exact hv
            have HV := hid_ hv
            clear hv
            cases hs : sameB z.t r.t
            · rw [hs] at kn
              clear hs HY
              go_wp2_with fail
              go_quiet (fail)
              go_wp2_with fail
              go_roundw
              case rel => exact ⟨k + 1, M, by have := HK.out; omega, by have := HMk.out; omega, by go_num, by go_num, HNo, hid_ (below_drewN HBr.out _)⟩
              case measure => have := HK.out; simp [intOf]; omega
            · rw [hs] at kn
              have HS := hid_ ((sameB_iff _ _).1 hs)
              clear hs
              by_cases hvv : z.v = r.v
              · have e2 : (z.v == r.v) = true := by rw [beq_iff_eq]; exact hvv
                have HN2 := hid_ (HY.out HV.out HS.out hvv)
                clear hvv HY
                go_wp2_with fail
                go_quiet (fail)
                go_wp2_with fail
                go_roundw
                case rel => exact ⟨k + 1, k :: M, by have := HK.out; omega, by have := HMk.out; simp only [List.length_cons]; omega, by go_num, by simp only [List.length_cons]; go_num, HN2, hid_ (below_drewN HBr.out _)⟩
                case measure => have := HK.out; simp [intOf]; omega
              · have e2 : (z.v == r.v) = false := by rw [beq_eq_false_iff_ne]; exact hvv
                clear hvv HY
                go_wp2_with fail
                go_quiet (fail)
                go_wp2_with fail
                go_roundw
                case rel => exact ⟨k + 1, M, by have := HK.out; omega, by have := HMk.out; omega, by go_num, by go_num, HNo, hid_ (below_drewN HBr.out _)⟩
                case measure => have := HK.out; simp [intOf]; omega
        · obtain rfl : k = n := by omega
          have hwm : IntKind.i64.wrap (2 * (M.length : Int)) = 2 * (M.length : Int) := IntWalk.i64_in _ (by omega)
          have HI2 := hid_ (show i < k from HI.out)
          by_cases hbig : k < 2 * M.length
          · have e1 : decide (2 * (M.length : Int) > (k : Int)) = true := decide_eq_true (by omega)
            have e2 : decide ((k : Int) < 2 * (M.length : Int)) = true := decide_eq_true (by omega)
            have HQ := hid_ (show Quo k M from ⟨HM.out.nd, HM.out.lt, hbig⟩)
            obtain ⟨g2, off2, rfl, hbl2, s0, s1, s2, s3, s4⟩ := reg_at (HR.out.below HBr.out) hil
            rw [← HRi.out] at s4
            clear hbig hbl2 s0 s1 s2 s3
            go_wp2_with fail
            go_ret
            exact mostPost_mk (fun _ => ⟨r.t, M, HQ.out, HM.out.is⟩) HBr.out
          · have e1 : decide (2 * (M.length : Int) > (k : Int)) = false := decide_eq_false (by omega)
            have e2 : decide ((k : Int) < 2 * (M.length : Int)) = false := decide_eq_false (by omega)
            clear hbig
            go_wp2_with fail
            go_roundw
            case rel => exact ⟨i + 1, by have := HI2.out; omega, by go_num, HBr⟩
            case measure => have := HI2.out; simp [intOf]; omega
    · obtain rfl : i = n := by omega
      go_wp2_with fail
      go_ret
      exact mostPost_mk (fun h => absurd rfl h) HB.out
end Re
end Go.Proofs.Ytljlhaillmeedaa

/-
  Proposals that a law is given.
-/
namespace Go.Proofs.Ytljlhaillmeedaa
set_option linter.unusedSimpArgs false
set_option linter.unusedVariables false
open Go.RowKit Rg Bl Go.ChangeShapes Go.WideShapes
namespace Re
set_option linter.unusedSimpArgs false
set_option linter.unusedVariables false
structure TryD where
  node : Nat
  want : Int
  ask : List Int
  tell : List Int
  later : Int
structure TryAt (w : World) (g off : Nat) (t : TryD) (Aa : Option Addr) (ca : Nat) (Ab : Option Addr) (cb : Nat) : Prop where
  c0 : w.cell? ⟨g, off, none⟩ = some (.int .u64 (t.node : Nat))
  c1 : w.cell? ⟨g, off + 1, none⟩ = some (.int .i64 t.want)
  c2 : w.cell? ⟨g, off + 2, none⟩ = some (.slice Aa t.ask.length ca)
  c3 : w.cell? ⟨g, off + 3, none⟩ = some (.slice Ab t.tell.length cb)
  c4 : w.cell? ⟨g, off + 4, none⟩ = some (.int .i64 t.later)
  sa : verE.Row w Aa t.ask.length ca t.ask
  sb : verE.Row w Ab t.tell.length cb t.tell
theorem TryAt.below {w w' : World} {g off : Nat} {t : TryD} {Aa : Option Addr} {ca : Nat} {Ab : Option Addr} {cb : Nat} (h : TryAt w g off t Aa ca Ab cb) (hb : Below w.heap.size w w') : TryAt w' g off t Aa ca Ab cb := by
  have hl := lt_of_cell h.c0
  have k : ∀ i, w'.cell? ⟨g, i, none⟩ = w.cell? ⟨g, i, none⟩ := fun i => hb.cell (p := ⟨g, i, none⟩) hl
  exact ⟨(k _).trans h.c0, (k _).trans h.c1, (k _).trans h.c2, (k _).trans h.c3, (k _).trans h.c4, h.sa.below hb, h.sb.below hb⟩
structure TryRow (w : World) (A : Option Addr) (n c : Nat) (l : List TryD) : Prop where
  holds : l ≠ [] → ∃ g off, A = some ⟨g, off, none⟩ ∧ ∀ k (hk : k < l.length), ∃ Aa ca Ab cb, TryAt w g (off + k * 5) l[k] Aa ca Ab cb
  len : l.length = n
  cap : n ≤ c
  max : c ≤ 9223372036854775807
theorem TryRow.below {w w' : World} {A : Option Addr} {n c : Nat} {l : List TryD} (h : TryRow w A n c l) (hb : Below w.heap.size w w') : TryRow w' A n c l := by
  refine ⟨fun hne => ?_, h.len, h.cap, h.max⟩
  obtain ⟨g, off, e, hk⟩ := h.holds hne
  refine ⟨g, off, e, fun k hkl => ?_⟩
  obtain ⟨Aa, ca, Ab, cb, ho⟩ := hk k hkl
  exact ⟨Aa, ca, Ab, cb, ho.below hb⟩
theorem TryRow.at_ {w : World} {A : Option Addr} {n c : Nat} {l : List TryD} (h : TryRow w A n c l) {k : Nat} (hk : k < l.length) : ∃ g off Aa ca Ab cb, A = some ⟨g, off, none⟩ ∧ TryAt w g (off + k * 5) l[k] Aa ca Ab cb := by
  obtain ⟨g, off, e, h1⟩ := h.holds (by rintro rfl; simp at hk)
  obtain ⟨Aa, ca, Ab, cb, ho⟩ := h1 k hk
  exact ⟨g, off, Aa, ca, Ab, cb, e, ho⟩
/-- What proposals that came in are known to be. -/
def TriesV (w : World) (v : Value) : Prop := ∃ A n c l, v = .slice A n c ∧ TryRow w A n c l ∧ ∀ t ∈ l, t.node < 18446744073709551616
theorem cells_try : Try.prog.cellsOf 82 = 5 := by kernel_rfl
theorem cells_int : Try.prog.cellsOf 3 = 1 := by kernel_rfl
theorem cells_ints : Try.prog.cellsOf 34 = 1 := by kernel_rfl
section
variable {H : Type} {enc : TypeId × Value → H} {w : World} {base : Nat} {held : Bool} {fuel : Nat}
theorem ints_field {cs : List Value} {x : DataW H × List MemPlace} (h : DataW.trod enc Try.prog w base (fun _ => true) held fuel 34 cs = some x) :
    ∃ A n c l, cs = [.slice A n c] ∧ verE.Row w A n c l := by
  rcases Go.Deep.open_slice1 Try.underlying34 cells_int h with ⟨hcs, _⟩ | ⟨a, len, cap, m, n, V, D, Pl, hcs, _, h1, h2, hm, _, h3⟩
  · exact ⟨_, _, _, [], hcs, Enc.Row.none w⟩
  · simp only [if_true] at hm
    subst hm
    have hone : ∀ k, k < m → ∃ s : Int, w.cell? (a.add k) = some (.int .i64 s) := fun k hk => by
      obtain ⟨g1, g2⟩ := h3 k hk
      obtain ⟨n0, e0, _, w0⟩ := DataW.trod_int Try.underlying3 g2
      injection e0 with e0
      exact ⟨n0, by rw [g1, e0]⟩
    obtain ⟨f, hf'⟩ := Go.Deep.choose_lt hone
    refine ⟨_, _, _, (List.range len).map f, hcs, ⟨fun hne => ?_, by simp, h1, by unfold maxLen at h2; omega, fun e => by cases e⟩⟩
    have hpos : 0 < len := by
      rcases Nat.eq_zero_or_pos len with e | e
      · subst e; exact absurd rfl hne
      · exact e
    obtain ⟨b, off, spot⟩ := a
    have h0 := hf' 0 (by omega)
    have hs : spot = none := by simpa [Addr.add] using World.cell?_spot h0
    subst hs
    refine ⟨b, off, rfl, fun k u hu => ?_⟩
    have hk : k < len := by
      have := (List.getElem?_eq_some_iff.1 hu).1
      rw [verE.all_length, List.length_map, List.length_range] at this
      have h9 : len * verE.K = len := Nat.mul_one _
      omega
    have h4 := hf' k (by omega)
    rw [add_plain] at h4
    rw [h4]
    have hm := verE.all_get ((List.range len).map f) (k := k) (by simpa using hk) 0 (by decide)
    rw [show k * verE.K + 0 = k by show k * 1 + 0 = k; omega, hu] at hm
    rw [hm]
    simp [verE]
set_option maxRecDepth 100000 in
theorem try_cells {cs : List Value} {x : DataW H × List MemPlace} (h : DataW.trod enc Try.prog w base (fun _ => true) held fuel 82 cs = some x) :
    ∃ (t : TryD) (Aa : Option Addr) (ca : Nat) (Ab : Option Addr) (cb : Nat), t.node < 18446744073709551616 ∧ cs = [.int .u64 (t.node : Nat), .int .i64 t.want, .slice Aa t.ask.length ca, .slice Ab t.tell.length cb, .int .i64 t.later] ∧ verE.Row w Aa t.ask.length ca t.ask ∧ verE.Row w Ab t.tell.length cb t.tell := by
  obtain ⟨xs, n, _, _, hlen, hxl, hf⟩ := DataW.trod_struct Try.underlying82 h
  rw [cells_try] at hlen
  obtain ⟨q0, q1, q2, q3, q4, rfl⟩ := five_cells hlen
  have hxl' : xs.length = 5 := hxl
  have h0 : DataW.trod enc Try.prog w base (fun _ => true) held n 48 (([q0, q1, q2, q3, q4].drop 0).take (Try.prog.cellsOf 48)) = xs[0]? := hf 0 _ rfl
  have h1 : DataW.trod enc Try.prog w base (fun _ => true) held n 51 (([q0, q1, q2, q3, q4].drop 1).take (Try.prog.cellsOf 51)) = xs[1]? := hf 1 _ rfl
  have h2 : DataW.trod enc Try.prog w base (fun _ => true) held n 34 (([q0, q1, q2, q3, q4].drop 2).take (Try.prog.cellsOf 34)) = xs[2]? := hf 2 _ rfl
  have h3 : DataW.trod enc Try.prog w base (fun _ => true) held n 34 (([q0, q1, q2, q3, q4].drop 3).take (Try.prog.cellsOf 34)) = xs[3]? := hf 3 _ rfl
  have h4 : DataW.trod enc Try.prog w base (fun _ => true) held n 3 (([q0, q1, q2, q3, q4].drop 4).take (Try.prog.cellsOf 3)) = xs[4]? := hf 4 _ rfl
  clear hf
  rw [Bl.cells_u64] at h0
  rw [cells_v] at h1
  rw [cells_ints] at h2 h3
  rw [cells_int] at h4
  rw [List.getElem?_eq_getElem (by omega)] at h0 h1 h2 h3 h4
  obtain ⟨n0, e0, _, w0⟩ := DataW.trod_int Try.underlying48 h0
  obtain ⟨n1, e1, _, w1⟩ := DataW.trod_int Try.underlying51 h1
  obtain ⟨A2, m2, c2, l2, e2, s2⟩ := ints_field h2
  obtain ⟨A3, m3, c3, l3, e3, s3⟩ := ints_field h3
  obtain ⟨n4, e4, _, w4⟩ := DataW.trod_int Try.underlying3 h4
  obtain ⟨m0, rfl, g0⟩ := Bl.u64_of w0
  simp at e0 e1 e2 e3 e4
  obtain rfl := s2.len
  obtain rfl := s3.len
  exact ⟨⟨m0, n1, l2, l3, n4⟩, A2, c2, A3, c3, g0, by rw [e0, e1, e2, e3, e4], s2, s3⟩
set_option maxRecDepth 100000 in
theorem open_triesV {v : Value} {d : DataW H} {p : List MemPlace} {x : Reach} {r : Nat}
    (hv : Value.okWide Try.prog w x r 78 v) (h : DataW.Trod enc Try.prog w base (fun _ => true) held 78 v d p) : TriesV w v := by
  obtain ⟨a0, len0, cap0, rfl⟩ := okWide_slice Try.underlying78 hv
  obtain ⟨fuel, hf⟩ := h
  rcases Go.Deep.open_slice Try.underlying78 hf with ⟨hcs, _⟩ | ⟨a, len, cap, m, n, D, Pl, hcs, _, h1, h2, hm, _, h3⟩
  · simp [Value.cells] at hcs
    obtain ⟨rfl, rfl, rfl⟩ := hcs
    exact ⟨_, _, _, [], rfl, ⟨fun h => absurd rfl h, rfl, Nat.le_refl _, by omega⟩, by simp⟩
  · simp [Value.cells] at hcs
    obtain ⟨rfl, rfl, rfl⟩ := hcs
    simp only [if_true] at hm
    subst hm
    have hone : ∀ k, k < m → ∃ t : TryD, t.node < 18446744073709551616 ∧ ∃ (Aa : Option Addr) (ca : Nat) (Ab : Option Addr) (cb : Nat), (∀ j u, ([.int .u64 (t.node : Nat), .int .i64 t.want, .slice Aa t.ask.length ca, .slice Ab t.tell.length cb, .int .i64 t.later] : List Value)[j]? = some u → w.cell? ((a.add (k * 5)).add j) = some u) ∧ verE.Row w Aa t.ask.length ca t.ask ∧ verE.Row w Ab t.tell.length cb t.tell := fun k hk => by
      obtain ⟨cs', g1, g2⟩ := h3 k hk
      rw [cells_try] at g1
      obtain ⟨o, Ab, cb, Ak, ck, hw, e, s1, s2⟩ := try_cells g2
      obtain ⟨_, _, hat⟩ := World.cells?_some g1
      refine ⟨o, hw, Ab, cb, Ak, ck, fun j u hu => ?_, s1, s2⟩
      have hj : j < 5 := (List.getElem?_eq_some_iff.1 hu).1
      rw [hat j hj, e]
      exact hu
    haveI : Inhabited TryD := ⟨⟨0, 0, [], [], 0⟩⟩
    obtain ⟨f, hf'⟩ := Go.Deep.choose_lt hone
    refine ⟨_, _, _, (List.range len0).map f, rfl, ⟨fun hne => ?_, by simp, h1, by unfold maxLen at h2; omega⟩, ?_⟩
    · have hpos : 0 < len0 := by
        rcases Nat.eq_zero_or_pos len0 with e | e
        · subst e; exact absurd rfl hne
        · exact e
      obtain ⟨b, off, spot⟩ := a
      obtain ⟨_, _, _, _, _, h0, _⟩ := hf' 0 (by omega)
      have h0 := h0 0 _ rfl
      have hs : spot = none := by simpa [Addr.add] using World.cell?_spot h0
      subst hs
      refine ⟨b, off, rfl, fun k hk => ?_⟩
      have hk' : k < len0 := by simpa using hk
      rw [List.getElem_map, List.getElem_range]
      obtain ⟨_, Ab, cb, Ak, ck, hc, s1, s2⟩ := hf' k (by omega)
      have hc' : ∀ j u, ([.int .u64 ((f k).node : Nat), .int .i64 (f k).want, .slice Ab (f k).ask.length cb, .slice Ak (f k).tell.length ck, .int .i64 (f k).later] : List Value)[j]? = some u → w.cell? ⟨b, off + k * 5 + j, none⟩ = some u := fun j u hu => by
        have := hc j u hu
        rwa [add_plain, add_plain] at this
      exact ⟨Ab, cb, Ak, ck, hc' 0 _ rfl, hc' 1 _ rfl, hc' 2 _ rfl, hc' 3 _ rfl, hc' 4 _ rfl, s1, s2⟩
    · intro s hs
      obtain ⟨k, hk, rfl⟩ := List.mem_map.1 hs
      exact (hf' k (by have := List.mem_range.1 hk; omega)).1
end
end Re
end Go.Proofs.Ytljlhaillmeedaa

/-
  What RegisterOnce holds in memory.
-/
namespace Go.Proofs.Ytljlhaillmeedaa
set_option linter.unusedSimpArgs false
set_option linter.unusedVariables false
open Go.RowKit Rg Bl
namespace Re
set_option linter.unusedSimpArgs false
set_option linter.unusedVariables false
theorem all_set_one {α : Type} (E : Enc α) (ss : List α) {k j : Nat} (hk : k < ss.length) (hj : j < E.K) (x : α) (v : Value) (hx : E.cf x = (E.cf ss[k]).set j v) : E.all (ss.set k x) = (E.all ss).set (k * E.K + j) v := by
  refine List.ext_getElem? fun i => ?_
  have hpos := E.pos
  rw [List.getElem?_set]
  have hkj : k * E.K + j < (E.all ss).length := by
    rw [E.all_length]
    have : (k + 1) * E.K ≤ ss.length * E.K := Nat.mul_le_mul_right _ hk
    rw [Nat.add_mul] at this
    omega
  by_cases hi : i < ss.length * E.K
  · have hq : i / E.K < ss.length := (Nat.div_lt_iff_lt_mul hpos).2 hi
    have hr := Nat.mod_lt i hpos
    have ei : i = (i / E.K) * E.K + i % E.K := by rw [Nat.mul_comm]; exact (Nat.div_add_mod i E.K).symm
    generalize i / E.K = q at *
    generalize i % E.K = r at *
    subst ei
    rw [E.all_get (ss.set k x) (by rw [List.length_set]; exact hq) r hr, E.all_get ss hq r hr, List.getElem_set]
    by_cases hkq : k = q
    · subst hkq
      rw [if_pos rfl, hx, List.getElem?_set]
      by_cases hjr : j = r
      · subst hjr
        rw [if_pos rfl, if_pos rfl, if_pos hkj, if_pos (by rw [E.len]; exact hj)]
      · rw [if_neg hjr, if_neg (by omega)]
    · rw [if_neg hkq, if_neg]
      intro e
      rcases Nat.lt_or_ge k q with h3 | h3
      · have h4 : (k + 1) * E.K ≤ q * E.K := Nat.mul_le_mul_right _ h3
        rw [Nat.add_mul] at h4
        omega
      · have h4 : (q + 1) * E.K ≤ k * E.K := Nat.mul_le_mul_right _ (by omega)
        rw [Nat.add_mul] at h4
        omega
  · have e1 : (E.all (ss.set k x))[i]? = none := List.getElem?_eq_none (by rw [E.all_length, List.length_set]; omega)
    have e2 : (E.all ss)[i]? = none := List.getElem?_eq_none (by rw [E.all_length]; omega)
    rw [e1, e2, if_neg (by rw [E.all_length] at hkj; omega)]
abbrev regsArr (regs : List RegD) : Array Value := (regE.all regs).toArray
abbrev TOreg : TypeId := 54
theorem regs_one {w : World} {g : Nat} {regs : List RegD} (h : Whole w g TOreg (regsArr regs)) {x j : Nat} (hx : x < regs.length) (hj : j < 5) (r : RegD) (v : Value) (hr : (regCells r).toList = (regCells regs[x]).toList.set j v) : Whole (w.setCell ⟨g, x * 5 + j, none⟩ v) g TOreg (regsArr (regs.set x r)) := by
  have h1 := h.store (x * 5 + j) v
  have e := all_set_one regE regs hx hj r v hr
  have e2 : (regsArr regs).setIfInBounds (x * 5 + j) v = regsArr (regs.set x r) := by
    rw [regsArr, regsArr, e, List.setIfInBounds_toArray]
    rfl
  rw [e2] at h1
  exact h1
theorem regs_set {w : World} {g : Nat} {regs : List RegD} (h : Whole w g TOreg (regsArr regs)) {x : Nat} (hx : x < regs.length) (r : RegD) :
    Whole (((((w.setCell ⟨g, x * 5, none⟩ (.int .u64 (r.p.pos : Nat))).setCell ⟨g, x * 5 + 1, none⟩ (.int .u64 (r.p.id : Nat))).setCell ⟨g, x * 5 + 2, none⟩ (.int .u64 (r.t.pos : Nat))).setCell ⟨g, x * 5 + 3, none⟩ (.int .u64 (r.t.id : Nat))).setCell ⟨g, x * 5 + 4, none⟩ (.int .i64 r.v)) g TOreg (regsArr (regs.set x r)) := by
  have h1 := regs_one h hx (j := 0) (by decide) ⟨⟨r.p.pos, regs[x].p.id⟩, regs[x].t, regs[x].v⟩ (.int .u64 (r.p.pos : Nat)) rfl
  have h2 := regs_one h1 (x := x) (by rw [List.length_set]; exact hx) (j := 1) (by decide) ⟨r.p, regs[x].t, regs[x].v⟩ (.int .u64 (r.p.id : Nat)) (by simp)
  have h3 := regs_one h2 (x := x) (by simp only [List.length_set]; exact hx) (j := 2) (by decide) ⟨r.p, ⟨r.t.pos, regs[x].t.id⟩, regs[x].v⟩ (.int .u64 (r.t.pos : Nat)) (by simp)
  have h4 := regs_one h3 (x := x) (by simp only [List.length_set]; exact hx) (j := 3) (by decide) ⟨r.p, r.t, regs[x].v⟩ (.int .u64 (r.t.id : Nat)) (by simp)
  have h5 := regs_one h4 (x := x) (by simp only [List.length_set]; exact hx) (j := 4) (by decide) r (.int .i64 r.v) (by simp)
  simp only [List.set_set] at h5
  exact h5
theorem regs_row {w : World} {g : Nat} {regs : List RegD} {n : Nat} (h : Whole w g TOreg (regsArr regs)) (hn : regs.length = n) (hm : n ≤ 1000) : regE.Row w (some ⟨g, 0, none⟩) n n regs := by
  refine ⟨fun _ => ⟨g, 0, rfl, fun k u hu => ?_⟩, hn, Nat.le_refl _, by omega, fun e => by cases e⟩
  rw [Nat.zero_add]
  exact h.cell k u (by simpa using hu)
theorem regs_at {w : World} {g : Nat} {regs : List RegD} (h : Whole w g TOreg (regsArr regs)) {x : Nat} (hx : x < regs.length) : w.cell? ⟨g, x * 5, none⟩ = some (.int .u64 ((regAt regs x).p.pos : Nat)) ∧ w.cell? ⟨g, x * 5 + 1, none⟩ = some (.int .u64 ((regAt regs x).p.id : Nat)) ∧ w.cell? ⟨g, x * 5 + 2, none⟩ = some (.int .u64 ((regAt regs x).t.pos : Nat)) ∧ w.cell? ⟨g, x * 5 + 3, none⟩ = some (.int .u64 ((regAt regs x).t.id : Nat)) ∧ w.cell? ⟨g, x * 5 + 4, none⟩ = some (.int .i64 (regAt regs x).v) := by
  rw [at_mem hx]
  have hg : ∀ j u, j < 5 → ((regCells regs[x]).toList)[j]? = some u → w.cell? ⟨g, x * 5 + j, none⟩ = some u := fun j u hj hu => h.cell _ u (by
    have h9 : (regE.all regs)[x * 5 + j]? = (regE.cf regs[x])[j]? := regE.all_get regs hx j hj
    rw [show (regE.cf regs[x])[j]? = some u from hu] at h9
    simpa using h9)
  exact ⟨hg 0 _ (by decide) rfl, hg 1 _ (by decide) rfl, hg 2 _ (by decide) rfl, hg 3 _ (by decide) rfl, hg 4 _ (by decide) rfl⟩
theorem Enc.Own.keep2 {α : Type} {E : Enc α} {e : TypeId} {B : Nat} {w w' : World} {A : Option Addr} {n c : Nat} {l : List α} (h : E.Own e B w A n c l) (hk : ∀ k, (Value.slice A n c).ownBlock = some k → w'.heap[k]? = w.heap[k]?) : E.Own e B w' A n c l := by
  obtain ⟨hx, h1 | ⟨g, cap, cur, e', hg, hh, r⟩⟩ := h
  · exact ⟨hx, .inl h1⟩
  · refine ⟨hx, .inr ⟨g, cap, cur, e', hg, (hk g ?_).trans hh, r⟩⟩
    injection e' with e1 e2 e3
    subst e1
    rfl
/-- The registers, the greatest ballot seen, and what was chosen. -/
structure OBase (w0 w : World) (regs : List RegD) (seen : BalD) (A6 : Option Addr) (n6 c6 : Nat) (chosen : List Int) : Prop where
  bl : Below w0.heap.size w0 w
  rg : Whole w w0.heap.size TOreg (regsArr regs)
  sn : Whole w (w0.heap.size + 1) 50 (balCells seen)
  cho : verE.Own 51 (w0.heap.size + 2) w A6 n6 c6 chosen
variable {w0 w w' : World} {regs : List RegD} {seen : BalD} {A6 : Option Addr} {n6 c6 : Nat} {chosen : List Int}
theorem OBase.later (h : OBase w0 w regs seen A6 n6 c6 chosen) (hb : Below w.heap.size w w') : OBase w0 w' regs seen A6 n6 c6 chosen :=
  ⟨h.bl.trans (hb.mono h.bl.size), h.rg.below hb h.rg.lt, h.sn.below hb h.sn.lt, h.cho.later hb⟩
theorem heap_far {w : World} {g i k : Nat} (h : k ≠ g) (v : Value) : (w.setCell ⟨g, i, none⟩ v).heap[k]? = w.heap[k]? := Below.heap_setCell w ⟨g, i, none⟩ v k h
theorem OBase.setSeen (h : OBase w0 w regs seen A6 n6 c6 chosen) (s : BalD) : OBase w0 ((w.setCell ⟨w0.heap.size + 1, 0, none⟩ (.int .u64 (s.pos : Nat))).setCell ⟨w0.heap.size + 1, 1, none⟩ (.int .u64 (s.id : Nat))) regs s A6 n6 c6 chosen :=
  ⟨below_set2 h.bl (by omega) _ _, (h.rg.far (by simp) _).far (by simp) _, whole_set2 h.sn _ _, Enc.Own.keep2 h.cho fun k hk => by
    have := (h.cho.from_ k hk).1
    rw [heap_far (by omega), heap_far (by omega)]⟩
theorem OBase.setReg (h : OBase w0 w regs seen A6 n6 c6 chosen) {x : Nat} (hx : x < regs.length) (r : RegD) : OBase w0 (((((w.setCell ⟨w0.heap.size, x * 5, none⟩ (.int .u64 (r.p.pos : Nat))).setCell ⟨w0.heap.size, x * 5 + 1, none⟩ (.int .u64 (r.p.id : Nat))).setCell ⟨w0.heap.size, x * 5 + 2, none⟩ (.int .u64 (r.t.pos : Nat))).setCell ⟨w0.heap.size, x * 5 + 3, none⟩ (.int .u64 (r.t.id : Nat))).setCell ⟨w0.heap.size, x * 5 + 4, none⟩ (.int .i64 r.v)) (regs.set x r) seen A6 n6 c6 chosen :=
  ⟨((((h.bl.setCell (p := ⟨w0.heap.size, x * 5, none⟩) (Nat.le_refl _) _).setCell (p := ⟨w0.heap.size, x * 5 + 1, none⟩) (Nat.le_refl _) _).setCell (p := ⟨w0.heap.size, x * 5 + 2, none⟩) (Nat.le_refl _) _).setCell (p := ⟨w0.heap.size, x * 5 + 3, none⟩) (Nat.le_refl _) _).setCell (p := ⟨w0.heap.size, x * 5 + 4, none⟩) (Nat.le_refl _) _,
    regs_set h.rg hx r, ((((h.sn.far (by simp) _).far (by simp) _).far (by simp) _).far (by simp) _).far (by simp) _, Enc.Own.keep2 h.cho fun k hk => by
    have := (h.cho.from_ k hk).1
    rw [heap_far (by omega), heap_far (by omega), heap_far (by omega), heap_far (by omega), heap_far (by omega)]⟩
theorem OBase.grown (h : OBase w0 w regs seen A6 n6 c6 chosen) {B : Nat} (hb : Below B w w') (h1 : w0.heap.size + 1 < B) (h2 : ∀ k, (Value.slice A6 n6 c6).ownBlock = some k → k < B) : OBase w0 w' regs seen A6 n6 c6 chosen :=
  ⟨h.bl.trans (hb.mono (by omega)), h.rg.below hb (by omega), h.sn.below hb (by omega), Enc.Own.keep2 h.cho fun k hk => hb.block k (h2 k hk)⟩
def tryCells (t : TryD) (Aa : Option Addr) (ca : Nat) (Ab : Option Addr) (cb : Nat) : Array Value := #[.int .u64 (t.node : Nat), .int .i64 t.want, .slice Aa t.ask.length ca, .slice Ab t.tell.length cb, .int .i64 t.later]
/-- A try under way: beside the base, itself, its ballot, the best that was told, and those that were asked. -/
structure OTry (w0 w : World) (B gt gb gm : Nat) (regs : List RegD) (seen : BalD) (A6 : Option Addr) (n6 c6 : Nat) (chosen : List Int) (tc : Array Value) (b best : BalD) (Ak : Option Addr) (mk ck : Nat) (asked : List Nat) : Prop where
  base : OBase w0 w regs seen A6 n6 c6 chosen
  tr : Whole w gt 82 tc
  bb : Whole w gb 50 (balCells b)
  bm : Whole w gm 50 (balCells best)
  ask : natE.Own 3 B w Ak mk ck asked
  h1 : w0.heap.size + 1 < gt
  h2 : gt < gb
  h3 : gb < gm
  h4 : gm < B
  h5 : B ≤ w.heap.size
  h6 : ∀ k, (Value.slice A6 n6 c6).ownBlock = some k → k < gt
variable {B gt gb gm : Nat} {tc : Array Value} {b best : BalD} {Ak : Option Addr} {mk ck : Nat} {asked : List Nat}
theorem OTry.later (h : OTry w0 w B gt gb gm regs seen A6 n6 c6 chosen tc b best Ak mk ck asked) (hb : Below w.heap.size w w') : OTry w0 w' B gt gb gm regs seen A6 n6 c6 chosen tc b best Ak mk ck asked :=
  ⟨h.base.later hb, h.tr.below hb h.tr.lt, h.bb.below hb h.bb.lt, h.bm.below hb h.bm.lt, h.ask.later hb, h.h1, h.h2, h.h3, h.h4, Nat.le_trans h.h5 hb.size, h.h6⟩
theorem OTry.drewN (h : OTry w0 w B gt gb gm regs seen A6 n6 c6 chosen tc b best Ak mk ck asked) (q : Nat) : OTry w0 (w.drewN q) B gt gb gm regs seen A6 n6 c6 chosen tc b best Ak mk ck asked := h.later (below_drewN (Below.refl _ _) q)
theorem OTry.setSeen (h : OTry w0 w B gt gb gm regs seen A6 n6 c6 chosen tc b best Ak mk ck asked) (s : BalD) : OTry w0 ((w.setCell ⟨w0.heap.size + 1, 0, none⟩ (.int .u64 (s.pos : Nat))).setCell ⟨w0.heap.size + 1, 1, none⟩ (.int .u64 (s.id : Nat))) B gt gb gm regs s A6 n6 c6 chosen tc b best Ak mk ck asked := by
  have g1 := h.h1
  have g2 := h.h2
  have g3 := h.h3
  have g4 := h.h4
  exact ⟨h.base.setSeen s, (h.tr.far (by simp; omega) _).far (by simp; omega) _, (h.bb.far (by simp; omega) _).far (by simp; omega) _, (h.bm.far (by simp; omega) _).far (by simp; omega) _, Enc.Own.keep2 h.ask fun k hk => by
    have := (h.ask.from_ k hk).1
    rw [heap_far (by omega), heap_far (by omega)], h.h1, h.h2, h.h3, h.h4, by simpa using h.h5, h.h6⟩
theorem OTry.setReg (h : OTry w0 w B gt gb gm regs seen A6 n6 c6 chosen tc b best Ak mk ck asked) {x : Nat} (hx : x < regs.length) (r : RegD) : OTry w0 (((((w.setCell ⟨w0.heap.size, x * 5, none⟩ (.int .u64 (r.p.pos : Nat))).setCell ⟨w0.heap.size, x * 5 + 1, none⟩ (.int .u64 (r.p.id : Nat))).setCell ⟨w0.heap.size, x * 5 + 2, none⟩ (.int .u64 (r.t.pos : Nat))).setCell ⟨w0.heap.size, x * 5 + 3, none⟩ (.int .u64 (r.t.id : Nat))).setCell ⟨w0.heap.size, x * 5 + 4, none⟩ (.int .i64 r.v)) B gt gb gm (regs.set x r) seen A6 n6 c6 chosen tc b best Ak mk ck asked := by
  have g1 := h.h1
  have g2 := h.h2
  have g3 := h.h3
  have g4 := h.h4
  exact ⟨h.base.setReg hx r, ((((h.tr.far (by simp; omega) _).far (by simp; omega) _).far (by simp; omega) _).far (by simp; omega) _).far (by simp; omega) _, ((((h.bb.far (by simp; omega) _).far (by simp; omega) _).far (by simp; omega) _).far (by simp; omega) _).far (by simp; omega) _, ((((h.bm.far (by simp; omega) _).far (by simp; omega) _).far (by simp; omega) _).far (by simp; omega) _).far (by simp; omega) _, Enc.Own.keep2 h.ask fun k hk => by
    have := (h.ask.from_ k hk).1
    rw [heap_far (by omega), heap_far (by omega), heap_far (by omega), heap_far (by omega), heap_far (by omega)], h.h1, h.h2, h.h3, h.h4, by simpa using h.h5, h.h6⟩
theorem OTry.setBest (h : OTry w0 w B gt gb gm regs seen A6 n6 c6 chosen tc b best Ak mk ck asked) (s : BalD) : OTry w0 ((w.setCell ⟨gm, 0, none⟩ (.int .u64 (s.pos : Nat))).setCell ⟨gm, 1, none⟩ (.int .u64 (s.id : Nat))) B gt gb gm regs seen A6 n6 c6 chosen tc b s Ak mk ck asked := by
  have g1 := h.h1
  have g2 := h.h2
  have g3 := h.h3
  have g4 := h.h4
  refine ⟨⟨below_set2 h.base.bl (by omega) _ _, (h.base.rg.far (by simp; omega) _).far (by simp; omega) _, (h.base.sn.far (by simp; omega) _).far (by simp; omega) _, Enc.Own.keep2 h.base.cho fun k hk => by
    have := h.h6 k hk
    rw [heap_far (by omega), heap_far (by omega)]⟩, (h.tr.far (by simp; omega) _).far (by simp; omega) _, (h.bb.far (by simp; omega) _).far (by simp; omega) _, whole_set2 h.bm _ _, Enc.Own.keep2 h.ask fun k hk => by
    have := (h.ask.from_ k hk).1
    rw [heap_far (by omega), heap_far (by omega)], h.h1, h.h2, h.h3, h.h4, by simpa using h.h5, h.h6⟩
theorem OTry.asks (h : OTry w0 w B gt gb gm regs seen A6 n6 c6 chosen tc b best Ak mk ck asked) {Ak' : Option Addr} {mk' ck' : Nat} {asked' : List Nat} (ho : natE.Own 3 B w' Ak' mk' ck' asked') (hb : Below B w w') : OTry w0 w' B gt gb gm regs seen A6 n6 c6 chosen tc b best Ak' mk' ck' asked' := by
  have g1 := h.h1
  have g2 := h.h2
  have g3 := h.h3
  have g4 := h.h4
  exact ⟨h.base.grown hb (by omega) (fun k hk => by have := h.h6 k hk; omega), h.tr.below hb (by omega), h.bb.below hb (by omega), h.bm.below hb (by omega), ho, h.h1, h.h2, h.h3, h.h4, Nat.le_trans h.h5 hb.size, h.h6⟩
theorem info_int : (Try.prog.info? 3).map (fun i => (i.zero, i.size, i.bytes)) = some (some (.int .i64 0), natE.K, 8) := by kernel_rfl
theorem info_ver : (Try.prog.info? 51).map (fun i => (i.zero, i.size, i.bytes)) = some (some (.int .i64 0), verE.K, 8) := by kernel_rfl
end Re
end Go.Proofs.Ytljlhaillmeedaa

/-
  A register of a row, and a ballot, as a law's region holds on to them; the row that make lays; the next ballot of a try.
-/
namespace Go.Proofs.Ytljlhaillmeedaa
set_option linter.unusedSimpArgs false
set_option linter.unusedVariables false
open Go.RowKit Rg Bl
namespace Re
set_option linter.unusedSimpArgs false
set_option linter.unusedVariables false
abbrev R5o (W : World) (g o : Nat) (r : RegD) : Prop := W.cell? ⟨g, o, none⟩ = some (.int .u64 (r.p.pos : Nat)) ∧ W.cell? ⟨g, o + 1, none⟩ = some (.int .u64 (r.p.id : Nat)) ∧ W.cell? ⟨g, o + 2, none⟩ = some (.int .u64 (r.t.pos : Nat)) ∧ W.cell? ⟨g, o + 3, none⟩ = some (.int .u64 (r.t.id : Nat)) ∧ W.cell? ⟨g, o + 4, none⟩ = some (.int .i64 r.v)
theorem r5o_below {W W' : World} {g o : Nat} {r : RegD} (h : R5o W g o r) (hb : Below W.heap.size W W') : R5o W' g o r := by
  obtain ⟨a, b, c, d, e⟩ := h
  exact ⟨by rw [hb.cell (lt_of_cell a)]; exact a, by rw [hb.cell (lt_of_cell b)]; exact b, by rw [hb.cell (lt_of_cell c)]; exact c, by rw [hb.cell (lt_of_cell d)]; exact d, by rw [hb.cell (lt_of_cell e)]; exact e⟩
abbrev RoIn (w1 : World) (g o : Nat) (r : RegD) (h : Nat) (b : BalD) (W : World) : Prop := Below w1.heap.size w1 W ∧ R5o W g o r ∧ B2 W h b
theorem roIn_of {w1 W : World} {g o h : Nat} {r : RegD} {b : BalD} (k : RoIn w1 g o r h b w1) (hb : Below w1.heap.size w1 W) : RoIn w1 g o r h b W :=
  ⟨hb, r5o_below k.2.1 hb, b2_below k.2.2 hb⟩
abbrev BIn (w1 : World) (h : Nat) (b : BalD) (W : World) : Prop := Below w1.heap.size w1 W ∧ B2 W h b
theorem bIn_of {w1 W : World} {h : Nat} {b : BalD} (k : BIn w1 h b w1) (hb : Below w1.heap.size w1 W) : BIn w1 h b W := ⟨hb, b2_below k.2 hb⟩
theorem made_0 : madeCells (Value.agg #[.int .u64 0, .int .u64 0, .int .u64 0, .int .u64 0, .int .i64 0]).cells (0 * 5) = regsArr (List.replicate 0 zeroR) := by kernel_rfl
theorem made_1 : madeCells (Value.agg #[.int .u64 0, .int .u64 0, .int .u64 0, .int .u64 0, .int .i64 0]).cells (1 * 5) = regsArr (List.replicate 1 zeroR) := by kernel_rfl
theorem made_2 : madeCells (Value.agg #[.int .u64 0, .int .u64 0, .int .u64 0, .int .u64 0, .int .i64 0]).cells (2 * 5) = regsArr (List.replicate 2 zeroR) := by kernel_rfl
theorem made_3 : madeCells (Value.agg #[.int .u64 0, .int .u64 0, .int .u64 0, .int .u64 0, .int .i64 0]).cells (3 * 5) = regsArr (List.replicate 3 zeroR) := by kernel_rfl
theorem made_4 : madeCells (Value.agg #[.int .u64 0, .int .u64 0, .int .u64 0, .int .u64 0, .int .i64 0]).cells (4 * 5) = regsArr (List.replicate 4 zeroR) := by kernel_rfl
theorem made_5 : madeCells (Value.agg #[.int .u64 0, .int .u64 0, .int .u64 0, .int .u64 0, .int .i64 0]).cells (5 * 5) = regsArr (List.replicate 5 zeroR) := by kernel_rfl
theorem made_6 : madeCells (Value.agg #[.int .u64 0, .int .u64 0, .int .u64 0, .int .u64 0, .int .i64 0]).cells (6 * 5) = regsArr (List.replicate 6 zeroR) := by kernel_rfl
theorem made_7 : madeCells (Value.agg #[.int .u64 0, .int .u64 0, .int .u64 0, .int .u64 0, .int .i64 0]).cells (7 * 5) = regsArr (List.replicate 7 zeroR) := by kernel_rfl
theorem made_regs (n : Nat) (hn : n ≤ 7) (W : World) : (Instr.makeSlice 79 (.int .i64 (n : Int)) (.int .i64 (n : Int))).run Try.prog W = .ok (.slice (some ⟨W.heap.size, 0, none⟩) n n) (W.alloc (.cells (regsArr (List.replicate n zeroR)) 54)) := by
  obtain ⟨i0, hi, hz0, hz1, hz2⟩ := info_parts (show (Try.prog.info? 54).map (fun i => (i.zero, i.size, i.bytes)) = some (some (.agg #[.int .u64 0, .int .u64 0, .int .u64 0, .int .u64 0, .int .i64 0]), 5, 40) by kernel_rfl)
  have h := run_make (P := Try.prog) W 79 54 i0 _ Try.underlying79 hi hz0 .i64 .i64 n n (by omega) (Int.le_refl _) (by rw [hz2]; omega) (by omega)
  rw [h]
  have e : madeCells (Value.agg #[.int .u64 0, .int .u64 0, .int .u64 0, .int .u64 0, .int .i64 0]).cells ((n : Int).toNat * i0.size) = regsArr (List.replicate n zeroR) := by
    rw [hz1, Int.toNat_natCast]
    have hc : n = 0 ∨ n = 1 ∨ n = 2 ∨ n = 3 ∨ n = 4 ∨ n = 5 ∨ n = 6 ∨ n = 7 := by omega
    rcases hc with rfl | rfl | rfl | rfl | rfl | rfl | rfl | rfl
    · exact made_0
    · exact made_1
    · exact made_2
    · exact made_3
    · exact made_4
    · exact made_5
    · exact made_6
    · exact made_7
  rw [e, Int.toNat_natCast]
theorem next_of (s : BalD) (d : Nat) (h0 : d ≠ 0) (hs : s.pos < 1000) : nextK s 0 d = 0 ∧ (nextD s 0 d).pos = s.pos + 1 := by
  unfold nextK nextD
  rw [if_neg h0, if_neg (by omega), if_neg h0, if_neg (by omega)]
  refine ⟨rfl, ?_⟩
  show max (s.pos + 1) 0 = _
  omega
theorem up_pos (a b : BalD) : (upB a b).pos ≤ max a.pos b.pos := by
  unfold upB
  split <;> omega
theorem max_two (a b : BalD) : (maxF [a, b]).pos ≤ max a.pos b.pos := by
  unfold maxF
  rw [List.foldl_cons, List.foldl_cons, List.foldl_nil]
  have h1 := up_pos ⟨0, 0⟩ a
  have h2 := up_pos (upB ⟨0, 0⟩ a) b
  simp only at h1
  omega
theorem set_late {regs : List RegD} {x : Nat} (hx : x < regs.length) {b : BalD} (h : lateB (regAt regs x) b = true) : regs.set x (prepD (regAt regs x) b) = regs := by
  rw [prep_no h, at_mem hx, List.set_getElem_self]
theorem bal_lit2 (w : World) (g : Nat) (s m : BalD) (T : TypeId) (h : g = w.heap.size) : ptE.Row (w.alloc (.cells #[.int .u64 (s.pos : Nat), .int .u64 (s.id : Nat), .int .u64 (m.pos : Nat), .int .u64 (m.id : Nat)] T)) (some ⟨g, 0, none⟩) 2 2 [s, m] := by
  subst h
  exact (Enc.own_litK (E := ptE) (e := T) w [s, m] _ rfl 2 rfl (by decide) 0 (Nat.zero_le _)).row
theorem far5 {w : World} {g h : Nat} {T : TypeId} {cs : Array Value} (k : Whole w g T cs) (hne : g ≠ h) (o : Nat) (a b c d e : Value) : Whole (((((w.setCell ⟨h, o, none⟩ a).setCell ⟨h, o + 1, none⟩ b).setCell ⟨h, o + 2, none⟩ c).setCell ⟨h, o + 3, none⟩ d).setCell ⟨h, o + 4, none⟩ e) g T cs := ((((k.far hne _).far hne _).far hne _).far hne _).far hne _
/-- best is zero where nothing was told. -/
def BestZ (want : Int) (regs : List RegD) (asked : List Nat) (best : BalD) (v : Int) : Prop := (v = want ∧ ∀ y ∈ asked, (regAt regs y).v = 0) → best = ⟨0, 0⟩
theorem bestZ_more {want : Int} {regs : List RegD} {asked : List Nat} {best : BalD} {v : Int} (h : BestZ want regs asked best v) {x : Nat} (hx : x < regs.length) (hno : x ∉ asked) {b : BalD} (hok : lateB (regAt regs x) b = false) (best' : BalD) (v' : Int)
    (hnew : ((regAt regs x).v ≠ 0 ∧ lessB best (regAt regs x).t = true ∧ best' = (regAt regs x).t ∧ v' = (regAt regs x).v) ∨ (((regAt regs x).v = 0 ∨ lessB best (regAt regs x).t = false) ∧ best' = best ∧ v' = v)) :
    BestZ want (regs.set x (prepD (regAt regs x) b)) (asked ++ [x]) best' v' := by
  rintro ⟨hv, hz⟩
  have hxx : regAt (regs.set x (prepD (regAt regs x) b)) x = ⟨b, (regAt regs x).t, (regAt regs x).v⟩ := by rw [at_set_same _ hx, prep_yes hok]
  rcases hnew with ⟨h1, h2, rfl, rfl⟩ | ⟨h1, rfl, rfl⟩
  · have := hz x (by simp)
    rw [hxx] at this
    exact absurd this h1
  · refine h ⟨hv, fun y hy => ?_⟩
    have := hz y (by simp [hy])
    rwa [at_set_other _ (fun e => hno (by rw [← e]; exact hy))] at this
end Re
end Go.Proofs.Ytljlhaillmeedaa
