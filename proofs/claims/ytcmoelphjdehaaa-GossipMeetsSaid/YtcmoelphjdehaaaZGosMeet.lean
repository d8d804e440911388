/-
  Nodes that tell one another: what each knows, plain.
-/
import Derived.Test.YtcmoelphjdehaaaZGG4
namespace Go.Proofs.Ytcmoelphjdehaaa
set_option linter.unusedSimpArgs false
set_option linter.unusedVariables false
open Go.RowKit Ru Vw
namespace Gs
set_option linter.unusedSimpArgs false
set_option linter.unusedVariables false
/-- Not newer. -/
def LeM (x y : MemberD) : Prop := x.inc < y.inc ∨ (x.inc = y.inc ∧ x.state ≤ y.state)
theorem leM_of {x y : MemberD} (h : newerB x y = false) : LeM x y := by
  unfold newerB at h
  have := of_decide_eq_false h
  unfold LeM
  omega
theorem leM_not {x y : MemberD} (h : LeM x y) : newerB x y = false := by
  unfold newerB
  unfold LeM at h
  exact decide_eq_false (by omega)
theorem LeM.refl (x : MemberD) : LeM x x := .inr ⟨rfl, Int.le_refl _⟩
theorem LeM.trans {x y z : MemberD} (h : LeM x y) (k : LeM y z) : LeM x z := by unfold LeM at *; omega
theorem leM_same {x y : MemberD} (h : LeM x y) (k : LeM y x) (e : x.id = y.id) : x = y := mem_ext e (by unfold LeM at *; omega) (by unfold LeM at *; omega)
theorem join_stays {x y : MemberD} (h : LeM y x) : joinM x y = x := by
  unfold joinM
  rw [leM_not h, if_neg Bool.false_ne_true]
theorem join_left (x y : MemberD) : LeM x (joinM x y) := by
  unfold joinM newerB LeM
  split
  · rename_i h; have := of_decide_eq_true h; omega
  · omega
theorem join_right (x y : MemberD) : LeM y (joinM x y) := by
  unfold joinM
  split
  · exact LeM.refl _
  · rename_i h
    exact leM_of (by simpa using h)
theorem join_one (x y : MemberD) : joinM x y = x ∨ joinM x y = y := by unfold joinM; split <;> simp
/-- One of many is another. -/
def upd {α : Type} (S : Nat → α) (j : Nat) (d : α) : Nat → α := fun q => if q = j then d else S q
theorem upd_same {α : Type} (S : Nat → α) (j : Nat) (d : α) : upd S j d j = d := if_pos rfl
theorem upd_other {α : Type} (S : Nat → α) {j q : Nat} (d : α) (h : q ≠ j) : upd S j d q = S q := if_neg h
def Small (N : Nat) (m : MemberD) : Prop := m.id ≤ N ∧ m.inc ≤ 1001 ∧ (m.inc = 1001 → m.state = 0)
structure FInv (M N : Nat) (S : Nat → NodeD) : Prop where
  ok : ∀ i, i < M → NOk (S i)
  self : ∀ i, i < M → (S i).self = i + 1
  left : ∀ i, i < M → (S i).left = false
  small : ∀ i, i < M → ∀ m ∈ (S i).ms, Small N m
  own : ∀ i, i < M → ∃ o, getF (S i).ms (i + 1) = some o ∧ o.state = 0
theorem finv_zero (N : Nat) (S : Nat → NodeD) : FInv 0 N S := ⟨fun i h => absurd h (by omega), fun i h => absurd h (by omega), fun i h => absurd h (by omega), fun i h => absurd h (by omega), fun i h => absurd h (by omega)⟩
theorem FInv.set {M N : Nat} {S : Nat → NodeD} (h : FInv M N S) {j : Nat} {d : NodeD} (h1 : NOk d) (h2 : d.self = j + 1) (h3 : d.left = false) (h4 : ∀ m ∈ d.ms, Small N m) (h5 : ∃ o, getF d.ms (j + 1) = some o ∧ o.state = 0) : FInv M N (upd S j d) := by
  refine ⟨fun i hi => ?_, fun i hi => ?_, fun i hi => ?_, fun i hi => ?_, fun i hi => ?_⟩
  all_goals by_cases e : i = j
  · subst e; rw [upd_same]; exact h1
  · rw [upd_other _ _ e]; exact h.ok i hi
  · subst e; rw [upd_same]; exact h2
  · rw [upd_other _ _ e]; exact h.self i hi
  · subst e; rw [upd_same]; exact h3
  · rw [upd_other _ _ e]; exact h.left i hi
  · subst e; rw [upd_same]; exact h4
  · rw [upd_other _ _ e]; exact h.small i hi
  · subst e; rw [upd_same]; exact h5
  · rw [upd_other _ _ e]; exact h.own i hi
theorem FInv.more {M N : Nat} {S : Nat → NodeD} (h : FInv M N S) {d : NodeD} (h1 : NOk d) (h2 : d.self = M + 1) (h3 : d.left = false) (h4 : ∀ m ∈ d.ms, Small N m) (h5 : ∃ o, getF d.ms (M + 1) = some o ∧ o.state = 0) : FInv (M + 1) N (upd S M d) := by
  refine ⟨fun i hi => ?_, fun i hi => ?_, fun i hi => ?_, fun i hi => ?_, fun i hi => ?_⟩
  all_goals by_cases e : i = M
  · subst e; rw [upd_same]; exact h1
  · rw [upd_other _ _ e]; exact h.ok i (by omega)
  · subst e; rw [upd_same]; exact h2
  · rw [upd_other _ _ e]; exact h.self i (by omega)
  · subst e; rw [upd_same]; exact h3
  · rw [upd_other _ _ e]; exact h.left i (by omega)
  · subst e; rw [upd_same]; exact h4
  · rw [upd_other _ _ e]; exact h.small i (by omega)
  · subst e; rw [upd_same]; exact h5
  · rw [upd_other _ _ e]; exact h.own i (by omega)
theorem small_obj {N self : Nat} {m : MemberD} (h : Small N m) : Small N (objF self false m) := by
  unfold objF
  split
  · rename_i ho
    unfold objects at ho
    simp only [Bool.and_eq_true, decide_eq_true_eq] at ho
    obtain ⟨h1, h2, h3⟩ := h
    have h4 : m.inc ≠ 1001 := fun e => ho.2.2.1 (h3 e)
    exact ⟨h1, by simp only; omega, fun _ => rfl⟩
  · exact h
theorem obj_alive {N self : Nat} {m : MemberD} (h : Small N m) (e : m.id = self) : (objF self false m).state = 0 := by
  unfold objF objects
  by_cases h0 : m.state = 0
  · rw [h0]
    simpa using h0
  · have : m.inc ≠ 18446744073709551615 := by have := h.2.1; omega
    simp [e, h0, this]
theorem finv_hear {M N : Nat} {S : Nat → NodeD} (h : FInv M N S) {j : Nat} (hj : j < M) (frm now : Nat) {l : List MemberD} (hl : ∀ m ∈ l, m.Wf) (hn : now < 18446744073709551616) (hs : ∀ m ∈ l, Small N m) : FInv M N (upd S j (hearD (S j) frm l now)) := by
  have hok := h.ok j hj
  have hnew := hear_ok hok (frm := frm) hn hl
  by_cases hk : hearK (S j) l = 0
  · obtain ⟨h1, h2⟩ := hearK_zero hk
    have e : (hearD (S j) frm l now).ms = (mgF (S j).ms l).map (objF (S j).self (S j).left) := by unfold hearD; rw [if_pos hk]; rfl
    have es : (hearD (S j) frm l now).self = j + 1 := by unfold hearD; rw [if_pos hk]; exact h.self j hj
    have el : (hearD (S j) frm l now).left = false := by unfold hearD; rw [if_pos hk]; exact h.left j hj
    rw [h.self j hj, h.left j hj] at e
    have hsm : ∀ m ∈ mgF (S j).ms l, Small N m := fun m hm => (merge_mem (mg_isMerge hok.right h1) hm).elim (h.small j hj m) (hs m)
    refine h.set hnew es el (fun m hm => ?_) ?_
    · rw [e] at hm
      obtain ⟨x, hx, rfl⟩ := List.mem_map.1 hm
      exact small_obj (hsm x hx)
    · rw [e, getF_map (objF_id _ _), (mg_isMerge hok.right h1).2]
      obtain ⟨o, ho, _⟩ := h.own j hj
      rw [ho]
      obtain ⟨x, hx⟩ : ∃ x, joinO (some o) (getF l (j + 1)) = some x := by cases getF l (j + 1) <;> exact ⟨_, rfl⟩
      rw [hx]
      have hg : getF (mgF (S j).ms l) (j + 1) = some x := by rw [(mg_isMerge hok.right h1).2, ho, hx]
      exact ⟨_, rfl, obj_alive (hsm x (getF_some hg).1) (getF_some hg).2⟩
  · have e : hearD (S j) frm l now = passD (S j) now := by unfold hearD; rw [if_neg hk]
    rw [e] at hnew ⊢
    exact h.set hnew (h.self j hj) (h.left j hj) (h.small j hj) (h.own j hj)
theorem rise_len (N : Nat) : ∀ (l : List Nat) (a : Nat), (∀ x ∈ l, a < x ∧ x ≤ N) → l.Pairwise (· < ·) → l.length ≤ N - a
  | [], _, _, _ => Nat.zero_le _
  | x :: t, a, h, hp => by
    obtain ⟨p1, p2⟩ := List.pairwise_cons.1 hp
    have h1 := h x (by simp)
    have := rise_len N t x (fun y hy => ⟨p1 y hy, (h y (by simp [hy])).2⟩) p2
    rw [List.length_cons]
    omega
theorem right_pos {l : List MemberD} (h : rightV l = true) : ∀ m ∈ l, 0 < m.id := by
  intro m hm
  unfold rightV membersF at h
  simp only [Bool.and_eq_true] at h
  exact ((risesFrom_iff _ _).1 h.2.2).1 _ (List.mem_map.2 ⟨m, hm, rfl⟩)
theorem told_zero {M N : Nat} {S : Nat → NodeD} (h : FInv M N S) (hN : N ≤ 16) {i j : Nat} (hi : i < M) (hj : j < M) : hearK (S j) (S i).ms = 0 := by
  have hm := mg_isMerge (h.ok j hj).right (h.ok i hi).right
  unfold hearK
  rw [if_pos (h.ok i hi).right, if_neg]
  have h1 := rise_len N ((mgF (S j).ms (S i).ms).map MemberD.id) 0 (fun x hx => by
    obtain ⟨m, hm2, rfl⟩ := List.mem_map.1 hx
    rcases merge_mem hm hm2 with h2 | h2
    · exact ⟨right_pos (h.ok j hj).right m h2, (h.small j hj m h2).1⟩
    · exact ⟨right_pos (h.ok i hi).right m h2, (h.small i hi m h2).1⟩) hm.1
  rw [List.length_map] at h1
  omega
/-- What j says of y when i has told it. -/
def toldD (S : Nat → NodeD) (i j : Nat) : NodeD := hearD (S j) (i + 1) (S i).ms 1
theorem told_get {M N : Nat} {S : Nat → NodeD} (h : FInv M N S) (hN : N ≤ 16) {i j : Nat} (hi : i < M) (hj : j < M) (y : Nat) : getF (toldD S i j).ms y = (joinO (getF (S j).ms y) (getF (S i).ms y)).map (objF (j + 1) false) := by
  unfold toldD hearD
  rw [if_pos (told_zero h hN hi hj)]
  show getF ((mgF (S j).ms (S i).ms).map (objF (S j).self (S j).left)) y = _
  rw [h.self j hj, h.left j hj, getF_map (objF_id _ _), (mg_isMerge (h.ok j hj).right (h.ok i hi).right).2]
theorem told_other {M N : Nat} {S : Nat → NodeD} (h : FInv M N S) (hN : N ≤ 16) {i j : Nat} (hi : i < M) (hj : j < M) {y : Nat} (hy : y ≠ j + 1) : getF (toldD S i j).ms y = joinO (getF (S j).ms y) (getF (S i).ms y) := by
  rw [told_get h hN hi hj]
  cases hx : joinO (getF (S j).ms y) (getF (S i).ms y) with
  | none => rfl
  | some x =>
    have hid : x.id = y := by
      rw [← (mg_isMerge (h.ok j hj).right (h.ok i hi).right).2] at hx
      exact (getF_some hx).2
    show some (objF (j + 1) false x) = _
    rw [objF_other (by rw [hid]; exact hy)]
/-- Its own: not older than before, nor than what it was told. -/
theorem told_own {M N : Nat} {S : Nat → NodeD} (h : FInv M N S) (hN : N ≤ 16) {i j : Nat} (hi : i < M) (hj : j < M) : ∃ o o', getF (S j).ms (j + 1) = some o ∧ getF (toldD S i j).ms (j + 1) = some o' ∧ LeM o o' ∧ (∀ m, getF (S i).ms (j + 1) = some m → LeM m o') ∧ ((∀ m, getF (S i).ms (j + 1) = some m → LeM m o) → o' = o) := by
  obtain ⟨o, ho, hos⟩ := h.own j hj
  have hg := told_get h hN hi hj (j + 1)
  rw [ho] at hg
  have hup := fun x => leM_of (x := x) (y := objF (j + 1) false x) (by
    have := objF_up (j + 1) false x
    unfold newerB
    exact decide_eq_false (by omega))
  have hsame : objF (j + 1) false o = o := by
    obtain ⟨x, y, s⟩ := o
    simp only at hos
    subst hos
    exact objF_same (objects_alive _ _ _ _)
  rcases hm : getF (S i).ms (j + 1) with _ | m
  · rw [hm] at hg
    refine ⟨o, _, ho, hg, hup o, fun m hm2 => (by cases hm2), fun _ => hsame⟩
  · rw [hm] at hg
    refine ⟨o, _, ho, hg, (join_left o m).trans (hup _), fun m2 hm2 => ?_, fun hle => ?_⟩
    · cases hm2; exact (join_right o m).trans (hup _)
    · rw [join_stays (hle m rfl)]; exact hsame
theorem under_trans {a b c : List MemberD} (h : IsUnder a b) (k : IsUnder b c) : IsUnder a c := fun m hm => by
  obtain ⟨m', h1, h2⟩ := h m hm
  obtain ⟨m2, h3, h4⟩ := k m' (getF_some h1).1
  rw [(getF_some h1).2] at h3
  exact ⟨m2, h3, leM_not ((leM_of h2).trans (leM_of h4))⟩
/-- Nobody knows more of x than x itself. -/
def Dom (N : Nat) (S : Nat → NodeD) : Prop := ∀ a, a < N → ∀ x, x < N → ∀ m o, getF (S a).ms (x + 1) = some m → getF (S x).ms (x + 1) = some o → LeM m o
def Alike (N : Nat) (S : Nat → NodeD) : Prop := ∀ k, k < N → ∀ x, x < N → getF (S x).ms (k + 1) = getF (S k).ms (k + 1)
structure Inv0 (N : Nat) (S0 S : Nat → NodeD) (i j : Nat) : Prop where
  f : FInv N N S
  rise : ∀ a, a < N → IsUnder (S0 a).ms (S a).ms
  bnd : ∀ a, a < N → ∀ x, x < N → ∀ m, getF (S a).ms (x + 1) = some m → (∀ o, getF (S x).ms (x + 1) = some o → LeM m o) ∨ ∃ k, k < N ∧ getF (S0 k).ms (x + 1) = some m
  kn : ∀ k, k < N → ∀ x, x < N → k ≠ x → (k < i ∨ (k = i ∧ x < j)) → ∀ m, getF (S0 k).ms (x + 1) = some m → ∀ o, getF (S x).ms (x + 1) = some o → LeM m o
structure Inv1 (N : Nat) (S : Nat → NodeD) (i j : Nat) : Prop where
  f : FInv N N S
  dom : Dom N S
  al : ∀ k, k < N → ∀ x, x < N → (k < i ∨ (k = i ∧ x < j)) → getF (S x).ms (k + 1) = getF (S k).ms (k + 1)
theorem told_finv {N : Nat} {S : Nat → NodeD} (h : FInv N N S) {i j : Nat} (hi : i < N) (hj : j < N) : FInv N N (upd S j (toldD S i j)) :=
  finv_hear h hj (i + 1) 1 (h.ok i hi).wf (by omega) (h.small i hi)
theorem join_cases {x y : Option MemberD} {m : MemberD} (h : joinO x y = some m) : x = some m ∨ y = some m := by
  cases x with
  | none => exact .inr h
  | some a =>
    cases y with
    | none => exact .inl h
    | some b =>
      have e : joinM a b = m := Option.some.inj h
      rcases join_one a b with h1 | h1
      · rw [h1] at e; rw [e]; exact .inl rfl
      · rw [h1] at e; rw [e]; exact .inr rfl
theorem inv0_step {N : Nat} {S0 S : Nat → NodeD} {i j : Nat} (h : Inv0 N S0 S i j) (hN : N ≤ 16) (hi : i < N) (hj : j < N) (hne : i ≠ j) : Inv0 N S0 (upd S j (toldD S i j)) i (j + 1) := by
  obtain ⟨o, o', ho, ho', hle, hge, _⟩ := told_own h.f hN hi hj
  have hown : ∀ x, x < N → ∀ p, getF (S x).ms (x + 1) = some p → ∀ p', getF (upd S j (toldD S i j) x).ms (x + 1) = some p' → LeM p p' := by
    intro x _ p hp p' hp'
    by_cases e : x = j
    · subst e
      rw [upd_same, ho'] at hp'
      rw [ho] at hp
      cases hp; cases hp'
      exact hle
    · rw [upd_other _ _ e, hp] at hp'
      cases hp'
      exact LeM.refl _
  refine ⟨told_finv h.f hi hj, fun a ha => ?_, fun a ha x hx m hm => ?_, fun k hk x hx hkx ht m hm p' hp' => ?_⟩
  · by_cases e : a = j
    · subst e
      rw [upd_same]
      exact under_trans (h.rise a ha) (under_hear (h.f.ok a ha) _ _ _)
    · rw [upd_other _ _ e]
      exact h.rise a ha
  · by_cases e : a = j
    · subst e
      rw [upd_same] at hm
      by_cases ex : x = a
      · subst ex
        refine .inl fun p hp => ?_
        rw [upd_same, hm] at hp
        cases hp
        exact LeM.refl _
      · rw [told_other h.f hN hi ha (by omega)] at hm
        rw [upd_other _ _ ex]
        rcases join_cases hm with h1 | h1
        · exact h.bnd a ha x hx m h1
        · exact h.bnd i hi x hx m h1
    · rw [upd_other _ _ e] at hm
      rcases h.bnd a ha x hx m hm with h1 | h1
      · refine .inl fun p' hp' => ?_
        obtain ⟨p, hp, _⟩ := h.f.own x hx
        exact (h1 p hp).trans (hown x hx p hp p' hp')
      · exact .inr h1
  · obtain ⟨p, hp, _⟩ := h.f.own x hx
    by_cases hb : k < i ∨ (k = i ∧ x < j)
    · exact (h.kn k hk x hx hkx hb m hm p hp).trans (hown x hx p hp p' hp')
    · obtain ⟨rfl, rfl⟩ : k = i ∧ x = j := by omega
      obtain ⟨m', h1, h2⟩ := h.rise k hk m (getF_some hm).1
      rw [(getF_some hm).2] at h1
      rw [upd_same, ho'] at hp'
      cases hp'
      exact (leM_of h2).trans (hge m' h1)
theorem inv0_skip {N : Nat} {S0 S : Nat → NodeD} {i : Nat} (h : Inv0 N S0 S i i) : Inv0 N S0 S i (i + 1) :=
  ⟨h.f, h.rise, h.bnd, fun k hk x hx hkx ht => h.kn k hk x hx hkx (by omega)⟩
theorem inv0_next {N : Nat} {S0 S : Nat → NodeD} {i : Nat} (h : Inv0 N S0 S i N) : Inv0 N S0 S (i + 1) 0 :=
  ⟨h.f, h.rise, h.bnd, fun k hk x hx hkx ht => h.kn k hk x hx hkx (by omega)⟩
theorem inv0_start {N : Nat} {S : Nat → NodeD} (h : FInv N N S) : Inv0 N S S 0 0 :=
  ⟨h, fun a ha => under_refl (right_rising (h.ok a ha).right), fun a ha x hx m hm => .inr ⟨a, ha, hm⟩, fun k hk x hx hkx ht => absurd ht (by omega)⟩
theorem inv0_end {N : Nat} {S0 S : Nat → NodeD} (h : Inv0 N S0 S N 0) : Dom N S := by
  intro a ha x hx m o hm ho
  rcases h.bnd a ha x hx m hm with h1 | ⟨k, hk, h1⟩
  · exact h1 o ho
  · by_cases e : k = x
    · subst e
      obtain ⟨m', h2, h3⟩ := h.rise k hk m (getF_some h1).1
      rw [(getF_some h1).2, ho] at h2
      cases h2
      exact leM_of h3
    · exact h.kn k hk x hx e (.inl hk) m h1 o ho
theorem inv1_step {N : Nat} {S : Nat → NodeD} {i j : Nat} (h : Inv1 N S i j) (hN : N ≤ 16) (hi : i < N) (hj : j < N) (hne : i ≠ j) : Inv1 N (upd S j (toldD S i j)) i (j + 1) := by
  obtain ⟨o, o', ho, ho', _, _, hst⟩ := told_own h.f hN hi hj
  have e' : o' = o := hst fun m hm => h.dom i hi j hj m o hm ho
  subst e'
  have hown : ∀ x, x < N → getF (upd S j (toldD S i j) x).ms (x + 1) = getF (S x).ms (x + 1) := by
    intro x _
    by_cases e : x = j
    · subst e
      rw [upd_same, ho', ho]
    · rw [upd_other _ _ e]
  refine ⟨told_finv h.f hi hj, fun a ha x hx m p hm hp => ?_, fun k hk x hx ht => ?_⟩
  · rw [hown x hx] at hp
    by_cases e : a = j
    · subst e
      rw [upd_same] at hm
      by_cases ex : x = a
      · subst ex
        rw [ho'] at hm
        rw [ho] at hp
        cases hm; cases hp
        exact LeM.refl _
      · rw [told_other h.f hN hi ha (by omega)] at hm
        rcases join_cases hm with h1 | h1
        · exact h.dom a ha x hx m p h1 hp
        · exact h.dom i hi x hx m p h1 hp
    · rw [upd_other _ _ e] at hm
      exact h.dom a ha x hx m p hm hp
  · rw [hown k hk]
    by_cases e : x = j
    · subst e
      rw [upd_same]
      by_cases ek : k = x
      · subst ek
        rw [ho', ho]
      · rw [told_other h.f hN hi hx (by omega)]
        obtain ⟨p, hp, _⟩ := h.f.own k hk
        by_cases hb : k < i ∨ (k = i ∧ x < x)
        · rw [h.al k hk x hx hb, hp]
          cases hm : getF (S i).ms (k + 1) with
          | none => rfl
          | some m => exact congrArg some (join_stays (h.dom i hi k hk m p hm hp))
        · obtain rfl : k = i := by omega
          rw [hp]
          cases hm : getF (S x).ms (k + 1) with
          | none => rfl
          | some m =>
            refine congrArg some ?_
            have h1 := h.dom x hx k hk m p hm hp
            rcases join_one m p with h2 | h2
            · rw [h2]
              have h3 := join_right m p
              rw [h2] at h3
              exact leM_same h1 h3 ((getF_some hm).2.trans (getF_some hp).2.symm)
            · exact h2
    · rw [upd_other _ _ e]
      exact h.al k hk x hx (by omega)
theorem inv1_skip {N : Nat} {S : Nat → NodeD} {i : Nat} (h : Inv1 N S i i) : Inv1 N S i (i + 1) :=
  ⟨h.f, h.dom, fun k hk x hx ht => by
    by_cases e : k = x
    · subst e; rfl
    · exact h.al k hk x hx (by omega)⟩
theorem inv1_next {N : Nat} {S : Nat → NodeD} {i : Nat} (h : Inv1 N S i N) : Inv1 N S (i + 1) 0 := ⟨h.f, h.dom, fun k hk x hx ht => h.al k hk x hx (by omega)⟩
/-- In round r. -/
def InvR (r N : Nat) (S0 S : Nat → NodeD) (i j : Nat) : Prop := (r = 0 → Inv0 N S0 S i j) ∧ (1 ≤ r → Inv1 N S i j)
theorem invR_f {r N : Nat} {S0 S : Nat → NodeD} {i j : Nat} (h : InvR r N S0 S i j) : FInv N N S := by
  by_cases e : r = 0
  · exact (h.1 e).f
  · exact (h.2 (by omega)).f
theorem invR_start {r N : Nat} {S : Nat → NodeD} (h : FInv N N S) (hd : 1 ≤ r → Dom N S) : InvR r N S S 0 0 :=
  ⟨fun _ => inv0_start h, fun e => ⟨h, hd e, fun k hk x hx ht => absurd ht (by omega)⟩⟩
theorem invR_step {r N : Nat} {S0 S : Nat → NodeD} {i j : Nat} (h : InvR r N S0 S i j) (hN : N ≤ 16) (hi : i < N) (hj : j < N) (hne : i ≠ j) : InvR r N S0 (upd S j (toldD S i j)) i (j + 1) :=
  ⟨fun e => inv0_step (h.1 e) hN hi hj hne, fun e => inv1_step (h.2 e) hN hi hj hne⟩
theorem inv0_keep {N : Nat} {S0 S : Nat → NodeD} {i j i2 j2 : Nat} (h : Inv0 N S0 S i2 j2) (hN : N ≤ 16) (hi : i < N) (hj : j < N) (hne : i ≠ j) : Inv0 N S0 (upd S j (toldD S i j)) i2 j2 := by
  obtain ⟨o, o', ho, ho', hle, _, _⟩ := told_own h.f hN hi hj
  have hown : ∀ x, x < N → ∀ p, getF (S x).ms (x + 1) = some p → ∀ p', getF (upd S j (toldD S i j) x).ms (x + 1) = some p' → LeM p p' := by
    intro x _ p hp p' hp'
    by_cases e : x = j
    · subst e
      rw [upd_same, ho'] at hp'
      rw [ho] at hp
      cases hp; cases hp'
      exact hle
    · rw [upd_other _ _ e, hp] at hp'
      cases hp'
      exact LeM.refl _
  refine ⟨told_finv h.f hi hj, fun a ha => ?_, fun a ha x hx m hm => ?_, fun k hk x hx hkx ht m hm p' hp' => ?_⟩
  · by_cases e : a = j
    · subst e
      rw [upd_same]
      exact under_trans (h.rise a ha) (under_hear (h.f.ok a ha) _ _ _)
    · rw [upd_other _ _ e]
      exact h.rise a ha
  · by_cases e : a = j
    · subst e
      rw [upd_same] at hm
      by_cases ex : x = a
      · subst ex
        refine .inl fun p hp => ?_
        rw [upd_same, hm] at hp
        cases hp
        exact LeM.refl _
      · rw [told_other h.f hN hi ha (by omega)] at hm
        rw [upd_other _ _ ex]
        rcases join_cases hm with h1 | h1
        · exact h.bnd a ha x hx m h1
        · exact h.bnd i hi x hx m h1
    · rw [upd_other _ _ e] at hm
      rcases h.bnd a ha x hx m hm with h1 | h1
      · refine .inl fun p' hp' => ?_
        obtain ⟨p, hp, _⟩ := h.f.own x hx
        exact (h1 p hp).trans (hown x hx p hp p' hp')
      · exact .inr h1
  · obtain ⟨p, hp, _⟩ := h.f.own x hx
    exact (h.kn k hk x hx hkx ht m hm p hp).trans (hown x hx p hp p' hp')
theorem inv1_keep {N : Nat} {S : Nat → NodeD} {i j i2 j2 : Nat} (h : Inv1 N S i2 j2) (hN : N ≤ 16) (hi : i < N) (hj : j < N) (hne : i ≠ j) : Inv1 N (upd S j (toldD S i j)) i2 j2 := by
  obtain ⟨o, o', ho, ho', _, _, hst⟩ := told_own h.f hN hi hj
  have e' : o' = o := hst fun m hm => h.dom i hi j hj m o hm ho
  subst e'
  have hown : ∀ x, x < N → getF (upd S j (toldD S i j) x).ms (x + 1) = getF (S x).ms (x + 1) := by
    intro x _
    by_cases e : x = j
    · subst e
      rw [upd_same, ho', ho]
    · rw [upd_other _ _ e]
  refine ⟨told_finv h.f hi hj, fun a ha x hx m p hm hp => ?_, fun k hk x hx ht => ?_⟩
  · rw [hown x hx] at hp
    by_cases e : a = j
    · subst e
      rw [upd_same] at hm
      by_cases ex : x = a
      · subst ex
        rw [ho'] at hm
        rw [ho] at hp
        cases hm; cases hp
        exact LeM.refl _
      · rw [told_other h.f hN hi ha (by omega)] at hm
        rcases join_cases hm with h1 | h1
        · exact h.dom a ha x hx m p h1 hp
        · exact h.dom i hi x hx m p h1 hp
    · rw [upd_other _ _ e] at hm
      exact h.dom a ha x hx m p hm hp
  · rw [hown k hk]
    by_cases e : x = j
    · subst e
      rw [upd_same]
      by_cases ek : k = x
      · subst ek
        rw [ho', ho]
      · rw [told_other h.f hN hi hx (by omega)]
        obtain ⟨p, hp, _⟩ := h.f.own k hk
        rw [h.al k hk x hx ht, hp]
        cases hm : getF (S i).ms (k + 1) with
        | none => rfl
        | some m => exact congrArg some (join_stays (h.dom i hi k hk m p hm hp))
    · rw [upd_other _ _ e]
      exact h.al k hk x hx ht
theorem invR_keep {r N : Nat} {S0 S : Nat → NodeD} {i j i2 j2 : Nat} (h : InvR r N S0 S i2 j2) (hN : N ≤ 16) (hi : i < N) (hj : j < N) (hne : i ≠ j) : InvR r N S0 (upd S j (toldD S i j)) i2 j2 :=
  ⟨fun e => inv0_keep (h.1 e) hN hi hj hne, fun e => inv1_keep (h.2 e) hN hi hj hne⟩
theorem invR_skip {r N : Nat} {S0 S : Nat → NodeD} {i : Nat} (h : InvR r N S0 S i i) : InvR r N S0 S i (i + 1) := ⟨fun e => inv0_skip (h.1 e), fun e => inv1_skip (h.2 e)⟩
theorem invR_next {r N : Nat} {S0 S : Nat → NodeD} {i : Nat} (h : InvR r N S0 S i N) : InvR r N S0 S (i + 1) 0 := ⟨fun e => inv0_next (h.1 e), fun e => inv1_next (h.2 e)⟩
theorem invR_end {r N : Nat} {S0 S : Nat → NodeD} (h : InvR r N S0 S N 0) : Dom N S ∧ (1 ≤ r → Alike N S) := by
  by_cases e : r = 0
  · exact ⟨inv0_end (h.1 e), fun h1 => absurd h1 (by omega)⟩
  · have h1 := h.2 (by omega)
    exact ⟨h1.dom, fun _ k hk x hx => h1.al k hk x hx (.inl hk)⟩
/-- All views are one. -/
theorem alike_eq {N : Nat} {S : Nat → NodeD} (h : FInv N N S) (ha : Alike N S) {a b : Nat} (hA : a < N) (hB : b < N) : (S a).ms = (S b).ms := by
  refine rising_ext (right_rising (h.ok a hA).right) (right_rising (h.ok b hB).right) fun y => ?_
  by_cases hy : 1 ≤ y ∧ y ≤ N
  · obtain ⟨k, rfl⟩ : ∃ k, y = k + 1 := ⟨y - 1, by omega⟩
    rw [ha k (by omega) a hA, ha k (by omega) b hB]
  · have no : ∀ i, i < N → getF (S i).ms y = none := fun i hi => getF_none.2 fun m hm e => by
      have h1 := right_pos (h.ok i hi).right m hm
      have h2 := (h.small i hi m hm).1
      omega
    rw [no a hA, no b hB]
theorem all_in : ∀ (N : Nat) (l : List Nat), (∀ k, k < N → k + 1 ∈ l) → N ≤ l.length
  | 0, _, _ => Nat.zero_le _
  | N + 1, l, h => by
    have h1 := h N (by omega)
    have h2 := all_in N (l.erase (N + 1)) (fun k hk => (List.mem_erase_of_ne (by omega)).2 (h k (by omega)))
    have h3 := List.length_erase_of_mem h1
    have h4 := List.length_pos_of_mem h1
    omega
theorem alike_len {N : Nat} {S : Nat → NodeD} (h : FInv N N S) (ha : Alike N S) {a : Nat} (hA : a < N) : (S a).ms.length = N := by
  have h1 := rise_len N ((S a).ms.map MemberD.id) 0 (fun x hx => by
    obtain ⟨m, hm, rfl⟩ := List.mem_map.1 hx
    exact ⟨right_pos (h.ok a hA).right m hm, (h.small a hA m hm).1⟩) (right_rising (h.ok a hA).right)
  rw [List.length_map] at h1
  have h2 := all_in N ((S a).ms.map MemberD.id) (fun k hk => by
    obtain ⟨o, ho, _⟩ := h.own k hk
    have := ha k hk a hA
    rw [ho] at this
    exact List.mem_map.2 ⟨o, (getF_some this).1, (getF_some this).2⟩)
  rw [List.length_map] at h2
  omega
theorem alike_own {N : Nat} {S : Nat → NodeD} (h : FInv N N S) (ha : Alike N S) {a k : Nat} (hA : a < N) (hk : k < N) : ∃ x y, getF (S a).ms (k + 1) = some ⟨x, y, 0⟩ := by
  obtain ⟨o, ho, hs⟩ := h.own k hk
  obtain ⟨x, y, s⟩ := o
  simp only at hs
  subst hs
  exact ⟨x, y, by rw [ha k hk a hA, ho]⟩
end Gs
end Go.Proofs.Ytcmoelphjdehaaa
