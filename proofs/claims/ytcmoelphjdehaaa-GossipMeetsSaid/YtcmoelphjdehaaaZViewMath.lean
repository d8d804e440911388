/-
  Views, plain: which member is newer, merging as a join, versions.
-/
import Derived.Test.YtcmoelphjdehaaaZPack
namespace Go.Proofs.Ytcmoelphjdehaaa
set_option linter.unusedSimpArgs false
set_option linter.unusedVariables false
open Go.RowKit Ru
namespace Vw
set_option linter.unusedSimpArgs false
set_option linter.unusedVariables false
theorem mem_ext {a b : MemberD} (h1 : a.id = b.id) (h2 : a.inc = b.inc) (h3 : a.state = b.state) : a = b := by
  obtain ⟨x, y, z⟩ := a
  obtain ⟨u, v, w⟩ := b
  simp only at h1 h2 h3
  subst h1 h2 h3
  rfl
/-- Is a newer than b? -/
def newerB (a b : MemberD) : Bool := decide (b.inc < a.inc ∨ (a.inc = b.inc ∧ b.state < a.state))
/-- Of two members of one Id the newer one. -/
def joinM (x y : MemberD) : MemberD := if newerB y x then y else x
def joinO : Option MemberD → Option MemberD → Option MemberD
  | none, y => y
  | some x, none => some x
  | some x, some y => some (joinM x y)
theorem joinO_none (x : Option MemberD) : joinO x none = x := by cases x <;> rfl
theorem joinM_id {x y : MemberD} (h : x.id = y.id) : (joinM x y).id = x.id := by
  unfold joinM
  split
  · exact h.symm
  · rfl
theorem joinM_yes {x y : MemberD} (h : x.inc < y.inc ∨ (y.inc = x.inc ∧ x.state < y.state)) : joinM x y = y := by
  unfold joinM newerB
  rw [decide_eq_true h, if_pos rfl]
theorem joinM_no {x y : MemberD} (h : ¬ (x.inc < y.inc ∨ (y.inc = x.inc ∧ x.state < y.state))) : joinM x y = x := by
  unfold joinM newerB
  rw [decide_eq_false h, if_neg Bool.false_ne_true]
theorem joinM_comm {x y : MemberD} (h : x.id = y.id) : joinM x y = joinM y x := by
  by_cases h1 : x.inc < y.inc ∨ (y.inc = x.inc ∧ x.state < y.state)
  · rw [joinM_yes h1, joinM_no (by omega)]
  · by_cases h2 : y.inc < x.inc ∨ (x.inc = y.inc ∧ y.state < x.state)
    · rw [joinM_no h1, joinM_yes h2]
    · rw [joinM_no h1, joinM_no h2]
      exact mem_ext h (by omega) (by omega)
theorem joinM_assoc (x y z : MemberD) : joinM (joinM x y) z = joinM x (joinM y z) := by
  by_cases h1 : x.inc < y.inc ∨ (y.inc = x.inc ∧ x.state < y.state)
  · rw [joinM_yes h1]
    by_cases h2 : y.inc < z.inc ∨ (z.inc = y.inc ∧ y.state < z.state)
    · rw [joinM_yes h2, joinM_yes (by omega)]
    · rw [joinM_no h2, joinM_yes h1]
  · rw [joinM_no h1]
    by_cases h2 : y.inc < z.inc ∨ (z.inc = y.inc ∧ y.state < z.state)
    · rw [joinM_yes h2]
    · rw [joinM_no h2, joinM_no h1, joinM_no (by omega)]
theorem joinM_self (x : MemberD) : joinM x x = x := by
  unfold joinM
  split <;> rfl
/-- By Id, rising. -/
def Rising (l : List MemberD) : Prop := (l.map MemberD.id).Pairwise (· < ·)
theorem rising_nil : Rising [] := List.Pairwise.nil
theorem rising_cons {x : MemberD} {t : List MemberD} : Rising (x :: t) ↔ (∀ y ∈ t, x.id < y.id) ∧ Rising t := by
  unfold Rising
  rw [List.map_cons, List.pairwise_cons]
  constructor
  · rintro ⟨h1, h2⟩
    exact ⟨fun y hy => h1 _ (List.mem_map.2 ⟨y, hy, rfl⟩), h2⟩
  · rintro ⟨h1, h2⟩
    refine ⟨fun n hn => ?_, h2⟩
    obtain ⟨y, hy, rfl⟩ := List.mem_map.1 hn
    exact h1 y hy
def getF (l : List MemberD) (id : Nat) : Option MemberD := l.find? (fun m => m.id == id)
theorem getF_nil (id : Nat) : getF [] id = none := rfl
theorem getF_cons (x : MemberD) (t : List MemberD) (id : Nat) : getF (x :: t) id = if x.id = id then some x else getF t id := by
  unfold getF
  by_cases h : x.id = id
  · rw [if_pos h, List.find?_cons_of_pos (by simpa using h)]
  · rw [if_neg h, List.find?_cons_of_neg (by simpa using h)]
theorem getF_some {l : List MemberD} {id : Nat} {m : MemberD} (h : getF l id = some m) : m ∈ l ∧ m.id = id :=
  ⟨List.mem_of_find?_eq_some h, by have := List.find?_some h; simpa using this⟩
theorem getF_none {l : List MemberD} {id : Nat} : getF l id = none ↔ ∀ m ∈ l, m.id ≠ id := by
  unfold getF
  rw [List.find?_eq_none]
  simp
theorem getF_mem : ∀ {l : List MemberD}, Rising l → ∀ {m : MemberD}, m ∈ l → getF l m.id = some m
  | [], _, m, hm => by simp at hm
  | x :: t, hr, m, hm => by
    rw [getF_cons]
    rcases List.mem_cons.1 hm with rfl | hm
    · rw [if_pos rfl]
    · have h1 := (rising_cons.1 hr).1 m hm
      rw [if_neg (by omega)]
      exact getF_mem (rising_cons.1 hr).2 hm
theorem rising_ext : ∀ {l l' : List MemberD}, Rising l → Rising l' → (∀ id, getF l id = getF l' id) → l = l'
  | [], [], _, _, _ => rfl
  | [], y :: t', _, hr', h => by
    have := h y.id
    rw [getF_nil, getF_cons, if_pos rfl] at this
    cases this
  | x :: t, [], _, _, h => by
    have := h x.id
    rw [getF_nil, getF_cons, if_pos rfl] at this
    cases this
  | x :: t, y :: t', hr, hr', h => by
    have h1 := h x.id
    rw [getF_cons, if_pos rfl] at h1
    have h2 := h y.id
    rw [getF_cons y, if_pos rfl] at h2
    have m1 := (getF_some h1.symm).1
    have m2 := (getF_some h2).1
    have r1 := (rising_cons.1 hr).1
    have r2 := (rising_cons.1 hr').1
    have e : x = y := by
      rcases List.mem_cons.1 m1 with e | e
      · exact e
      · rcases List.mem_cons.1 m2 with e' | e'
        · exact e'.symm
        · have := r1 y e'
          have := r2 x e
          omega
    subst e
    have ht : t = t' := rising_ext (rising_cons.1 hr).2 (rising_cons.1 hr').2 (fun id => by
      by_cases hx : x.id = id
      · rw [getF_none.2 (fun m hm => by have := r1 m hm; omega), getF_none.2 (fun m hm => by have := r2 m hm; omega)]
      · have := h id
        rwa [getF_cons, getF_cons, if_neg hx, if_neg hx] at this)
    rw [ht]
/-- What two views say together. -/
def IsMerge (a b r : List MemberD) : Prop := Rising r ∧ ∀ id, getF r id = joinO (getF a id) (getF b id)
theorem isMerge_one {a b r r' : List MemberD} (h : IsMerge a b r) (h' : IsMerge a b r') : r = r' := rising_ext h.1 h'.1 fun id => by rw [h.2, h'.2]
theorem joinO_comm {l l' : List MemberD} (id : Nat) : joinO (getF l id) (getF l' id) = joinO (getF l' id) (getF l id) := by
  rcases h : getF l id with _ | x
  · rw [joinO_none]; rfl
  · rcases h' : getF l' id with _ | y
    · rfl
    · exact congrArg some (joinM_comm ((getF_some h).2.trans (getF_some h').2.symm))
theorem joinO_assoc (x y z : Option MemberD) : joinO (joinO x y) z = joinO x (joinO y z) := by
  cases x <;> cases y <;> cases z <;> first | rfl | exact congrArg some (joinM_assoc _ _ _)
theorem merge_comm {a b r r' : List MemberD} (h : IsMerge a b r) (h' : IsMerge b a r') : r = r' := rising_ext h.1 h'.1 fun id => by rw [h.2, h'.2]; exact joinO_comm id
theorem merge_self {a r : List MemberD} (ha : Rising a) (h : IsMerge a a r) : r = a := rising_ext h.1 ha fun id => by
  rw [h.2]
  cases getF a id
  · rfl
  · exact congrArg some (joinM_self _)
theorem merge_assoc {a b c ab bc x y : List MemberD} (h1 : IsMerge a b ab) (h2 : IsMerge b c bc) (h3 : IsMerge ab c x) (h4 : IsMerge a bc y) : x = y := rising_ext h3.1 h4.1 fun id => by
  rw [h3.2, h4.2, h1.2, h2.2]
  exact joinO_assoc _ _ _
/-- Each member of a is in r, or a newer one. -/
theorem merge_below {a b r : List MemberD} (ha : Rising a) (h : IsMerge a b r) {m : MemberD} (hm : m ∈ a) : ∃ m', getF r m.id = some m' ∧ newerB m m' = false ∧ (m' = m ∨ newerB m' m = true) := by
  have h1 := getF_mem ha hm
  have h2 := h.2 m.id
  rw [h1] at h2
  rcases h3 : getF b m.id with _ | y
  · rw [h3] at h2
    refine ⟨m, h2, ?_, .inl rfl⟩
    unfold newerB
    exact decide_eq_false (by omega)
  · rw [h3] at h2
    refine ⟨joinM m y, h2, ?_, ?_⟩
    · unfold joinM
      by_cases hn : newerB y m = true
      · rw [if_pos hn]
        unfold newerB at *
        have := of_decide_eq_true hn
        exact decide_eq_false (by omega)
      · rw [if_neg hn]
        unfold newerB
        exact decide_eq_false (by omega)
    · unfold joinM
      by_cases hn : newerB y m = true
      · rw [if_pos hn]; exact .inr hn
      · rw [if_neg hn]; exact .inl rfl
/-- What so many members say of an Id, one behind the other. -/
def bestF (c : List MemberD) (id : Nat) : Option MemberD := c.foldl (fun acc m => if m.id = id then joinO acc (some m) else acc) none
theorem bestF_nil (id : Nat) : bestF [] id = none := rfl
theorem bestF_snoc (c : List MemberD) (m : MemberD) (id : Nat) : bestF (c ++ [m]) id = if m.id = id then joinO (bestF c id) (some m) else bestF c id := by
  unfold bestF
  rw [List.foldl_append]
  rfl
theorem bestF_id : ∀ (c : List MemberD) (acc : Option MemberD) (id : Nat), (∀ x, acc = some x → x.id = id) → ∀ m, c.foldl (fun acc m => if m.id = id then joinO acc (some m) else acc) acc = some m → m.id = id
  | [], acc, id, h, m, hm => h m hm
  | x :: t, acc, id, h, m, hm => by
    refine bestF_id t _ id ?_ m hm
    intro y hy
    simp only at hy
    by_cases hx : x.id = id
    · rw [if_pos hx] at hy
      rcases acc with _ | z
      · cases hy; exact hx
      · have hz := h z rfl
        have : joinM z x = y := Option.some.inj hy
        rw [← this, joinM_id (by omega)]
        exact hz
    · rw [if_neg hx] at hy
      exact h y hy
theorem bestF_has {c : List MemberD} {id : Nat} {m : MemberD} (h : bestF c id = some m) : m.id = id := bestF_id c none id (fun _ h => by cases h) m h
theorem fold_rising : ∀ {b : List MemberD}, Rising b → ∀ (acc : Option MemberD) (id : Nat), b.foldl (fun acc m => if m.id = id then joinO acc (some m) else acc) acc = joinO acc (getF b id)
  | [], _, acc, id => (joinO_none acc).symm
  | x :: t, hr, acc, id => by
    obtain ⟨r1, r2⟩ := rising_cons.1 hr
    rw [List.foldl_cons, getF_cons]
    by_cases hx : x.id = id
    · rw [if_pos hx, if_pos hx, fold_rising r2, getF_none.2 (fun m hm => by have := r1 m hm; omega), joinO_none]
    · rw [if_neg hx, if_neg hx, fold_rising r2]
theorem bestF_two {a b : List MemberD} (ha : Rising a) (hb : Rising b) (id : Nat) : bestF (a ++ b) id = joinO (getF a id) (getF b id) := by
  unfold bestF
  rw [List.foldl_append, fold_rising ha, fold_rising hb]
  rfl
/-- A list of all keys, rising, each with what is said of it. -/
theorem merge_keys {a b : List MemberD} (ha : Rising a) (hb : Rising b) {ks : List Nat} (hk : ks.Pairwise (· < ·)) (hm : ∀ id, id ∈ ks ↔ bestF (a ++ b) id ≠ none) {r : List MemberD} (hr : r.length = ks.length) (hi : ∀ j (h1 : j < ks.length) (h2 : j < r.length), bestF (a ++ b) ks[j] = some r[j]) : IsMerge a b r := by
  have hids : r.map MemberD.id = ks := by
    refine List.ext_getElem (by simpa using hr) fun j h1 h2 => ?_
    rw [List.getElem_map]
    exact bestF_has (hi j h2 (by simpa using h1))
  have hrr : Rising r := by unfold Rising; rw [hids]; exact hk
  refine ⟨hrr, fun id => ?_⟩
  rw [← bestF_two ha hb]
  by_cases h : id ∈ ks
  · obtain ⟨j, hj, rfl⟩ := List.getElem_of_mem h
    have e := hi j hj (by omega)
    rw [e]
    have := getF_mem hrr (List.getElem_mem (show j < r.length by omega))
    rwa [bestF_has e] at this
  · have h2 : bestF (a ++ b) id = none := by
      rcases h3 : bestF (a ++ b) id with _ | x
      · rfl
      · exact absurd ((hm id).2 (by rw [h3]; simp)) h
    rw [h2]
    refine getF_none.2 fun m hm2 e => h ?_
    rw [← hids]
    exact List.mem_map.2 ⟨m, hm2, e⟩
/-- One member put among others, which rise. -/
def putM : List MemberD → MemberD → List MemberD
  | [], x => [x]
  | y :: t, x => if y.id < x.id then y :: putM t x else if y.id = x.id then joinM y x :: t else x :: y :: t
theorem putM_ids : ∀ (l : List MemberD) (x m : MemberD), m ∈ putM l x → m.id = x.id ∨ ∃ y ∈ l, y.id = m.id
  | [], x, m, h => by rw [putM, List.mem_singleton] at h; rw [h]; exact .inl rfl
  | y :: t, x, m, h => by
    rw [putM] at h
    split at h
    · rcases List.mem_cons.1 h with rfl | h
      · exact .inr ⟨m, by simp, rfl⟩
      · rcases putM_ids t x m h with h | ⟨z, hz, e⟩
        · exact .inl h
        · exact .inr ⟨z, by simp [hz], e⟩
    · split at h
      · rename_i h2
        rcases List.mem_cons.1 h with rfl | h
        · rw [joinM_id h2]; exact .inr ⟨y, by simp, rfl⟩
        · exact .inr ⟨m, by simp [h], rfl⟩
      · rcases List.mem_cons.1 h with rfl | h
        · exact .inl rfl
        · exact .inr ⟨m, h, rfl⟩
theorem putM_rising : ∀ {l : List MemberD}, Rising l → ∀ x, Rising (putM l x)
  | [], _, x => by rw [putM]; exact rising_cons.2 ⟨by simp, rising_nil⟩
  | y :: t, hr, x => by
    obtain ⟨r1, r2⟩ := rising_cons.1 hr
    rw [putM]
    split
    · rename_i h
      refine rising_cons.2 ⟨fun z hz => ?_, putM_rising r2 x⟩
      rcases putM_ids t x z hz with e | ⟨u, hu, e⟩
      · omega
      · have := r1 u hu; omega
    · split
      · rename_i h h2
        refine rising_cons.2 ⟨fun z hz => ?_, r2⟩
        rw [joinM_id h2]
        exact r1 z hz
      · rename_i h h2
        refine rising_cons.2 ⟨fun z hz => ?_, hr⟩
        rcases List.mem_cons.1 hz with rfl | hz
        · omega
        · have := r1 z hz; omega
theorem putM_get : ∀ {l : List MemberD}, Rising l → ∀ (x : MemberD) (id : Nat), getF (putM l x) id = if x.id = id then joinO (getF l id) (some x) else getF l id
  | [], _, x, id => by rw [putM, getF_cons]; rfl
  | y :: t, hr, x, id => by
    obtain ⟨r1, r2⟩ := rising_cons.1 hr
    rw [putM]
    split
    · rename_i h
      rw [getF_cons, getF_cons, putM_get r2]
      by_cases h1 : y.id = id
      · rw [if_pos h1, if_neg (by omega), if_pos h1]
      · rw [if_neg h1, if_neg h1]
    · split
      · rename_i h h2
        rw [getF_cons, joinM_id h2, getF_cons]
        by_cases h1 : y.id = id
        · rw [if_pos h1, if_pos (by omega), if_pos h1]; rfl
        · rw [if_neg h1, if_neg (by omega), if_neg h1]
      · rename_i h h2
        rw [getF_cons]
        by_cases h1 : x.id = id
        · rw [if_pos h1, if_pos h1]
          rw [getF_none.2 (fun m hm => by
            rcases List.mem_cons.1 hm with rfl | hm
            · omega
            · have := r1 m hm; omega)]
          rfl
        · rw [if_neg h1, if_neg h1]
/-- Where it goes: behind so many that are below it. -/
theorem putM_at : ∀ (l : List MemberD) (x : MemberD) (k : Nat) (_ : k ≤ l.length), (∀ j (hj : j < l.length), j < k → l[j].id < x.id) →
    putM l x = l.take k ++ putM (l.drop k) x
  | l, x, 0, _, _ => by simp
  | [], x, k + 1, hk, _ => by simp at hk
  | y :: t, x, k + 1, hk, h => by
    have h0 := h 0 (by simp) (by omega)
    rw [List.take_succ_cons, List.drop_succ_cons, List.cons_append, ← putM_at t x k (by simpa using hk) (fun j hj hjk => h (j + 1) (by simpa using hj) (by omega))]
    rw [putM, if_pos (by simpa using h0)]
theorem putM_end (l : List MemberD) (x : MemberD) (h : ∀ j (hj : j < l.length), l[j].id < x.id) : putM l x = l ++ [x] := by
  rw [putM_at l x l.length (Nat.le_refl _) (fun j hj _ => h j hj), List.take_length, List.drop_length]
  rfl
theorem putM_new {l : List MemberD} {x : MemberD} {k : Nat} (hk : k < l.length) (h : ∀ j (hj : j < l.length), j < k → l[j].id < x.id) (h2 : x.id < l[k].id) : putM l x = l.take k ++ [x] ++ l.drop k := by
  rw [putM_at l x k (by omega) h, List.drop_eq_getElem_cons hk, putM, if_neg (by omega), if_neg (by omega)]
  simp
theorem putM_old {l : List MemberD} {x : MemberD} {k : Nat} (hk : k < l.length) (h : ∀ j (hj : j < l.length), j < k → l[j].id < x.id) (h2 : l[k].id = x.id) : putM l x = l.set k (joinM l[k] x) := by
  rw [putM_at l x k (by omega) h, List.drop_eq_getElem_cons hk, putM, if_neg (by omega), if_pos h2, List.set_eq_take_append_cons_drop, if_pos hk]
theorem put_all {a b : List MemberD} (ha : Rising a) (hb : Rising b) : IsMerge a b (b.foldl putM a) := by
  have key : ∀ (b l : List MemberD), Rising b → Rising l → Rising (b.foldl putM l) ∧ ∀ id, getF (b.foldl putM l) id = joinO (getF l id) (getF b id) := by
    intro b
    induction b with
    | nil => intro l _ hl; exact ⟨hl, fun id => (joinO_none _).symm⟩
    | cons x t ih =>
      intro l hb hl
      obtain ⟨r1, r2⟩ := rising_cons.1 hb
      obtain ⟨i1, i2⟩ := ih (putM l x) r2 (putM_rising hl x)
      refine ⟨i1, fun id => ?_⟩
      rw [List.foldl_cons, i2, putM_get hl, getF_cons]
      by_cases h : x.id = id
      · rw [if_pos h, if_pos h, (getF_none (l := t)).2 (fun m hm => by have := r1 m hm; omega), joinO_none]
      · rw [if_neg h, if_neg h]
  exact key b a hb ha
theorem merge_mem {a b r : List MemberD} (h : IsMerge a b r) {m : MemberD} (hm : m ∈ r) : m ∈ a ∨ m ∈ b := by
  have h1 := getF_mem h.1 hm
  rw [h.2] at h1
  rcases h2 : getF a m.id with _ | x
  · rw [h2] at h1
    exact .inr (getF_some h1).1
  · rcases h3 : getF b m.id with _ | y
    · rw [h2, h3] at h1
      cases h1
      exact .inl (getF_some h2).1
    · rw [h2, h3] at h1
      have e : joinM x y = m := Option.some.inj h1
      unfold joinM at e
      split at e
      · subst e; exact .inr (getF_some h3).1
      · subst e; exact .inl (getF_some h2).1
theorem put_length (l : List MemberD) (x : MemberD) : (putM l x).length ≤ l.length + 1 := by
  induction l with
  | nil => simp [putM]
  | cons y t ih =>
    rw [putM]
    split
    · simp; omega
    · split <;> simp
theorem puts_length (b l : List MemberD) : (b.foldl putM l).length ≤ l.length + b.length := by
  induction b generalizing l with
  | nil => simp
  | cons x t ih =>
    rw [List.foldl_cons, List.length_cons]
    have := ih (putM l x)
    have := put_length l x
    omega
/-! Versions. -/
def weight (m : MemberD) : Nat := 3 * (m.inc - 1) + m.state.toNat + 1
def versF (l : List MemberD) : Nat := (l.map weight).sum
theorem versF_cons (x : MemberD) (t : List MemberD) : versF (x :: t) = weight x + versF t := by simp [versF]
theorem versF_snoc (t : List MemberD) (x : MemberD) : versF (t ++ [x]) = versF t + weight x := by simp [versF]
theorem versF_take {l : List MemberD} {k : Nat} (hk : k < l.length) : versF (l.take (k + 1)) = versF (l.take k) + weight l[k] := by rw [List.take_succ_eq_append_getElem hk, versF_snoc]
theorem versF_le (l : List MemberD) (k : Nat) : versF (l.take k) ≤ versF l := by
  conv => rhs; rw [← List.take_append_drop k l]
  simp only [versF, List.map_append, List.sum_append]
  omega
theorem weight_newer {x y : MemberD} (hx : okMem x = true) (hy : okMem y = true) (h : newerB y x = true) : weight x < weight y := by
  unfold okMem at hx hy
  simp only [Bool.and_eq_true, decide_eq_true_eq] at hx hy
  have := of_decide_eq_true h
  unfold weight
  omega
theorem vers_rises : ∀ {r a : List MemberD}, Rising a → Rising r → (∀ m ∈ a, ∃ m', getF r m.id = some m' ∧ (m' = m ∨ weight m < weight m')) → versF a ≤ versF r ∧ (versF a = versF r → a = r)
  | [], [], _, _, _ => ⟨Nat.le_refl _, fun _ => rfl⟩
  | [], x :: t, _, _, h => by
    obtain ⟨m', h1, _⟩ := h x (by simp)
    rw [getF_nil] at h1
    cases h1
  | z :: r, [], _, _, _ => ⟨by simp [versF], fun e => by rw [versF_cons] at e; simp [versF, weight] at e; omega⟩
  | z :: r, x :: t, ha, hr, h => by
    obtain ⟨a1, a2⟩ := rising_cons.1 ha
    obtain ⟨r1, r2⟩ := rising_cons.1 hr
    obtain ⟨m', h1, h2⟩ := h x (by simp)
    rw [getF_cons] at h1
    by_cases e : z.id = x.id
    · rw [if_pos e] at h1
      cases h1
      have ht := vers_rises a2 r2 (fun m hm => by
        obtain ⟨m', h3, h4⟩ := h m (by simp [hm])
        rw [getF_cons, if_neg (by have := a1 m hm; omega)] at h3
        exact ⟨m', h3, h4⟩)
      rw [versF_cons, versF_cons]
      rcases h2 with rfl | h2
      · exact ⟨by omega, fun e => by rw [ht.2 (by omega)]⟩
      · exact ⟨by omega, fun e => by omega⟩
    · rw [if_neg e] at h1
      have hlt : z.id < x.id := by
        have := r1 m' (getF_some h1).1
        have := (getF_some h1).2
        omega
      have ht := vers_rises ha r2 (fun m hm => by
        obtain ⟨m', h3, h4⟩ := h m hm
        rw [getF_cons, if_neg (by
          rcases List.mem_cons.1 hm with rfl | hm
          · omega
          · have := a1 m hm; omega)] at h3
        exact ⟨m', h3, h4⟩)
      rw [versF_cons z]
      have hw : 1 ≤ weight z := by unfold weight; omega
      exact ⟨by omega, fun e => by omega⟩
end Vw
end Go.Proofs.Ytcmoelphjdehaaa
