/-
  A gossiping node, plain: what it is, what each of its calls makes of it.
-/
import Derived.Test.YtcmoelphjdehaaaZMapMem
import Derived.Test.YtcmoelphjdehaaaZMerge
import Derived.Test.YtcmoelphjdehaaaZViewMath
import Derived.Deep.QuietTactic
import Derived.BigQuiet
import Derived.Lib.MinMax
namespace Go.Proofs.Ytcmoelphjdehaaa
set_option linter.unusedSimpArgs false
set_option linter.unusedVariables false
open Go.RowKit Ru Vw
namespace Gs
set_option linter.unusedSimpArgs false
set_option linter.unusedVariables false
theorem right_ok {ms : List MemberD} (h : rightV ms = true) : ∀ m ∈ ms, okMem m = true := by
  unfold rightV membersF at h
  rw [Bool.and_eq_true, Bool.and_eq_true] at h
  exact fun m hm => List.all_eq_true.1 h.2.1 m hm
theorem right_merged {a b mg : List MemberD} (ha : rightV a = true) (hb : rightV b = true) (h : IsMerge a b mg) (hl : mg.length ≤ 16) : rightV mg = true := by
  have hpos : ∀ l : List MemberD, rightV l = true → ∀ m ∈ l, 0 < m.id := by
    intro l hl m hm
    unfold rightV membersF at hl
    simp only [Bool.and_eq_true] at hl
    exact ((risesFrom_iff _ _).1 hl.2.2).1 _ (List.mem_map.2 ⟨m, hm, rfl⟩)
  unfold rightV membersF
  rw [decide_eq_true hl, Bool.true_and, Bool.and_eq_true]
  refine ⟨List.all_eq_true.2 fun m hm => ?_, (risesFrom_iff _ _).2 ⟨fun x hx => ?_, h.1⟩⟩
  · rcases merge_mem h hm with h1 | h1
    · exact right_ok ha m h1
    · exact right_ok hb m h1
  · obtain ⟨m, hm, rfl⟩ := List.mem_map.1 hx
    rcases merge_mem h hm with h1 | h1
    · exact hpos a ha m h1
    · exact hpos b hb m h1
structure NodeD where
  self : Nat
  period : Nat
  wait : Nat
  time : Nat
  due : Nat
  left : Bool
  ms : List MemberD
  heard : Nat → Option Nat
/-- Its own member objects. -/
def objects (self : Nat) (left : Bool) (m : MemberD) : Bool := decide (m.id = self) && (!left && (decide (m.state ≠ 0) && decide (m.inc ≠ 18446744073709551615)))
def objF (self : Nat) (left : Bool) (m : MemberD) : MemberD := if objects self left m = true then ⟨m.id, m.inc + 1, 0⟩ else m
def goneF (self : Nat) (m : MemberD) : MemberD := if m.id = self then ⟨m.id, m.inc, 2⟩ else m
def nextF (s : Int) (silent wait : Nat) : Int := if s = 1 then (if 2 * wait ≤ silent then 2 else 1) else if s = 0 then (if wait ≤ silent then 1 else 0) else s
def silentF (time : Nat) (heard : Nat → Option Nat) (id : Nat) : Nat := time - (heard id).getD 0
def judF (self time wait : Nat) (heard : Nat → Option Nat) (m : MemberD) : MemberD := if m.id = self then m else ⟨m.id, m.inc, nextF m.state (silentF time heard m.id) wait⟩
def noteF (self frm time : Nat) (ms : List MemberD) (h : Nat → Option Nat) : Nat → Option Nat := fun id =>
  if id ≠ self ∧ (∃ m ∈ ms, m.id = id) ∧ (id = frm ∨ h id = none) then some time else h id
def mgF (a b : List MemberD) : List MemberD := b.foldl putM a
def hearK (d : NodeD) (l : List MemberD) : Int := if rightV l = true then (if 16 < (mgF d.ms l).length then 4 else 0) else 6
def passD (d : NodeD) (now : Nat) : NodeD := { d with time := max d.time now }
def heardD (d : NodeD) (frm : Nat) (l : List MemberD) (now : Nat) : NodeD :=
  { d with time := max d.time now, ms := (mgF d.ms l).map (objF d.self d.left), heard := noteF d.self frm (max d.time now) (mgF d.ms l) d.heard }
def hearD (d : NodeD) (frm : Nat) (l : List MemberD) (now : Nat) : NodeD := if hearK d l = 0 then heardD d frm l now else passD d now
def leaveD (d : NodeD) : NodeD := { d with left := true, ms := d.ms.map (goneF d.self) }
def tickedD (d : NodeD) (now : Nat) : NodeD :=
  { d with time := max d.time now, due := max d.time now + min d.period (18446744073709551615 - max d.time now), ms := d.ms.map (judF d.self (max d.time now) d.wait d.heard) }
def tickD (d : NodeD) (now : Nat) : NodeD := if max d.time now < d.due then passD d now else tickedD d now
def idsF (self : Nat) (ms : List MemberD) : List Nat := (ms.filter (fun m => decide (m.id ≠ self) && decide (m.state ≠ 2))).map MemberD.id
def goneIds (self : Nat) (ms : List MemberD) : List Nat := (ms.filter (fun m => decide (m.id ≠ self) && decide (m.state = 2))).map MemberD.id
def whomF (self : Nat) (ms : List MemberD) (pick : Nat) : List Nat :=
  if goneIds self ms = [] then idsF self ms else idsF self ms ++ [(goneIds self ms)[pick % (goneIds self ms).length]?.getD 0]
def tickR (d : NodeD) (now pick : Nat) : List Nat := if max d.time now < d.due then [] else whomF d.self (tickedD d now).ms pick
/-- What a node always is. -/
structure NOk (d : NodeD) : Prop where
  self0 : d.self ≠ 0
  selfB : d.self < 18446744073709551616
  per1 : 1 ≤ d.period
  perB : d.period ≤ 1099511627776
  wait1 : 1 ≤ d.wait
  waitB : d.wait ≤ 1099511627776
  timeB : d.time < 18446744073709551616
  dueB : d.due < 18446744073709551616
  right : rightV d.ms = true
  wf : ∀ m ∈ d.ms, m.Wf
  has : ∃ m ∈ d.ms, m.id = d.self
  dom : ∀ id, (d.heard id).isSome = true → id ≠ d.self ∧ ∃ m ∈ d.ms, m.id = id
  heardB : ∀ id t, d.heard id = some t → t ≤ d.time
/-! What holds of a list of members whose Ids stand. -/
theorem map_ids {l : List MemberD} {f : MemberD → MemberD} (hf : ∀ m, (f m).id = m.id) : (l.map f).map MemberD.id = l.map MemberD.id := by
  rw [List.map_map]
  exact List.map_congr_left fun m _ => hf m
theorem rising_map {l : List MemberD} {f : MemberD → MemberD} (hf : ∀ m, (f m).id = m.id) : Rising (l.map f) ↔ Rising l := by
  unfold Rising
  rw [map_ids hf]
theorem right_map {l : List MemberD} {f : MemberD → MemberD} (hf : ∀ m, (f m).id = m.id) (ho : ∀ m, okMem m = true → okMem (f m) = true) (h : rightV l = true) : rightV (l.map f) = true := by
  unfold rightV membersF at *
  rw [map_ids hf, List.length_map]
  simp only [Bool.and_eq_true, List.all_eq_true] at *
  refine ⟨h.1, fun m hm => ?_, h.2.2⟩
  obtain ⟨x, hx, rfl⟩ := List.mem_map.1 hm
  exact ho x (h.2.1 x hx)
theorem getF_map {f : MemberD → MemberD} (hf : ∀ m, (f m).id = m.id) : ∀ (l : List MemberD) (id : Nat), getF (l.map f) id = (getF l id).map f
  | [], id => rfl
  | x :: t, id => by
    rw [List.map_cons, getF_cons, getF_cons, hf, getF_map hf t]
    split <;> rfl
theorem set_map {l : List MemberD} (hr : Rising l) {f : MemberD → MemberD} {k : Nat} (hk : k < l.length) (hf : ∀ m, m.id ≠ l[k].id → f m = m) : l.set k (f l[k]) = l.map f := by
  refine List.ext_getElem (by simp) fun j h1 h2 => ?_
  rw [List.getElem_map, List.getElem_set]
  by_cases e : k = j
  · subst e; rw [if_pos rfl]
  · rw [if_neg e]
    refine (hf _ fun e2 => ?_).symm
    have hj : j < l.length := by simpa using h2
    have hp := List.pairwise_iff_getElem.1 hr
    rcases Nat.lt_or_ge k j with h3 | h3
    · have := hp k j (by simpa using hk) (by simpa using hj) h3
      simp only [List.getElem_map] at this
      omega
    · have := hp j k (by simpa using hj) (by simpa using hk) (by omega)
      simp only [List.getElem_map] at this
      omega
theorem objF_id (self : Nat) (left : Bool) (m : MemberD) : (objF self left m).id = m.id := by unfold objF; split <;> rfl
theorem goneF_id (self : Nat) (m : MemberD) : (goneF self m).id = m.id := by unfold goneF; split <;> rfl
theorem judF_id (self time wait : Nat) (h : Nat → Option Nat) (m : MemberD) : (judF self time wait h m).id = m.id := by unfold judF; split <;> rfl
theorem objF_other {self : Nat} {left : Bool} {m : MemberD} (h : m.id ≠ self) : objF self left m = m := by
  unfold objF objects
  rw [decide_eq_false h]
  rfl
theorem goneF_other {self : Nat} {m : MemberD} (h : m.id ≠ self) : goneF self m = m := by unfold goneF; rw [if_neg h]
theorem ok_iff {m : MemberD} : okMem m = true ↔ 0 < m.inc ∧ 0 ≤ m.state ∧ m.state ≤ 2 := by
  unfold okMem
  simp only [Bool.and_eq_true, decide_eq_true_eq]
theorem objF_ok {self : Nat} {left : Bool} {m : MemberD} (h : okMem m = true) : okMem (objF self left m) = true := by
  unfold objF
  split
  · rw [ok_iff] at *; simp only; omega
  · exact h
theorem goneF_ok {self : Nat} {m : MemberD} (h : okMem m = true) : okMem (goneF self m) = true := by
  unfold goneF
  split
  · rw [ok_iff] at *; simp only; omega
  · exact h
theorem nextF_in {s : Int} {a b : Nat} (h : 0 ≤ s ∧ s ≤ 2) : 0 ≤ nextF s a b ∧ nextF s a b ≤ 2 ∧ s ≤ nextF s a b := by
  unfold nextF
  split
  · split <;> omega
  · split
    · split <;> omega
    · omega
theorem judF_ok {self time wait : Nat} {hd : Nat → Option Nat} {m : MemberD} (h : okMem m = true) : okMem (judF self time wait hd m) = true := by
  unfold judF
  split
  · exact h
  · rw [ok_iff] at *
    have := nextF_in (a := silentF time hd m.id) (b := wait) h.2
    simp only
    omega
theorem wf_ok {m : MemberD} (h : okMem m = true) (h1 : m.id < 18446744073709551616) (h2 : m.inc < 18446744073709551616) : m.Wf := by
  rw [ok_iff] at h
  exact ⟨h1, h2, by omega, by omega⟩
theorem objF_inc {self : Nat} {left : Bool} {m : MemberD} (h : m.inc < 18446744073709551616) : (objF self left m).inc < 18446744073709551616 := by
  unfold objF
  split
  · rename_i h2
    unfold objects at h2
    simp only [Bool.and_eq_true, decide_eq_true_eq] at h2
    simp only
    omega
  · exact h
theorem goneF_inc {self : Nat} {m : MemberD} : (goneF self m).inc = m.inc := by unfold goneF; split <;> rfl
theorem judF_inc {self time wait : Nat} {h : Nat → Option Nat} {m : MemberD} : (judF self time wait h m).inc = m.inc := by unfold judF; split <;> rfl
theorem mg_isMerge {a b : List MemberD} (ha : rightV a = true) (hb : rightV b = true) : IsMerge a b (mgF a b) := put_all (right_rising ha) (right_rising hb)
theorem mg_right {a b : List MemberD} (ha : rightV a = true) (hb : rightV b = true) (hl : ¬ 16 < (mgF a b).length) : rightV (mgF a b) = true := right_merged ha hb (mg_isMerge ha hb) (by omega)
theorem hearK_zero {d : NodeD} {l : List MemberD} (h : hearK d l = 0) : rightV l = true ∧ ¬ 16 < (mgF d.ms l).length := by
  unfold hearK at h
  split at h
  · split at h
    · omega
    · exact ⟨by assumption, by assumption⟩
  · omega
theorem hearK_cases (d : NodeD) (l : List MemberD) : hearK d l = 0 ∨ hearK d l = 4 ∨ hearK d l = 6 := by
  unfold hearK
  split
  · split
    · exact .inr (.inl rfl)
    · exact .inl rfl
  · exact .inr (.inr rfl)
/-- What Merge answers, for a view that is one. -/
theorem mergeIs_mg {d : NodeD} {l r : List MemberD} {k : Int} (hd : rightV d.ms = true) (h : MergeIs d.ms l r k) : k = hearK d l ∧ (k = 0 → r = mgF d.ms l) := by
  have h2 : MergeIs d.ms l (if hearK d l = 0 then mgF d.ms l else []) (hearK d l) := by
    unfold hearK
    by_cases hl : rightV l = true
    · rw [if_pos hl]
      have hm := mg_isMerge hd hl
      by_cases h16 : 16 < (mgF d.ms l).length
      · rw [if_pos h16]
        exact .inr ⟨hd, hl, _, hm, .inl ⟨h16, rfl, rfl⟩⟩
      · rw [if_neg h16]
        exact .inr ⟨hd, hl, _, hm, .inr ⟨by omega, rfl, rfl⟩⟩
    · rw [if_neg hl]
      exact .inl ⟨.inr (by simpa using hl), rfl, rfl⟩
  obtain ⟨e1, e2⟩ := mergeIs_one h h2
  exact ⟨e2, fun e => by rw [e1, if_pos (by omega)]⟩
theorem mg_ids {a b : List MemberD} (ha : rightV a = true) (hb : rightV b = true) {m : MemberD} (hm : m ∈ a) : ∃ m' ∈ mgF a b, m'.id = m.id := by
  obtain ⟨m', h1, _, _⟩ := merge_below (right_rising ha) (mg_isMerge ha hb) hm
  exact ⟨m', (getF_some h1).1, (getF_some h1).2⟩
theorem has_map {l : List MemberD} {f : MemberD → MemberD} (hf : ∀ m, (f m).id = m.id) {id : Nat} (h : ∃ m ∈ l, m.id = id) : ∃ m ∈ l.map f, m.id = id := by
  obtain ⟨m, hm, e⟩ := h
  exact ⟨f m, List.mem_map.2 ⟨m, hm, rfl⟩, (hf m).trans e⟩
theorem pass_ok {d : NodeD} (h : NOk d) {now : Nat} (hn : now < 18446744073709551616) : NOk (passD d now) := by
  have := h.timeB
  exact ⟨h.self0, h.selfB, h.per1, h.perB, h.wait1, h.waitB, by unfold passD; simp only; omega, h.dueB, h.right, h.wf, h.has, h.dom, fun id t e => by have := h.heardB id t e; unfold passD; simp only; omega⟩
theorem mg_wf {a b : List MemberD} (ha : rightV a = true) (hb : rightV b = true) (wa : ∀ m ∈ a, m.Wf) (wb : ∀ m ∈ b, m.Wf) : ∀ m ∈ mgF a b, m.Wf := fun m hm =>
  (merge_mem (mg_isMerge ha hb) hm).elim (wa m) (wb m)
theorem map_wf {l : List MemberD} {f : MemberD → MemberD} (hf : ∀ m, (f m).id = m.id) (ho : ∀ m, okMem m = true → okMem (f m) = true) (hi : ∀ m, m.inc < 18446744073709551616 → (f m).inc < 18446744073709551616) (hr : rightV l = true) (hw : ∀ m ∈ l, m.Wf) : ∀ m ∈ l.map f, m.Wf := by
  intro m hm
  obtain ⟨x, hx, rfl⟩ := List.mem_map.1 hm
  exact wf_ok (ho x (right_ok hr x hx)) (by rw [hf]; exact (hw x hx).id) (hi x (hw x hx).inc)
theorem heard_ok {d : NodeD} (h : NOk d) {frm now : Nat} {l : List MemberD} (hn : now < 18446744073709551616) (hl : ∀ m ∈ l, m.Wf) (h1 : rightV l = true) (h2 : ¬ 16 < (mgF d.ms l).length) : NOk (heardD d frm l now) := by
  have ht := h.timeB
  have hr := mg_right h.right h1 h2
  refine ⟨h.self0, h.selfB, h.per1, h.perB, h.wait1, h.waitB, by unfold heardD; simp only; omega, h.dueB, right_map (objF_id _ _) (fun _ => objF_ok) hr, ?_, ?_, ?_, ?_⟩
  · exact map_wf (objF_id _ _) (fun _ => objF_ok) (fun _ => objF_inc) hr (mg_wf h.right h1 h.wf hl)
  · obtain ⟨m, hm, e⟩ := h.has
    obtain ⟨m', hm', e'⟩ := mg_ids h.right h1 hm
    exact has_map (objF_id _ _) ⟨m', hm', by rw [e', e]; rfl⟩
  · intro id hid
    change (noteF d.self frm (max d.time now) (mgF d.ms l) d.heard id).isSome = true at hid
    unfold noteF at hid
    split at hid
    · rename_i h3
      exact ⟨h3.1, has_map (objF_id _ _) h3.2.1⟩
    · obtain ⟨h4, m, hm, e⟩ := h.dom id hid
      obtain ⟨m', hm', e'⟩ := mg_ids h.right h1 hm
      exact ⟨h4, has_map (objF_id _ _) ⟨m', hm', by rw [e', e]⟩⟩
  · intro id t e
    change noteF d.self frm (max d.time now) (mgF d.ms l) d.heard id = some t at e
    show t ≤ max d.time now
    unfold noteF at e
    split at e
    · cases e; exact Nat.le_refl _
    · have := h.heardB id t e; omega
theorem hear_ok {d : NodeD} (h : NOk d) {frm now : Nat} {l : List MemberD} (hn : now < 18446744073709551616) (hl : ∀ m ∈ l, m.Wf) : NOk (hearD d frm l now) := by
  unfold hearD
  split
  · rename_i h1
    obtain ⟨h2, h3⟩ := hearK_zero h1
    exact heard_ok h hn hl h2 h3
  · exact pass_ok h hn
theorem leave_ok {d : NodeD} (h : NOk d) : NOk (leaveD d) :=
  ⟨h.self0, h.selfB, h.per1, h.perB, h.wait1, h.waitB, h.timeB, h.dueB, right_map (goneF_id _) (fun _ => goneF_ok) h.right,
    map_wf (goneF_id _) (fun _ => goneF_ok) (fun m hm => by rw [goneF_inc]; exact hm) h.right h.wf, has_map (goneF_id _) h.has,
    fun id hid => ⟨(h.dom id hid).1, has_map (goneF_id _) (h.dom id hid).2⟩, h.heardB⟩
theorem ticked_ok {d : NodeD} (h : NOk d) {now : Nat} (hn : now < 18446744073709551616) : NOk (tickedD d now) := by
  have ht := h.timeB
  refine ⟨h.self0, h.selfB, h.per1, h.perB, h.wait1, h.waitB, by unfold tickedD; simp only; omega, by unfold tickedD; simp only; omega, right_map (judF_id _ _ _ _) (fun _ => judF_ok) h.right,
    map_wf (judF_id _ _ _ _) (fun _ => judF_ok) (fun m hm => by rw [judF_inc]; exact hm) h.right h.wf, has_map (judF_id _ _ _ _) h.has,
    fun id hid => ⟨(h.dom id hid).1, has_map (judF_id _ _ _ _) (h.dom id hid).2⟩, fun id t e => ?_⟩
  have := h.heardB id t e
  unfold tickedD
  simp only
  omega
theorem tick_ok {d : NodeD} (h : NOk d) {now : Nat} (hn : now < 18446744073709551616) : NOk (tickD d now) := by
  unfold tickD
  split
  · exact pass_ok h hn
  · exact ticked_ok h hn
/-! Noting, one member behind the other. -/
def noteStep (self frm time : Nat) (h : Nat → Option Nat) (m : MemberD) : Nat → Option Nat :=
  if m.id ≠ self ∧ (m.id = frm ∨ h m.id = none) then (fun x => if x = m.id then some time else h x) else h
theorem noteStep_other {self frm time : Nat} {h : Nat → Option Nat} {m : MemberD} {id : Nat} (hne : m.id ≠ id) : noteStep self frm time h m id = h id := by
  unfold noteStep
  split
  · exact if_neg (fun e => hne e.symm)
  · rfl
theorem noteStep_same {self frm time : Nat} {h : Nat → Option Nat} {m : MemberD} : noteStep self frm time h m m.id = if m.id ≠ self ∧ (m.id = frm ∨ h m.id = none) then some time else h m.id := by
  unfold noteStep
  split
  · exact if_pos rfl
  · rfl
theorem fold_other {self frm time : Nat} : ∀ (l : List MemberD) (h : Nat → Option Nat) (id : Nat), (∀ m ∈ l, m.id ≠ id) → l.foldl (noteStep self frm time) h id = h id
  | [], h, id, _ => rfl
  | x :: t, h, id, hn => by
    rw [List.foldl_cons, fold_other t _ id (fun m hm => hn m (by simp [hm])), noteStep_other (hn x (by simp))]
theorem fold_note {self frm time : Nat} : ∀ (l : List MemberD), Rising l → ∀ (h : Nat → Option Nat), l.foldl (noteStep self frm time) h = noteF self frm time l h
  | [], _, h => by
    funext id
    unfold noteF
    rw [if_neg (by rintro ⟨_, ⟨m, hm, _⟩, _⟩; simp at hm)]
    rfl
  | x :: t, hr, h => by
    obtain ⟨r1, r2⟩ := rising_cons.1 hr
    rw [List.foldl_cons, fold_note t r2]
    funext id
    by_cases e : x.id = id
    · subst e
      have hno : ¬ ∃ m ∈ t, m.id = x.id := by
        rintro ⟨m, hm, e2⟩
        have := r1 m hm
        omega
      have hyes : ∃ m ∈ x :: t, m.id = x.id := ⟨x, by simp, rfl⟩
      unfold noteF
      rw [if_neg (fun h3 => hno h3.2.1), noteStep_same]
      by_cases h4 : x.id ≠ self ∧ (x.id = frm ∨ h x.id = none)
      · rw [if_pos h4, if_pos ⟨h4.1, hyes, h4.2⟩]
      · rw [if_neg h4, if_neg (fun h5 => h4 ⟨h5.1, h5.2.2⟩)]
    · have hiff : (∃ m ∈ x :: t, m.id = id) ↔ ∃ m ∈ t, m.id = id := by
        constructor
        · rintro ⟨m, hm, e2⟩
          rcases List.mem_cons.1 hm with rfl | hm
          · exact absurd e2 e
          · exact ⟨m, hm, e2⟩
        · rintro ⟨m, hm, e2⟩
          exact ⟨m, by simp [hm], e2⟩
      unfold noteF
      rw [noteStep_other e]
      simp only [hiff]
/-- The steps that make up a call. -/
def withMs (d : NodeD) (l : List MemberD) : NodeD := { d with ms := l }
def notedD (d : NodeD) (frm : Nat) : NodeD := { d with heard := noteF d.self frm d.time d.ms d.heard }
def objD (d : NodeD) : NodeD := { d with ms := d.ms.map (objF d.self d.left) }
def judD (d : NodeD) : NodeD := { d with ms := d.ms.map (judF d.self d.time d.wait d.heard) }
def dueD (d : NodeD) : NodeD := { d with due := d.time + min d.period (18446744073709551615 - d.time) }
theorem heardD_steps (d : NodeD) (frm : Nat) (l : List MemberD) (now : Nat) : heardD d frm l now = objD (notedD (withMs (passD d now) (mgF d.ms l)) frm) := rfl
theorem tickedD_steps (d : NodeD) (now : Nat) : tickedD d now = judD (dueD (passD d now)) := rfl
theorem withMs_ok {d : NodeD} (h : NOk d) {l : List MemberD} (hl : ∀ m ∈ l, m.Wf) (h1 : rightV l = true) (h2 : ¬ 16 < (mgF d.ms l).length) : NOk (withMs d (mgF d.ms l)) := by
  refine ⟨h.self0, h.selfB, h.per1, h.perB, h.wait1, h.waitB, h.timeB, h.dueB, mg_right h.right h1 h2, mg_wf h.right h1 h.wf hl, ?_, fun id hid => ?_, h.heardB⟩
  · obtain ⟨m, hm, e⟩ := h.has
    obtain ⟨m', hm', e'⟩ := mg_ids h.right h1 hm
    exact ⟨m', hm', e'.trans e⟩
  · obtain ⟨h4, m, hm, e⟩ := h.dom id hid
    obtain ⟨m', hm', e'⟩ := mg_ids h.right h1 hm
    exact ⟨h4, m', hm', e'.trans e⟩
theorem noted_ok {d : NodeD} (h : NOk d) (frm : Nat) : NOk (notedD d frm) := by
  refine ⟨h.self0, h.selfB, h.per1, h.perB, h.wait1, h.waitB, h.timeB, h.dueB, h.right, h.wf, h.has, fun id hid => ?_, fun id t e => ?_⟩
  · change (noteF d.self frm d.time d.ms d.heard id).isSome = true at hid
    unfold noteF at hid
    split at hid
    · rename_i h3
      exact ⟨h3.1, h3.2.1⟩
    · exact h.dom id hid
  · change noteF d.self frm d.time d.ms d.heard id = some t at e
    show t ≤ d.time
    unfold noteF at e
    split at e
    · cases e; exact Nat.le_refl _
    · exact h.heardB id t e
theorem obj_ok {d : NodeD} (h : NOk d) : NOk (objD d) :=
  ⟨h.self0, h.selfB, h.per1, h.perB, h.wait1, h.waitB, h.timeB, h.dueB, right_map (objF_id _ _) (fun _ => objF_ok) h.right,
    map_wf (objF_id _ _) (fun _ => objF_ok) (fun _ => objF_inc) h.right h.wf, has_map (objF_id _ _) h.has,
    fun id hid => ⟨(h.dom id hid).1, has_map (objF_id _ _) (h.dom id hid).2⟩, h.heardB⟩
theorem jud_ok {d : NodeD} (h : NOk d) : NOk (judD d) :=
  ⟨h.self0, h.selfB, h.per1, h.perB, h.wait1, h.waitB, h.timeB, h.dueB, right_map (judF_id _ _ _ _) (fun _ => judF_ok) h.right,
    map_wf (judF_id _ _ _ _) (fun _ => judF_ok) (fun m hm => by rw [judF_inc]; exact hm) h.right h.wf, has_map (judF_id _ _ _ _) h.has,
    fun id hid => ⟨(h.dom id hid).1, has_map (judF_id _ _ _ _) (h.dom id hid).2⟩, h.heardB⟩
theorem due_ok {d : NodeD} (h : NOk d) : NOk (dueD d) := by
  have := h.timeB
  exact ⟨h.self0, h.selfB, h.per1, h.perB, h.wait1, h.waitB, h.timeB, by unfold dueD; simp only; omega, h.right, h.wf, h.has, h.dom, h.heardB⟩
/-- A new node. -/
def newD (self inc period wait now : Nat) : NodeD := ⟨self, period, wait, now, now, false, [⟨self, inc, 0⟩], fun _ => none⟩
def newOk (self inc period wait : Nat) : Bool := decide (self ≠ 0) && (decide (inc ≠ 0) && ((decide (1 ≤ period) && decide (period ≤ 1099511627776)) && (decide (1 ≤ wait) && decide (wait ≤ 1099511627776))))
theorem new_ok {self inc period wait now : Nat} (h : newOk self inc period wait = true) (h1 : self < 18446744073709551616) (h2 : inc < 18446744073709551616) (h3 : now < 18446744073709551616) : NOk (newD self inc period wait now) := by
  unfold newOk at h
  simp only [Bool.and_eq_true, decide_eq_true_eq] at h
  have hr : rightV [(⟨self, inc, 0⟩ : MemberD)] = true := by
    unfold rightV membersF
    simp [okMem, risesF, risesFrom]
    omega
  refine ⟨h.1, h1, h.2.2.1.1, h.2.2.1.2, h.2.2.2.1, h.2.2.2.2, h3, h3, hr, fun m hm => ?_, ⟨_, List.mem_singleton.2 rfl, rfl⟩, fun id hid => (by cases hid), fun id t e => (by cases e)⟩
  have hm : m ∈ [(⟨self, inc, 0⟩ : MemberD)] := hm
  rw [List.mem_singleton] at hm
  subst hm
  exact ⟨h1, h2, by simp only; omega, by simp only; omega⟩
end Gs
end Go.Proofs.Ytcmoelphjdehaaa

/-
  A node as it lies in memory: its own block, its row of members, its map of who was heard when.
-/
namespace Go.Proofs.Ytcmoelphjdehaaa
set_option linter.unusedSimpArgs false
set_option linter.unusedVariables false
open Go.RowKit Ru Vw
namespace Gs
set_option linter.unusedSimpArgs false
set_option linter.unusedVariables false
/-- w' is w but for blocks of Q, and new ones. -/
structure Tn (Q : Nat → Prop) (w w' : World) : Prop where
  os : w'.os = w.os
  tape : w'.tape = w.tape
  output : w'.output = w.output
  size : w.heap.size ≤ w'.heap.size
  block : ∀ i, i < w.heap.size → ¬ Q i → w'.heap[i]? = w.heap[i]?
theorem Tn.refl (Q : Nat → Prop) (w : World) : Tn Q w w := ⟨rfl, rfl, rfl, Nat.le_refl _, fun _ _ _ => rfl⟩
theorem Tn.trans {Q Q' : Nat → Prop} {a b c : World} (h : Tn Q a b) (k : Tn Q' b c) (hq : ∀ q, Q' q → Q q ∨ a.heap.size ≤ q) : Tn Q a c :=
  ⟨k.os.trans h.os, k.tape.trans h.tape, k.output.trans h.output, Nat.le_trans h.size k.size, fun i hi hne => (k.block i (Nat.lt_of_lt_of_le hi h.size) (fun e => by
    rcases hq i e with h1 | h1
    · exact hne h1
    · omega)).trans (h.block i hi hne)⟩
theorem Tn.grown {Q : Nat → Prop} {a b c : World} {row : Option Nat} (h : Tn Q a b) (k : b.grownBy c row) (hr : ∀ j, row = some j → Q j ∨ a.heap.size ≤ j) : Tn Q a c :=
  h.trans (Q' := fun q => row = some q) ⟨k.os, k.tape, k.output, k.size, fun i hi hne => k.block i hi (fun e => hne e.symm)⟩ hr
theorem Tn.of_below {Q : Nat → Prop} {w w' : World} (h : Below w.heap.size w w') : Tn Q w w' := ⟨h.os, h.tape, h.output, h.size, fun i hi _ => h.block i hi⟩
theorem Tn.then_below {Q : Nat → Prop} {a b c : World} (h : Tn Q a b) (k : Below b.heap.size b c) : Tn Q a c := h.trans (Q' := fun _ => False) (Tn.of_below k) (fun _ e => e.elim)
theorem Tn.alloc {Q : Nat → Prop} {a b : World} (h : Tn Q a b) (o : Obj) : Tn Q a (b.alloc o) := h.then_below ((Below.refl _ _).alloc (Nat.le_refl _) o)
theorem Tn.drew {Q : Nat → Prop} {a b : World} (h : Tn Q a b) : Tn Q a b.drew := ⟨h.os, h.tape, h.output, h.size, h.block⟩
theorem Tn.drewN {Q : Nat → Prop} {a b : World} (h : Tn Q a b) (n : Nat) : Tn Q a (b.drewN n) := ⟨h.os, h.tape, h.output, h.size, h.block⟩
theorem Tn.set {Q : Nat → Prop} {a b : World} (h : Tn Q a b) {g : Nat} (hg : Q g ∨ a.heap.size ≤ g) (i : Nat) (v : Value) : Tn Q a (b.setCell ⟨g, i, none⟩ v) :=
  ⟨h.os, h.tape, h.output, by simpa using h.size, fun j hj hne => (Below.heap_setCell b _ v j (by
    rintro rfl
    rcases hg with h1 | h1
    · exact hne h1
    · exact absurd hj (Nat.not_lt.2 h1))).trans (h.block j hj hne)⟩
theorem Tn.below {Q : Nat → Prop} {B : Nat} {a b c : World} (h : Below B a b) (k : Tn Q b c) (hq : ∀ q, Q q → B ≤ q) (hB : B ≤ b.heap.size) : Below B a c :=
  ⟨k.os.trans h.os, k.tape.trans h.tape, k.output.trans h.output, Nat.le_trans h.size k.size, fun i hi => (k.block i (by omega) (fun e => by have := hq i e; omega)).trans (h.block i hi)⟩
theorem Tn.sub {Q Q' : Nat → Prop} {a b : World} (h : Tn Q a b) (hq : ∀ q, Q q → Q' q) : Tn Q' a b := ⟨h.os, h.tape, h.output, h.size, fun i hi hne => h.block i hi (fun e => hne (hq i e))⟩
theorem Whole.tn {Q : Nat → Prop} {w w' : World} {g : Nat} {t : TypeId} {cs : Array Value} (h : Whole w g t cs) (k : Tn Q w w') (hg : ¬ Q g) : Whole w' g t cs := (k.block g h.lt hg).trans h

/-- A cell of a row of the call's own is written. -/
theorem own_store {α : Type} {E : Enc α} {e : TypeId} {B : Nat} {w : World} {a n c : Nat} {ss : List α} (h : E.Own e B w (some ⟨a, 0, none⟩) n c ss) {k j : Nat} (hk : k < ss.length) (hj : j < E.K) (x : α) (v : Value) (hx : E.cf x = (E.cf ss[k]).set j v) :
    E.Own e B (w.setCell ⟨a, k * E.K + j, none⟩ v) (some ⟨a, 0, none⟩) n c (ss.set k x) := by
  have hlen := h.len
  obtain ⟨hl, h1 | ⟨g, cap, cur, e', hg, hh, hnc, hcm, hs, hc⟩⟩ := h
  · cases h1.1
  · injection e' with e1 e2 e3
    injection e1 with e1
    injection e1 with e1 _ _
    subst e1 e3
    have hset : E.all (ss.set k x) = (E.all ss).set (k * E.K + j) v := by
      refine List.ext_getElem? fun i => ?_
      have hpos := E.pos
      rw [List.getElem?_set]
      have hkj : k * E.K + j < (E.all ss).length := by
        rw [E.all_length]
        have : (k + 1) * E.K ≤ ss.length * E.K := Nat.mul_le_mul_right _ hk
        rw [Nat.add_mul] at this
        omega
      by_cases hi : i < ss.length * E.K
      · have hq : i / E.K < ss.length := (Nat.div_lt_iff_lt_mul hpos).2 hi
        have hr := Nat.mod_lt i hpos
        have ei : i = (i / E.K) * E.K + i % E.K := by rw [Nat.mul_comm]; exact (Nat.div_add_mod i E.K).symm
        generalize i / E.K = q at *
        generalize i % E.K = r at *
        subst ei
        rw [E.all_get (ss.set k x) (by rw [List.length_set]; exact hq) r hr, E.all_get ss hq r hr, List.getElem_set]
        by_cases hkq : k = q
        · subst hkq
          rw [if_pos rfl, hx, List.getElem?_set]
          by_cases hjr : j = r
          · subst hjr
            rw [if_pos rfl, if_pos rfl, if_pos hkj, if_pos (by rw [E.len]; exact hj)]
          · rw [if_neg hjr, if_neg (by omega)]
        · rw [if_neg hkq, if_neg]
          intro e
          rcases Nat.lt_or_ge k q with h3 | h3
          · have h4 : (k + 1) * E.K ≤ q * E.K := Nat.mul_le_mul_right _ h3
            rw [Nat.add_mul] at h4
            omega
          · have h4 : (q + 1) * E.K ≤ k * E.K := Nat.mul_le_mul_right _ (by omega)
            rw [Nat.add_mul] at h4
            omega
      · have e1 : (E.all (ss.set k x))[i]? = none := List.getElem?_eq_none (by rw [E.all_length, List.length_set]; omega)
        have e2 : (E.all ss)[i]? = none := List.getElem?_eq_none (by rw [E.all_length]; omega)
        rw [e1, e2, if_neg (by rw [E.all_length] at hkj; omega)]
    refine ⟨by rw [E.all_length, List.length_set, hlen], .inr ⟨a, c, cur.setIfInBounds (k * E.K + j) v, rfl, hg, ?_, hnc, hcm, by rw [Array.size_setIfInBounds]; exact hs, ?_⟩⟩
    · exact Whole.store hh _ _
    · rw [Array.toList_setIfInBounds, hset, ← hc, List.take_set]
theorem own_stands {α : Type} {E : Enc α} {e : TypeId} {B : Nat} {w w' : World} {a n c : Nat} {ss : List α} (h : E.Own e B w (some ⟨a, 0, none⟩) n c ss) (hk : w'.heap[a]? = w.heap[a]?) : E.Own e B w' (some ⟨a, 0, none⟩) n c ss := by
  obtain ⟨hl, h1 | ⟨g, cap, cur, e', hg, hh, r⟩⟩ := h
  · cases h1.1
  · refine ⟨hl, .inr ⟨g, cap, cur, e', hg, ?_, r⟩⟩
    injection e' with e1
    injection e1 with e1
    injection e1 with e1
    subst e1
    exact hk.trans hh
/-- The map in block b: who was heard when. -/
structure HMap (W : World) (b : Nat) (h : Nat → Option Nat) (D : DataW Value) : Prop where
  own : ∃ n, W.ownsMap Try.prog 60 elemR b n D
  has : ∀ id : Nat, Maps.has D (ku id) = (h id).isSome
  at_ : ∀ (id t : Nat), h id = some t → ∀ z, D.atKey (ku id) z = .held (.int .u64 (t : Nat))
theorem hmap_new (w : World) : HMap (w.alloc (.map #[] 0)) w.heap.size (fun _ => none) (.map []) :=
  ⟨⟨0, World.ownsMap_made _ _ _ _⟩, fun id => by simp [Maps.has], fun id t h => by cases h⟩
theorem HMap.stands {W W' : World} {b : Nat} {h : Nat → Option Nat} {D : DataW Value} (k : HMap W b h D) (hk : W'.heap[b]? = W.heap[b]?) : HMap W' b h D := by
  obtain ⟨n, es, clock, hb, r⟩ := k.own
  exact ⟨⟨n, es, clock, hk.trans hb, r⟩, k.has, k.at_⟩
theorem HMap.lt {W : World} {b : Nat} {h : Nat → Option Nat} {D : DataW Value} (k : HMap W b h D) : b < W.heap.size := by
  obtain ⟨n, ho⟩ := k.own
  exact ho.lt
theorem zeroU (w : World) : (zeroValue 60).run Try.prog w = .ok (.int .u64 0) w := by kernel_rfl
theorem HMap.look {W : World} {b : Nat} {h : Nat → Option Nat} {D : DataW Value} (k : HMap W b h D) {id : Nat} (hid : id < 18446744073709551616) :
    (Instr.lookup 132 (.map (some b)) (.int .u64 (id : Nat)) false).run Try.prog W = .ok (.int .u64 ((h id).getD 0 : Nat)) W := by
  obtain ⟨n, ho⟩ := k.own
  obtain ⟨v, ps, hrun, hv⟩ := ho.lookup (t := 132) keyLawU Try.underlying132 (zeroU W) (zd := .held (.int .u64 0)) (zp := []) rfl (ku_key hid)
  rcases hh : h id with _ | t
  · have hf : Maps.has D (ku id) = false := by rw [k.has, hh]; rfl
    rw [Maps.atKey_of_not_has hf] at hv
    rw [hrun, elem_of hv]
    rfl
  · rw [k.at_ id t hh] at hv
    rw [hrun, elem_of hv]
    rfl
theorem HMap.look_ok {W : World} {b : Nat} {h : Nat → Option Nat} {D : DataW Value} (k : HMap W b h D) {id : Nat} (hid : id < 18446744073709551616) :
    (Instr.lookup 132 (.map (some b)) (.int .u64 (id : Nat)) true).run Try.prog W = .ok (.tuple #[.int .u64 ((h id).getD 0 : Nat), .bool (h id).isSome]) W := by
  obtain ⟨n, ho⟩ := k.own
  obtain ⟨v, ps, hrun, hv⟩ := ho.look_ok (t := 132) keyLawU Try.underlying132 (zeroU W) (zd := .held (.int .u64 0)) (zp := []) rfl (ku_key hid)
  rcases hh : h id with _ | t
  · have hf : Maps.has D (ku id) = false := by rw [k.has, hh]; rfl
    rw [Maps.atKey_of_not_has hf] at hv
    rw [hrun, elem_of hv, hf]
    rfl
  · rw [k.at_ id t hh] at hv
    rw [hrun, elem_of hv, k.has, hh]
    rfl
theorem ownU_size {w : World} {b n : Nat} {D : DataW Value} (h : w.ownsMap Try.prog 60 elemR b n D) : w.ownsMap Try.prog 60 elemR b (Maps.size D) D := by
  obtain ⟨es, clock, hb, F, hs, rfl⟩ := h
  exact ⟨es, clock, hb, F, by simp [Maps.size, length_sorted], rfl⟩
/-- The map is no greater than the view. -/
theorem HMap.small {W : World} {b : Nat} {h : Nat → Option Nat} {D : DataW Value} (k : HMap W b h D) {ms : List MemberD} (hr : Rising ms) (hd : ∀ id, (h id).isSome = true → ∃ m ∈ ms, m.id = id) : W.ownsMap Try.prog 60 elemR b ms.length D := by
  obtain ⟨n, ho⟩ := k.own
  have hA : AllKeys D ((ms.map MemberD.id).filter (fun id => (h id).isSome)) := by
    refine ⟨List.Pairwise.filter _ (hr.imp fun h => Nat.ne_of_lt h), fun x => ?_⟩
    rw [k.has, List.mem_filter, List.mem_map]
    constructor
    · exact fun h => h.2
    · intro hx
      obtain ⟨m, hm, e⟩ := hd x hx
      exact ⟨⟨m, hm, e⟩, hx⟩
  have hl := allKeys_len ho hA
  refine (ownU_size ho).mono ?_
  rw [← hl]
  refine Nat.le_trans (List.length_filter_le _ _) ?_
  rw [List.length_map]
  exact Nat.le_refl _
theorem HMap.put {W W2 : World} {b n : Nat} {h : Nat → Option Nat} {D : DataW Value} (k : HMap W b h D) (id t : Nat) (ho : W2.ownsMap Try.prog 60 elemR b n (D.put (ku id) (.held (.int .u64 (t : Nat))))) :
    HMap W2 b (fun x => if x = id then some t else h x) (D.put (ku id) (.held (.int .u64 (t : Nat)))) := by
  obtain ⟨n0, ho0⟩ := k.own
  have hkl : Go.WideAt.IsKeyLit (ku id) := by trivial
  refine ⟨⟨n, ho⟩, fun x => ?_, fun x u hx z => ?_⟩
  · by_cases e : x = id
    · subst e
      rw [Maps.has_put_same ho0.isMap hkl, if_pos rfl]
      rfl
    · rw [Maps.has_put_other (ku_ne e), k.has, if_neg e]
  · by_cases e : x = id
    · subst e
      rw [if_pos rfl] at hx
      cases hx
      exact Maps.atKey_put_same ho0.isMap hkl _ _
    · rw [if_neg e] at hx
      rw [Maps.atKey_put_other (ku_ne e)]
      exact k.at_ x u hx z
/-- The node's own cells. -/
def cellsN (a n c b : Nat) (d : NodeD) : Array Value := #[.int .u64 (d.self : Nat), .int .u64 (d.period : Nat), .int .u64 (d.wait : Nat), .int .u64 (d.time : Nat), .int .u64 (d.due : Nat), .bool d.left, .slice (some ⟨a, 0, none⟩) n c, .map (some b)]
structure NdIn (w : World) (g a n c b : Nat) (d : NodeD) (D : DataW Value) : Prop where
  cells : Whole w g 134 (cellsN a n c b d)
  row : OwnM 0 w (some ⟨a, 0, none⟩) n c d.ms
  map : HMap w b d.heard D
  ag : a ≠ g
  bg : b ≠ g
  ab : a ≠ b
theorem NdIn.stands {w w' : World} {g a n c b : Nat} {d : NodeD} {D : DataW Value} (h : NdIn w g a n c b d D) (hg : w'.heap[g]? = w.heap[g]?) (ha : w'.heap[a]? = w.heap[a]?) (hb : w'.heap[b]? = w.heap[b]?) : NdIn w' g a n c b d D :=
  ⟨hg.trans h.cells, own_stands h.row ha, h.map.stands hb, h.ag, h.bg, h.ab⟩
theorem NdIn.alt {w : World} {g a n c b : Nat} {d : NodeD} {D : DataW Value} (h : NdIn w g a n c b d D) : a < w.heap.size := (h.row.from_ a rfl).2
theorem NdIn.below {w w' : World} {g a n c b : Nat} {d : NodeD} {D : DataW Value} (h : NdIn w g a n c b d D) (k : Below w.heap.size w w') : NdIn w' g a n c b d D :=
  h.stands (k.block g h.cells.lt) (k.block a h.alt) (k.block b h.map.lt)
/-- Block g is this node; Q: the blocks that are its own. -/
structure Nd (w : World) (g : Nat) (Q : Nat → Prop) (d : NodeD) : Prop where
  ok : NOk d
  qg : Q g
  qlt : ∀ q, Q q → q < w.heap.size
  mem : ∃ a n c b D, Q a ∧ Q b ∧ NdIn w g a n c b d D
theorem Nd.stands {w w' : World} {g : Nat} {Q : Nat → Prop} {d : NodeD} (h : Nd w g Q d) (hs : w.heap.size ≤ w'.heap.size) (hk : ∀ q, Q q → w'.heap[q]? = w.heap[q]?) : Nd w' g Q d := by
  obtain ⟨a, n, c, b, D, qa, qb, hin⟩ := h.mem
  exact ⟨h.ok, h.qg, fun q hq => Nat.lt_of_lt_of_le (h.qlt q hq) hs, a, n, c, b, D, qa, qb, hin.stands (hk g h.qg) (hk a qa) (hk b qb)⟩
theorem Nd.tn {w w' : World} {g : Nat} {Q Q' : Nat → Prop} {d : NodeD} (h : Nd w g Q d) (k : Tn Q' w w') (hq : ∀ q, Q q → ¬ Q' q) : Nd w' g Q d := h.stands k.size (fun q hq2 => k.block q (h.qlt q hq2) (hq q hq2))
theorem Nd.below {w w' : World} {g : Nat} {Q : Nat → Prop} {d : NodeD} (h : Nd w g Q d) (k : Below w.heap.size w w') : Nd w' g Q d := h.stands k.size (fun q hq => k.block q (h.qlt q hq))
theorem Nd.alloc {w : World} {g : Nat} {Q : Nat → Prop} {d : NodeD} (h : Nd w g Q d) (o : Obj) : Nd (w.alloc o) g Q d := h.below ((Below.refl _ _).alloc (Nat.le_refl _) o)
theorem Nd.drewN {w : World} {g : Nat} {Q : Nat → Prop} {d : NodeD} (h : Nd w g Q d) (n : Nat) : Nd (w.drewN n) g Q d := h.stands (Nat.le_refl _) (fun _ _ => rfl)
/-- What a call on a node leaves: its answer, the node behind it; nothing else has turned. -/
def NdPost (w : World) (g : Nat) (Q : Nat → Prop) (R : World → Value → Prop) (d : NodeD) (e : Ending) (w' : World) : Prop :=
  ∃ v, e = .returned v ∧ R w' v ∧ ∃ Q', Nd w' g Q' d ∧ Tn Q w w' ∧ ∀ q, Q' q → Q q ∨ w.heap.size ≤ q
/-- A cell of the node's own is written. -/
theorem Nd.cell {w : World} {g : Nat} {Q : Nat → Prop} {d d' : NodeD} (h : Nd w g Q d) (hd : NOk d') (hF : d'.ms = d.ms) (hG : d'.heard = d.heard) (i : Nat) (v : Value) (hc : ∀ a n c b, (cellsN a n c b d).setIfInBounds i v = cellsN a n c b d') : Nd (w.setCell ⟨g, i, none⟩ v) g Q d' := by
  obtain ⟨a, n, c, b, D, qa, qb, hin⟩ := h.mem
  have hs : ∀ q, q ≠ g → (w.setCell ⟨g, i, none⟩ v).heap[q]? = w.heap[q]? := fun q hq => Below.heap_setCell w ⟨g, i, none⟩ v q hq
  refine ⟨hd, h.qg, fun q hq => by simpa using h.qlt q hq, a, n, c, b, D, qa, qb, hc a n c b ▸ hin.cells.store i v, ?_, ?_, hin.ag, hin.bg, hin.ab⟩
  · rw [hF]; exact own_stands hin.row (hs a hin.ag)
  · rw [hG]; exact hin.map.stands (hs b hin.bg)
theorem nd_facts {w : World} {g a n c b : Nat} {d : NodeD} (h : Whole w g 134 (cellsN a n c b d)) :
    w.cell? ⟨g, 0, none⟩ = some (.int .u64 (d.self : Nat)) ∧ w.cell? ⟨g, 1, none⟩ = some (.int .u64 (d.period : Nat)) ∧ w.cell? ⟨g, 2, none⟩ = some (.int .u64 (d.wait : Nat)) ∧ w.cell? ⟨g, 3, none⟩ = some (.int .u64 (d.time : Nat)) ∧ w.cell? ⟨g, 4, none⟩ = some (.int .u64 (d.due : Nat)) ∧ w.cell? ⟨g, 5, none⟩ = some (.bool d.left) ∧ w.cell? ⟨g, 6, none⟩ = some (.slice (some ⟨a, 0, none⟩) n c) ∧ w.cell? ⟨g, 7, none⟩ = some (.map (some b)) ∧ ∀ i, w.frozen? ⟨g, i, none⟩ = false :=
  ⟨h.cell 0 _ rfl, h.cell 1 _ rfl, h.cell 2 _ rfl, h.cell 3 _ rfl, h.cell 4 _ rfl, h.cell 5 _ rfl, h.cell 6 _ rfl, h.cell 7 _ rfl, fun i => h.free i⟩
end Gs
end Go.Proofs.Ytcmoelphjdehaaa

/-
  The small functions of a node: lasts, none, next, pass, own.
-/
namespace Go.Proofs.Ytcmoelphjdehaaa
set_option linter.unusedSimpArgs false
set_option linter.unusedVariables false
open Go.RowKit Ru Vw
namespace Gs
set_option linter.unusedSimpArgs false
set_option linter.unusedVariables false
set_option maxHeartbeats 1000000 in
theorem lasts_any (t : Nat) (w : World) : Calls Try.prog 80 #[.int .u64 (t : Nat)] w (RetV w (.bool (decide (1 ≤ t) && decide (t ≤ 1099511627776)))) := by
  by_cases h1 : 1 ≤ t
  · have e0 : decide (t ≥ 1) = true := decide_eq_true h1
    have e1 : decide (1 ≤ t) = true := decide_eq_true h1
    by_cases h2 : t ≤ 1099511627776
    · have e2 : decide (t ≤ 1099511627776) = true := decide_eq_true h2
      have e3 : decide ((t : Int) ≤ 1099511627776) = true := decide_eq_true (by omega)
      have e4 : decide ((1 : Int) ≤ (t : Int)) = true := decide_eq_true (by omega)
      clear h1 h2
      go_enter Try.func80, Try.ntmps80
      go_wp2_with fail
      go_ret
      exact retV_mk (by rw [e1, e2]; rfl)
    · have e2 : decide (t ≤ 1099511627776) = false := decide_eq_false h2
      have e3 : decide ((t : Int) ≤ 1099511627776) = false := decide_eq_false (by omega)
      have e4 : decide ((1 : Int) ≤ (t : Int)) = true := decide_eq_true (by omega)
      clear h1 h2
      go_enter Try.func80, Try.ntmps80
      go_wp2_with fail
      go_ret
      exact retV_mk (by rw [e1, e2]; rfl)
  · have e0 : decide (t ≥ 1) = false := decide_eq_false h1
    have e1 : decide (1 ≤ t) = false := decide_eq_false h1
    have e4 : decide ((1 : Int) ≤ (t : Int)) = false := decide_eq_false (by omega)
    clear h1
    go_enter Try.func80, Try.ntmps80
    go_wp2_with fail
    go_ret
    exact retV_mk (by rw [e1]; rfl)
theorem none_nil (w : World) : Calls Try.prog 81 #[.pointer none] w (RetV w (.bool true)) := by
  go_enter Try.func81, Try.ntmps81
  go_wp2_with fail
  go_ret
  exact retV_mk rfl
theorem none_any (g self : Nat) (w : World) (h0 : w.cell? ⟨g, 0, none⟩ = some (.int .u64 (self : Nat))) (hs : self ≠ 0) : Calls Try.prog 81 #[.pointer (some ⟨g, 0, none⟩)] w (RetV w (.bool false)) := by
  have e1 : (self == 0) = false := by rw [beq_eq_false_iff_ne]; exact hs
  have e2 : ((self : Int) == 0) = false := by rw [beq_eq_false_iff_ne]; omega
  clear hs
  go_enter Try.func81, Try.ntmps81
  go_wp2_with fail
  go_ret
  exact retV_mk rfl
set_option maxHeartbeats 2000000 in
theorem next_any (s : Int) (silent wait : Nat) (w : World) (hs : 0 ≤ s ∧ s ≤ 2) (hw : wait ≤ 1099511627776) :
    Calls Try.prog 113 #[.int .i64 s, .int .u64 (silent : Nat), .int .u64 (wait : Nat)] w (RetV w (.int .i64 (nextF s silent wait))) := by
  have hwr : IntKind.u64.wrap ((wait : Int) * 2) = ((2 * wait : Nat) : Int) := by rw [wrap_u64]; omega
  obtain rfl | rfl | rfl : s = 0 ∨ s = 1 ∨ s = 2 := by omega
  · by_cases h : wait ≤ silent
    · have e1 : decide (wait ≤ silent) = true := decide_eq_true h
      have e2 : decide ((wait : Int) ≤ (silent : Int)) = true := decide_eq_true (by omega)
      have e3 : decide (silent ≥ wait) = true := decide_eq_true h
      have HR := hid_ (show nextF 0 silent wait = 1 by unfold nextF; rw [if_neg (by decide), if_pos rfl, if_pos h])
      clear h hs
      go_enter Try.func113, Try.ntmps113
      go_wp2_with fail
      go_ret
      exact retV_mk (by rw [HR.out]; rfl)
    · have e1 : decide (wait ≤ silent) = false := decide_eq_false h
      have e2 : decide ((wait : Int) ≤ (silent : Int)) = false := decide_eq_false (by omega)
      have e3 : decide (silent ≥ wait) = false := decide_eq_false h
      have HR := hid_ (show nextF 0 silent wait = 0 by unfold nextF; rw [if_neg (by decide), if_pos rfl, if_neg h])
      clear h hs
      go_enter Try.func113, Try.ntmps113
      go_wp2_with fail
      go_ret
      exact retV_mk (by rw [HR.out]; rfl)
  · by_cases h : 2 * wait ≤ silent
    · have e1 : decide (2 * wait ≤ silent) = true := decide_eq_true h
      have e2 : decide (((2 * wait : Nat) : Int) ≤ (silent : Int)) = true := decide_eq_true (by omega)
      have HR := hid_ (show nextF 1 silent wait = 2 by unfold nextF; rw [if_pos rfl, if_pos h])
      clear h hs
      generalize 2 * wait = ww at *
      go_enter Try.func113, Try.ntmps113
      go_wp2_with fail
      go_ret
      exact retV_mk (by rw [HR.out]; rfl)
    · have e1 : decide (2 * wait ≤ silent) = false := decide_eq_false h
      have e2 : decide (((2 * wait : Nat) : Int) ≤ (silent : Int)) = false := decide_eq_false (by omega)
      have HR := hid_ (show nextF 1 silent wait = 1 by unfold nextF; rw [if_pos rfl, if_neg h])
      clear h hs
      generalize 2 * wait = ww at *
      go_enter Try.func113, Try.ntmps113
      go_wp2_with fail
      go_ret
      exact retV_mk (by rw [HR.out]; rfl)
  · have HR := hid_ (show nextF 2 silent wait = 2 by unfold nextF; rw [if_neg (by decide), if_neg (by decide)])
    clear hs
    go_enter Try.func113, Try.ntmps113
    go_wp2_with fail
    go_ret
    exact retV_mk (by rw [HR.out]; rfl)
end Gs
end Go.Proofs.Ytcmoelphjdehaaa

/-
  Where a node's own member stands.
-/
namespace Go.Proofs.Ytcmoelphjdehaaa
set_option linter.unusedSimpArgs false
set_option linter.unusedVariables false
open Go.RowKit Ru Vw
namespace Gs
set_option linter.unusedSimpArgs false
set_option linter.unusedVariables false
/-- The place of the first that p holds of. -/
def firstF {α : Type} (p : α → Bool) (l : List α) : Int := match l.findIdx? p with | some k => (k : Int) | none => -1
theorem first_hit {α : Type} {p : α → Bool} {l : List α} {k : Nat} (hk : k < l.length) (h : p l[k] = true) (ho : ∀ j (hj : j < l.length), j < k → p l[j] = false) : firstF p l = (k : Int) := by
  have e : l.findIdx? p = some k := List.findIdx?_eq_some_iff_getElem.2 ⟨hk, h, fun j hj => by rw [ho j (by omega) hj]; decide⟩
  unfold firstF
  rw [e]
theorem first_miss {α : Type} {p : α → Bool} {l : List α} (h : ∀ j (hj : j < l.length), p l[j] = false) : firstF p l = -1 := by
  have e : l.findIdx? p = none := by
    rw [List.findIdx?_eq_none_iff]
    intro x hx
    obtain ⟨j, hj, rfl⟩ := List.getElem_of_mem hx
    exact h j hj
  unfold firstF
  rw [e]
/-- A function value that says p of each member, and lays blocks of its own alone. -/
def PredM (g : Nat) (lb : Array Value) (p : MemberD → Bool) (w : World) : Prop := ∀ (W : World) (s : MemberD), Below w.heap.size w W → Calls Try.prog g (#[memVal s] ++ lb) W (BoolIs W (p s))
def IntIs (w : World) (k : Int) (e : Ending) (w' : World) : Prop := e = .returned (.int .i64 k) ∧ Below w.heap.size w w'
theorem intIs_mk {w w' : World} {k k' : Int} (h : k = k') (hb : Below w.heap.size w w') : IntIs w k (.returned (.int .i64 k')) w' := ⟨by rw [h], hb⟩
set_option maxHeartbeats 2000000 in
theorem memidx_any (p : MemberD → Bool) (g : Nat) (lb : Array Value) (eg : ∀ args w, (callFunc g args).run Try.prog w = .ok (.enter g args) w) (A : Option Addr) (n c : Nat) (ss : List MemberD) (w : World)
    (hs : MemRow w A n c ss) (hp : PredM g lb p w) :
    Calls Try.prog 114 #[.slice A n c, .func (.func g) #[] lb] w (IntIs w (firstF p ss)) := by
  have hnc := Nat.le_trans hs.cap hs.max
  have Hs := hid_ hs
  have Hp := hid_ hp
  have Hlen := hid_ hs.len
  clear hs hp
  go_enter Try.func114, Try.ntmps114
  go_wp2_with fail
  go_loopw [5, 8] (fun _ vi wr => ∃ k : Nat, k ≤ n ∧ vi = .int .i64 (k : Nat) ∧ Hid (∀ j (hj : j < ss.length), j < k → p ss[j] = false) ∧ Hid (Below w.heap.size w wr)) (fun _ vi _ => n - (intOf vi).toNat)
  case atStart => exact ⟨0, by omega, rfl, hid_ (by intro j _ h; omega), hid_ (Below.refl _ _)⟩
  case round =>
    obtain ⟨k, hk, rfl, Hno, Hb⟩ := hrel
    by_cases hlt : k < n
    · have hkl : k < ss.length := by rw [Hlen.out]; exact hlt
      have i0 : (0 : Int) ≤ (k : Int) := by omega
      have i1 : (k : Int) < (n : Int) := by omega
      obtain ⟨b, off, rfl, c0, c1, c2⟩ := (Hs.out.below Hb.out).at_ hkl
      have Hcall := hid_ (Hp.out wr ss[k] Hb.out)
      have Hhit := hid_ (fun h => first_hit (p := p) hkl h Hno.out)
      have Hmis := hid_ (fun (h : p ss[k] = false) => show ∀ j (hj : j < ss.length), j < k + 1 → p ss[j] = false from fun j hj hjk => by
        by_cases e : j = k
        · subst e; exact h
        · exact Hno.out j hj (by omega))
      generalize ss[k] = s at *
      cases hq : p s
      · rw [hq] at Hcall
        have Hm := hid_ (Hmis.out hq)
        clear hq
        go_wp2_with (go_at_fn g; (with_reducible refine Calls.mono Hcall.out ?_); rintro e w' ⟨rfl, hb'⟩; have Hb2 := hid_ (Hb.out.trans (hb'.mono Hb.out.size)); clear hb')
        go_roundw
        case rel => exact ⟨k + 1, by omega, by go_num, Hm, Hb2⟩
        case measure => simp [intOf]; omega
      · rw [hq] at Hcall
        have Hm := hid_ (Hhit.out hq)
        clear hq
        go_wp2_with (go_at_fn g; (with_reducible refine Calls.mono Hcall.out ?_); rintro e w' ⟨rfl, hb'⟩; have Hb2 := hid_ (Hb.out.trans (hb'.mono Hb.out.size)); clear hb')
        go_ret
        exact intIs_mk Hm.out Hb2.out
    · have Hm := hid_ (first_miss (p := p) (l := ss) fun j hj => Hno.out j hj (by have := Hlen.out; omega))
      go_wp2_with fail
      go_ret
      exact intIs_mk Hm.out Hb.out

def isOwn (self : Nat) (m : MemberD) : Bool := decide (m.id = self)
set_option maxHeartbeats 1000000 in
theorem ownfn_any (x g self : Nat) (m : MemberD) (w : World) (hx : w.cell? ⟨x, 0, none⟩ = some (.pointer (some ⟨g, 0, none⟩))) (h0 : w.cell? ⟨g, 0, none⟩ = some (.int .u64 (self : Nat))) :
    Calls Try.prog 115 #[memVal m, .pointer (some ⟨x, 0, none⟩)] w (BoolIs w (isOwn self m)) := by
  obtain ⟨i, ic, st⟩ := m
  have Hb := hid_ ((Below.refl w.heap.size w).alloc (Nat.le_refl _) (.cells #[.int .u64 (i : Nat), .int .u64 (ic : Nat), .int .i64 st] 82))
  have HR := hid_ (show isOwn self ⟨i, ic, st⟩ = decide (i = self) from rfl)
  have hxl : x < w.heap.size := lt_of_cell hx
  have hgl : g < w.heap.size := lt_of_cell h0
  by_cases h : i = self
  · have e1 : ((i : Int) == (self : Int)) = true := by rw [beq_iff_eq]; omega
    have e2 : (i == self) = true := by rw [beq_iff_eq]; exact h
    rw [decide_eq_true h] at HR
    clear h
    go_enter Try.func115, Try.ntmps115
    go_wp2_with fail
    go_quiet (fail)
    go_wp2_with fail
    go_ret
    exact boolIs_mk HR.out (below_drewN Hb.out _)
  · have e1 : ((i : Int) == (self : Int)) = false := by rw [beq_eq_false_iff_ne]; omega
    have e2 : (i == self) = false := by rw [beq_eq_false_iff_ne]; exact h
    rw [decide_eq_false h] at HR
    clear h
    go_enter Try.func115, Try.ntmps115
    go_wp2_with fail
    go_quiet (fail)
    go_wp2_with fail
    go_ret
    exact boolIs_mk HR.out (below_drewN Hb.out _)
theorem own_at {d : NodeD} (h : NOk d) : ∃ (k : Nat) (hk : k < d.ms.length), d.ms[k].id = d.self ∧ firstF (isOwn d.self) d.ms = (k : Int) := by
  obtain ⟨m, hm, e⟩ := h.has
  obtain ⟨k, hk, rfl⟩ := List.getElem_of_mem hm
  refine ⟨k, hk, e, first_hit hk (decide_eq_true e) fun j hj hjk => decide_eq_false fun e2 => ?_⟩
  have hp := List.pairwise_iff_getElem.1 (right_rising h.right) j k (by simpa using hj) (by simpa using hk) hjk
  simp only [List.getElem_map] at hp
  omega
set_option maxHeartbeats 2000000 in
theorem own_any (g a n c b : Nat) (d : NodeD) (D : DataW Value) (w : World) (h : NdIn w g a n c b d D) (k : Nat) (hk : k < d.ms.length) (hf : firstF (isOwn d.self) d.ms = (k : Int)) :
    Calls Try.prog 89 #[.pointer (some ⟨g, 0, none⟩)] w (RetB w.heap.size w (.pointer (some ⟨a, k * 3, none⟩))) := by
  obtain ⟨c0, -, -, -, -, -, c6, -, -⟩ := nd_facts h.cells
  have hlen := h.row.len
  have hgl : g < w.heap.size := h.cells.lt
  have hrow := h.row.row
  have hle := hrow.cap
  have hmax := hrow.max
  have HB := hid_ ((Below.refl w.heap.size w).alloc (Nat.le_refl _) (.cells #[.pointer (some ⟨g, 0, none⟩)] 73))
  have HI := hid_ (memidx_any (isOwn d.self) 115 #[.pointer (some ⟨w.heap.size, 0, none⟩)] (enters_of Try.func115 (by kernel_rfl) rfl) (some ⟨a, 0, none⟩) n c d.ms
    (w.alloc (.cells #[.pointer (some ⟨g, 0, none⟩)] 73)) ((memRow_of_enc hrow).below HB.out) (fun W s hW => ownfn_any _ g d.self s W ((hW.cell (p := ⟨w.heap.size, 0, none⟩) (by simp)).trans (by rw [World.cell?_alloc_mark]; rfl)) ((hW.cell (p := ⟨g, 0, none⟩) (by simp; exact Nat.lt_succ_of_lt h.cells.lt)).trans ((HB.out.cell (p := ⟨g, 0, none⟩) h.cells.lt).trans c0))))
  rw [hf] at HI
  have hkn : k < n := by omega
  have i0 : (0 : Int) ≤ (k : Int) := by omega
  have i1 : (k : Int) < (n : Int) := by omega
  have HC6 := hid_ (show ∀ W, Below w.heap.size w W → W.cell? ⟨g, 6, none⟩ = some (.slice (some ⟨a, 0, none⟩) n c) from fun W hW => (hW.cell (p := ⟨g, 6, none⟩) h.cells.lt).trans c6)
  clear h hlen hrow hk hf c0
  go_enter Try.func89, Try.ntmps89
  go_wp2_with fail
  refine Calls.mono HI.out ?_
  rintro e w1 ⟨rfl, hb⟩
  have HB1 := hid_ (HB.out.trans (hb.mono HB.out.size))
  have d6 := HC6.out w1 HB1.out
  have HP := hid_ (hb.cell (p := ⟨w.heap.size, 0, none⟩) (by simp))
  have d0 : w1.cell? ⟨w.heap.size, 0, none⟩ = some (.pointer (some ⟨g, 0, none⟩)) := HP.out.trans (by rw [World.cell?_alloc_mark]; rfl)
  clear hb c6
  go_wp2_with fail
  go_ret
  exact retB_mk rfl HB1.out
end Gs
end Go.Proofs.Ytcmoelphjdehaaa

/-
  A node's own member: pass, object, Leave, Self.
-/
namespace Go.Proofs.Ytcmoelphjdehaaa
set_option linter.unusedSimpArgs false
set_option linter.unusedVariables false
open Go.RowKit Ru Vw
namespace Gs
set_option linter.unusedSimpArgs false
set_option linter.unusedVariables false
theorem own_free {α : Type} {E : Enc α} {e : TypeId} {B : Nat} {w : World} {a n c : Nat} {ss : List α} (h : E.Own e B w (some ⟨a, 0, none⟩) n c ss) (i : Nat) : w.frozen? ⟨a, i, none⟩ = false := by
  obtain ⟨hl, h1 | ⟨g, cap, cur, e', hg, hh, r⟩⟩ := h
  · cases h1.1
  · injection e' with e1
    injection e1 with e1
    injection e1 with e1
    subst e1
    exact Whole.free hh i
theorem ndPost_mk {w w' : World} {g : Nat} {Q Q' : Nat → Prop} {R : World → Value → Prop} {v : Value} {d d' : NodeD} (hr : R w' v) (h : Nd w' g Q' d') (ed : d' = d) (ht : Tn Q w w') (hq : ∀ q, Q' q → Q q ∨ w.heap.size ≤ q) : NdPost w g Q R d (.returned v) w' :=
  ⟨v, rfl, hr, Q', ed ▸ h, ht, hq⟩
/-- Nothing is answered. -/
def NoAns (_ : World) (v : Value) : Prop := v = .tuple #[]
theorem pass_any (g : Nat) (Q : Nat → Prop) (d : NodeD) (now : Nat) (w : World) (h : Nd w g Q d) (hn : now < 18446744073709551616) :
    Calls Try.prog 83 #[.pointer (some ⟨g, 0, none⟩), .int .u64 (now : Nat)] w (NdPost w g Q NoAns (passD d now)) := by
  have H := hid_ h
  obtain ⟨a, n, c, b, D, qa, qb, hin⟩ := h.mem
  obtain ⟨-, -, -, c3, -, -, -, -, hfz⟩ := nd_facts hin.cells
  have hz3 := hfz 3
  have HE := hid_ (show NdPost w g Q NoAns (passD d now) (.returned (.tuple #[])) (w.setCell ⟨g, 3, none⟩ (.int .u64 ((max d.time now : Nat) : Int))) from
    ndPost_mk rfl (h.cell (pass_ok h.ok hn) rfl rfl 3 _ (fun a n c b => rfl)) rfl ((Tn.refl _ _).set (.inl h.qg) 3 _) (fun q hq => .inl hq))
  have hmx : max (d.time : Int) (now : Int) = ((max d.time now : Nat) : Int) := by omega
  generalize max d.time now = mx at *
  clear h hin hfz qa qb
  go_enter Try.func83, Try.ntmps83
  go_wp2_with fail
  go_end0
  exact HE.out
/-- A member of the node's is written anew, by two of its cells. -/
theorem NdIn.member {w : World} {g a n c b : Nat} {d : NodeD} {D : DataW Value} (h : NdIn w g a n c b d D) {k : Nat} (hk : k < d.ms.length) (x y : Nat) (s : Int) (hx : d.ms[k] = ⟨x, y, s⟩) (y' : Nat) (s' : Int) :
    NdIn ((w.setCell ⟨a, k * 3 + 1, none⟩ (.int .u64 (y' : Nat))).setCell ⟨a, k * 3 + 2, none⟩ (.int .i64 s')) g a n c b (withMs d (d.ms.set k ⟨x, y', s'⟩)) D := by
  have h1 : OwnM 0 (w.setCell ⟨a, k * 3 + 1, none⟩ (.int .u64 (y' : Nat))) (some ⟨a, 0, none⟩) n c (d.ms.set k ⟨x, y', s⟩) :=
    own_store h.row (j := 1) hk (by decide) ⟨x, y', s⟩ _ (by rw [hx]; rfl)
  have h2 : OwnM 0 ((w.setCell ⟨a, k * 3 + 1, none⟩ (.int .u64 (y' : Nat))).setCell ⟨a, k * 3 + 2, none⟩ (.int .i64 s')) (some ⟨a, 0, none⟩) n c ((d.ms.set k ⟨x, y', s⟩).set k ⟨x, y', s'⟩) :=
    own_store h1 (j := 2) (by rw [List.length_set]; exact hk) (by decide) ⟨x, y', s'⟩ _ (by rw [List.getElem_set_self]; rfl)
  rw [List.set_set] at h2
  have hs : ∀ q, q ≠ a → ((w.setCell ⟨a, k * 3 + 1, none⟩ (.int .u64 (y' : Nat))).setCell ⟨a, k * 3 + 2, none⟩ (.int .i64 s')).heap[q]? = w.heap[q]? := fun q hq =>
    (Below.heap_setCell _ ⟨a, k * 3 + 2, none⟩ _ q hq).trans (Below.heap_setCell w ⟨a, k * 3 + 1, none⟩ _ q hq)
  exact ⟨(hs g (fun e => h.ag e.symm)).trans h.cells, h2, h.map.stands (hs b (fun e => h.ab e.symm)), h.ag, h.bg, h.ab⟩
/-- .. by its state alone. -/
theorem NdIn.state {w : World} {g a n c b : Nat} {d : NodeD} {D : DataW Value} (h : NdIn w g a n c b d D) {k : Nat} (hk : k < d.ms.length) (x y : Nat) (s : Int) (hx : d.ms[k] = ⟨x, y, s⟩) (s' : Int) :
    NdIn (w.setCell ⟨a, k * 3 + 2, none⟩ (.int .i64 s')) g a n c b (withMs d (d.ms.set k ⟨x, y, s'⟩)) D := by
  have h2 : OwnM 0 (w.setCell ⟨a, k * 3 + 2, none⟩ (.int .i64 s')) (some ⟨a, 0, none⟩) n c (d.ms.set k ⟨x, y, s'⟩) :=
    own_store h.row (j := 2) hk (by decide) ⟨x, y, s'⟩ _ (by rw [hx]; rfl)
  have hs : ∀ q, q ≠ a → (w.setCell ⟨a, k * 3 + 2, none⟩ (.int .i64 s')).heap[q]? = w.heap[q]? := fun q hq => Below.heap_setCell w ⟨a, k * 3 + 2, none⟩ _ q hq
  exact ⟨(hs g (fun e => h.ag e.symm)).trans h.cells, h2, h.map.stands (hs b (fun e => h.ab e.symm)), h.ag, h.bg, h.ab⟩
theorem nd_of {w w' : World} {g a n c b : Nat} {Q : Nat → Prop} {d d' : NodeD} {D' : DataW Value} (h : Nd w g Q d) (qa : Q a) (qb : Q b) (hs : w.heap.size ≤ w'.heap.size) (hi : NdIn w' g a n c b d' D') (ho : NOk d') : Nd w' g Q d' :=
  ⟨ho, h.qg, fun q hq => Nat.lt_of_lt_of_le (h.qlt q hq) hs, a, n, c, b, D', qa, qb, hi⟩
theorem objF_same {self : Nat} {left : Bool} {m : MemberD} (h : objects self left m = false) : objF self left m = m := by
  unfold objF
  rw [h, if_neg Bool.false_ne_true]
theorem map_same {l : List MemberD} {f : MemberD → MemberD} (h : ∀ m ∈ l, f m = m) : l.map f = l := (List.map_congr_left h).trans (List.map_id _)
theorem own_only {d : NodeD} (h : NOk d) {k : Nat} (hk : k < d.ms.length) (hid : d.ms[k].id = d.self) {f : MemberD → MemberD} (hf : ∀ m, m.id ≠ d.self → f m = m) (hs : f d.ms[k] = d.ms[k]) : d.ms.map f = d.ms := by
  rw [← set_map (right_rising h.right) hk (fun m hm => hf m (by rw [← hid]; exact hm)), hs, List.set_getElem_self]
theorem objD_no {d : NodeD} (h : NOk d) {k : Nat} (hk : k < d.ms.length) (hid : d.ms[k].id = d.self) (ho : objects d.self d.left d.ms[k] = false) : objD d = d := by
  unfold objD
  rw [own_only h hk hid (fun m hm => objF_other hm) (objF_same ho)]
theorem objD_yes {d : NodeD} (h : NOk d) {k : Nat} (hk : k < d.ms.length) (x y : Nat) (s : Int) (hx : d.ms[k] = ⟨x, y, s⟩) (hid : x = d.self) (ho : objects d.self d.left ⟨x, y, s⟩ = true) : withMs d (d.ms.set k ⟨x, y + 1, 0⟩) = objD d := by
  unfold objD withMs
  rw [← set_map (right_rising h.right) hk (f := objF d.self d.left) (fun m hm => objF_other (by rw [hx] at hm; rw [← hid]; exact hm)), hx]
  unfold objF
  rw [if_pos ho]
theorem leaveD_at {d : NodeD} (h : NOk d) {k : Nat} (hk : k < d.ms.length) (x y : Nat) (s : Int) (hx : d.ms[k] = ⟨x, y, s⟩) (hid : x = d.self) : { withMs d (d.ms.set k ⟨x, y, 2⟩) with left := true } = leaveD d := by
  unfold leaveD withMs
  rw [← set_map (right_rising h.right) hk (f := goneF d.self) (fun m hm => goneF_other (by rw [hx] at hm; rw [← hid]; exact hm)), hx]
  unfold goneF
  rw [if_pos hid]
theorem row_cells {w : World} {a n c : Nat} {ss : List MemberD} (h : OwnM 0 w (some ⟨a, 0, none⟩) n c ss) {k : Nat} (hk : k < ss.length) (x y : Nat) (s : Int) (hx : ss[k] = ⟨x, y, s⟩) :
    w.cell? ⟨a, k * 3, none⟩ = some (.int .u64 (x : Nat)) ∧ w.cell? ⟨a, k * 3 + 1, none⟩ = some (.int .u64 (y : Nat)) ∧ w.cell? ⟨a, k * 3 + 2, none⟩ = some (.int .i64 s) := by
  obtain ⟨b, off, e, _, hc⟩ := h.row.at_ hk
  injection e with e
  injection e with e1 e2 _
  subst e1 e2
  rw [hx] at hc
  have h0 := hc 0 _ rfl
  have h1 := hc 1 _ rfl
  have h2 := hc 2 _ rfl
  rw [Nat.zero_add] at h0 h1 h2
  exact ⟨h0, h1, h2⟩
theorem objects_left (self : Nat) (m : MemberD) : objects self true m = false := by unfold objects; simp
theorem objects_alive (self : Nat) (left : Bool) (x y : Nat) : objects self left ⟨x, y, 0⟩ = false := by unfold objects; simp
theorem objects_end (self : Nat) (left : Bool) (x : Nat) (s : Int) : objects self left ⟨x, 18446744073709551615, s⟩ = false := by unfold objects; simp
theorem objects_yes (self x y : Nat) (s : Int) (h1 : x = self) (h2 : s ≠ 0) (h3 : y ≠ 18446744073709551615) : objects self false ⟨x, y, s⟩ = true := by unfold objects; simp [h1, h2, h3]
set_option maxHeartbeats 8000000 in
theorem object_any (g : Nat) (Q : Nat → Prop) (d : NodeD) (w : World) (h : Nd w g Q d) :
    Calls Try.prog 86 #[.pointer (some ⟨g, 0, none⟩)] w (NdPost w g Q NoAns (objD d)) := by
  obtain ⟨k, hk, hid, hf⟩ := own_at h.ok
  obtain ⟨a, n, c, b, D, qa, qb, hin⟩ := h.mem
  have HO := hid_ (own_any g a n c b d D w hin k hk hf)
  have hy := (h.ok.wf _ (List.getElem_mem hk)).inc
  obtain ⟨x, y, s, hx⟩ : ∃ x y s, d.ms[k] = (⟨x, y, s⟩ : MemberD) := ⟨_, _, _, rfl⟩
  rw [hx] at hid hy
  simp only at hid hy
  have HNo := hid_ (fun (W : World) (hb : Below w.heap.size w W) (ho : objects d.self d.left ⟨x, y, s⟩ = false) => show NdPost w g Q NoAns (objD d) (.returned (.tuple #[])) W from
    ndPost_mk rfl (h.below hb) (objD_no h.ok hk (by rw [hx]; exact hid) (by rw [hx]; exact ho)).symm (Tn.of_below hb) (fun q hq => .inl hq))
  have HYes := hid_ (fun (W : World) (hb : Below w.heap.size w W) (ho : objects d.self d.left ⟨x, y, s⟩ = true) => show NdPost w g Q NoAns (objD d) (.returned (.tuple #[])) ((W.setCell ⟨a, k * 3 + 1, none⟩ (.int .u64 ((y + 1 : Nat) : Int))).setCell ⟨a, k * 3 + 2, none⟩ (.int .i64 0)) from
    ndPost_mk rfl (nd_of h qa qb (by simpa using hb.size) ((hin.below hb).member hk x y s hx (y + 1) 0) (objD_yes h.ok hk x y s hx hid ho ▸ obj_ok h.ok)) (objD_yes h.ok hk x y s hx hid ho)
      (((Tn.of_below hb).set (.inl qa) _ _).set (.inl qa) _ _) (fun q hq => .inl hq))
  have HF := hid_ (fun (W : World) (hb : Below w.heap.size w W) => And.intro (nd_facts (hin.below hb).cells) (And.intro (row_cells (hin.below hb).row hk x y s hx) (fun i => own_free (hin.below hb).row i)))
  clear h hin hf hx hk qa qb
  go_enter Try.func86, Try.ntmps86
  go_wp2_with fail
  refine Calls.mono HO.out ?_
  rintro e w1 ⟨rfl, hb⟩
  have HB := hid_ hb
  obtain ⟨⟨-, -, -, -, -, c5, -, -, -⟩, ⟨-, a1, a2⟩, hfz⟩ := HF.out w1 hb
  have hz1 := hfz (k * 3 + 1)
  have hz2 := hfz (k * 3 + 2)
  clear hb hfz HF HO
  generalize d.left = lf at *
  cases lf
  · by_cases hs : s = 0
    · have e1 : (s == 0) = true := by rw [hs]; rfl
      have HE := hid_ (HNo.out w1 HB.out (by rw [hs]; exact objects_alive _ _ _ _))
      clear hs HNo HYes
      go_wp2_with fail
      go_end0
      exact HE.out
    · have e1 : (s == 0) = false := by rw [beq_eq_false_iff_ne]; exact hs
      by_cases hm : y = 18446744073709551615
      · have e2 : (y == 18446744073709551615) = true := by rw [hm]; rfl
        have e3 : ((y : Int) == 18446744073709551615) = true := by rw [hm]; rfl
        have HE := hid_ (HNo.out w1 HB.out (by rw [hm]; exact objects_end _ _ _ _))
        clear hs hm HNo HYes
        go_wp2_with fail
        go_end0
        exact HE.out
      · have e2 : (y == 18446744073709551615) = false := by rw [beq_eq_false_iff_ne]; exact hm
        have e3 : ((y : Int) == 18446744073709551615) = false := by rw [beq_eq_false_iff_ne]; omega
        have HE := hid_ (HYes.out w1 HB.out (objects_yes _ _ _ _ hid hs hm))
        have hwr : IntKind.u64.wrap ((y : Int) + 1) = ((y + 1 : Nat) : Int) := by rw [wrap_u64]; omega
        generalize y + 1 = y1 at *
        clear hs hm HNo HYes
        go_wp2_with fail
        go_end0
        exact HE.out
  · have HE := hid_ (HNo.out w1 HB.out (objects_left _ _))
    clear HNo HYes
    go_wp2_with fail
    go_end0
    exact HE.out
theorem leave_nil (w : World) : Calls Try.prog 45 #[.pointer none] w (fun e w' => e = .returned (.tuple #[]) ∧ w = w') := by
  have HN := hid_ (none_nil w)
  go_enter Try.func45, Try.ntmps45
  go_wp2_with fail
  refine Calls.mono HN.out ?_
  rintro e w1 ⟨rfl, rfl⟩
  go_wp2_with fail
  refine bodyPost_ret (results_none rfl _ _ _) rfl ?_
  exact ⟨rfl, rfl⟩
theorem left_ok {d : NodeD} (h : NOk d) : NOk { d with left := true } := ⟨h.self0, h.selfB, h.per1, h.perB, h.wait1, h.waitB, h.timeB, h.dueB, h.right, h.wf, h.has, h.dom, h.heardB⟩
set_option maxHeartbeats 8000000 in
theorem leave_any (g : Nat) (Q : Nat → Prop) (d : NodeD) (w : World) (h : Nd w g Q d) :
    Calls Try.prog 45 #[.pointer (some ⟨g, 0, none⟩)] w (NdPost w g Q NoAns (leaveD d)) := by
  obtain ⟨k, hk, hid, hf⟩ := own_at h.ok
  obtain ⟨a, n, c, b, D, qa, qb, hin⟩ := h.mem
  obtain ⟨c0, -, -, -, -, c5, -, -, hfz⟩ := nd_facts hin.cells
  have HN := hid_ (none_any g d.self w c0 h.ok.self0)
  have h2 : Nd (w.setCell ⟨g, 5, none⟩ (.bool true)) g Q { d with left := true } := h.cell (left_ok h.ok) rfl rfl 5 _ (fun a n c b => rfl)
  have hin2 : NdIn (w.setCell ⟨g, 5, none⟩ (.bool true)) g a n c b { d with left := true } D :=
    ⟨hin.cells.store 5 _, own_stands hin.row (Below.heap_setCell w ⟨g, 5, none⟩ _ a hin.ag), hin.map.stands (Below.heap_setCell w ⟨g, 5, none⟩ _ b hin.bg), hin.ag, hin.bg, hin.ab⟩
  have HO := hid_ (own_any g a n c b { d with left := true } D _ hin2 k hk hf)
  obtain ⟨x, y, s, hx⟩ : ∃ x y s, d.ms[k] = (⟨x, y, s⟩ : MemberD) := ⟨_, _, _, rfl⟩
  rw [hx] at hid
  simp only at hid
  have hl := leaveD_at h.ok hk x y s hx hid
  have HYes := hid_ (fun (W : World) (hb : Below (w.setCell ⟨g, 5, none⟩ (.bool true)).heap.size (w.setCell ⟨g, 5, none⟩ (.bool true)) W) => show NdPost w g Q NoAns (leaveD d) (.returned (.tuple #[])) (W.setCell ⟨a, k * 3 + 2, none⟩ (.int .i64 2)) from
    ndPost_mk rfl (nd_of h qa qb (by have := hb.size; simpa using this) ((hin2.below hb).state hk x y s hx 2) (show NOk { withMs d (d.ms.set k ⟨x, y, 2⟩) with left := true } from hl ▸ leave_ok h.ok)) hl
      ((((Tn.refl Q w).set (.inl h.qg) 5 _).then_below hb).set (.inl qa) _ _) (fun q hq => .inl hq))
  have HF := hid_ (fun (W : World) (hb : Below (w.setCell ⟨g, 5, none⟩ (.bool true)).heap.size (w.setCell ⟨g, 5, none⟩ (.bool true)) W) => And.intro (row_cells (hin2.below hb).row hk x y s hx) (own_free (hin2.below hb).row (k * 3 + 2)))
  have hz5 := hfz 5
  clear h h2 hin hin2 hf hk hx hl hid qa qb hfz
  go_enter Try.func45, Try.ntmps45
  go_wp2_with fail
  refine Calls.mono HN.out ?_
  rintro e w0 ⟨rfl, rfl⟩
  go_wp2_with fail
  refine Calls.mono HO.out ?_
  rintro e w1 ⟨rfl, hb⟩
  have HE := hid_ (HYes.out w1 hb)
  obtain ⟨⟨-, -, a2⟩, hz2⟩ := HF.out w1 hb
  clear hb HYes HF HO
  go_wp2_with fail
  go_end0
  exact HE.out
theorem self_nil (w : World) : Calls Try.prog 49 #[.pointer none] w (RetB w.heap.size w (memVal ⟨0, 0, 0⟩)) := by
  have HN := hid_ (none_nil (w.alloc (.cells #[.int .u64 0, .int .u64 0, .int .i64 0] 82)))
  go_enter Try.func49, Try.ntmps49
  go_wp2_with fail
  refine Calls.mono HN.out ?_
  rintro e w0 ⟨rfl, rfl⟩
  go_wp2_with fail
  refine bodyPost_ret (v := memVal ⟨0, 0, 0⟩) (by simp [results, Try.results49, go_sem]) rfl ?_
  exact retB_mk rfl (((Below.refl _ _).alloc (Nat.le_refl _) _))
set_option maxRecDepth 20000 in
set_option maxHeartbeats 8000000 in
theorem self_any (g : Nat) (Q : Nat → Prop) (d : NodeD) (w : World) (h : Nd w g Q d) (m : MemberD) (hm : m ∈ d.ms) (hid : m.id = d.self) :
    Calls Try.prog 49 #[.pointer (some ⟨g, 0, none⟩)] w (RetB w.heap.size w (memVal m)) := by
  obtain ⟨k, hk, hid2, hf⟩ := own_at h.ok
  have hme : d.ms[k] = m := by
    have h1 := getF_mem (right_rising h.ok.right) hm
    have h2 := getF_mem (right_rising h.ok.right) (List.getElem_mem hk)
    rw [hid2, ← hid, h1] at h2
    exact (Option.some.inj h2).symm
  obtain ⟨a, n, c, b, D, qa, qb, hin⟩ := h.mem
  obtain ⟨x, y, s⟩ := m
  have HB0 := hid_ ((Below.refl w.heap.size w).alloc (Nat.le_refl _) (.cells #[.int .u64 0, .int .u64 0, .int .i64 0] 82))
  obtain ⟨c0, -, -, -, -, -, -, -, -⟩ := nd_facts (hin.below HB0.out).cells
  have HN := hid_ (none_any g d.self _ c0 h.ok.self0)
  have HO := hid_ (own_any g a n c b d D _ (hin.below HB0.out) k hk hf)
  have HF := hid_ (fun (W : World) (hb : Below w.heap.size w W) => row_cells (hin.below hb).row hk x y s hme)
  have HW := hid_ (whole_new w 82 #[.int .u64 0, .int .u64 0, .int .i64 0])
  clear h hin hf hk hme hid hid2 qa qb c0 hm
  go_enter Try.func49, Try.ntmps49
  go_wp2_with fail
  refine Calls.mono HN.out ?_
  rintro e w0 ⟨rfl, rfl⟩
  go_wp2_with fail
  refine Calls.mono HO.out ?_
  rintro e w1 ⟨rfl, hb⟩
  have HB1 := hid_ (HB0.out.trans (hb.mono (by simp)))
  obtain ⟨a0, a1, a2⟩ := HF.out w1 HB1.out
  have HW1 := hid_ (HW.out.below hb (by simp))
  have z0 := HW1.out.cell 0 _ rfl
  have z1 := HW1.out.cell 1 _ rfl
  have z2 := HW1.out.cell 2 _ rfl
  have y0 := HW1.out.free 0
  have y1 := HW1.out.free 1
  have y2 := HW1.out.free 2
  clear hb HF HO
  go_wp2_with fail
  refine bodyPost_ret (results_cell_row rfl _ _ w.heap.size 82 #[.int .u64 (x : Nat), .int .u64 (y : Nat), .int .i64 s] (0, 0) _ rfl (((HW1.out.store 0 _).store 1 _).store 2 _) Try.underlying82 rfl rfl) rfl ?_
  exact retB_mk rfl (((HB1.out.setCell (p := ⟨w.heap.size, 0, none⟩) (Nat.le_refl _) _).setCell (p := ⟨w.heap.size, 1, none⟩) (Nat.le_refl _) _).setCell (p := ⟨w.heap.size, 2, none⟩) (Nat.le_refl _) _)
end Gs
end Go.Proofs.Ytcmoelphjdehaaa
