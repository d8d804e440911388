/-
  Timers, plain: heaps by their numbers, and the sorted list that a heap stands for.
-/
import Derived.Test.YtpcmlopbkehffaaZGAA
namespace Go.Proofs.Ytpcmlopbkehffaa
set_option linter.unusedSimpArgs false
set_option linter.unusedVariables false
namespace Ti
set_option linter.unusedSimpArgs false
set_option linter.unusedVariables false
structure DueD where
  key : Nat
  at_ : Nat
deriving DecidableEq
def ord (d : DueD) : Nat := d.at_ * 18446744073709551616 + d.key
def par (k : Nat) : Nat := (k - 1) / 2
def swapV (v : Nat → Nat) (i j : Nat) : Nat → Nat := fun k => if k = i then v j else if k = j then v i else v k
theorem swap_i (v : Nat → Nat) (i j : Nat) : swapV v i j i = v j := if_pos rfl
theorem swap_j (v : Nat → Nat) (i j : Nat) : swapV v i j j = v i := by
  unfold swapV
  by_cases h : j = i
  · rw [if_pos h, h]
  · rw [if_neg h, if_pos rfl]
theorem swap_k (v : Nat → Nat) {i j k : Nat} (h1 : k ≠ i) (h2 : k ≠ j) : swapV v i j k = v k := by
  unfold swapV
  rw [if_neg h1, if_neg h2]
/-- A heap of the first n. -/
def HeapV (v : Nat → Nat) (n : Nat) : Prop := ∀ k, 0 < k → k < n → v (par k) ≤ v k
/-- .. but that the one at j may have to go up. -/
def UpOk (v : Nat → Nat) (n j : Nat) : Prop := (∀ k, 0 < k → k < n → k ≠ j → v (par k) ≤ v k) ∧ (0 < j → ∀ k, 0 < k → k < n → par k = j → v (par j) ≤ v k)
/-- .. but that the one at i may have to go down, or, where it has not begun to, up. -/
def DownOk (v : Nat → Nat) (n i0 i : Nat) : Prop := (∀ k, 0 < k → k < n → par k ≠ i → (k = i0 → i ≠ i0) → v (par k) ≤ v k) ∧ (0 < i → ∀ k, 0 < k → k < n → par k = i → v (par i) ≤ v k)
theorem up_step {v : Nat → Nat} {n j : Nat} (h : UpOk v n j) (h0 : 0 < j) (hj : j < n) (hlt : v j < v (par j)) : UpOk (swapV v (par j) j) n (par j) := by
  have hp : par j < j := by unfold par; omega
  refine ⟨fun k k0 kn kp => ?_, fun p0 k k0 kn kp => ?_⟩
  · have hk : par k < k := by unfold par; omega
    by_cases e : k = j
    · subst e
      rw [swap_j, swap_i]
      omega
    · rw [swap_k v kp e]
      by_cases e2 : par k = j
      · rw [e2, swap_j]
        exact h.2 h0 k k0 kn e2
      · by_cases e3 : par k = par j
        · rw [e3, swap_i]
          have := h.1 k k0 kn e
          rw [e3] at this
          omega
        · rw [swap_k v e3 e2]
          exact h.1 k k0 kn e
  · have hpp : par (par j) < par j := by unfold par at *; omega
    rw [swap_k v (by omega) (by omega)]
    have h1 := h.1 (par j) p0 (by omega) (by omega)
    by_cases e : k = j
    · subst e
      rw [swap_j]
      exact h1
    · rw [swap_k v (by unfold par at *; omega) e]
      have := h.1 k k0 kn e
      rw [kp] at this
      omega
theorem up_done {v : Nat → Nat} {n j : Nat} (h : UpOk v n j) (hd : j = 0 ∨ v (par j) ≤ v j) : HeapV v n := by
  intro k k0 kn
  by_cases e : k = j
  · subst e
    rcases hd with h1 | h1
    · omega
    · exact h1
  · exact h.1 k k0 kn e
theorem down_step {v : Nat → Nat} {n i0 i j : Nat} (h : DownOk v n i0 i) (h0 : i0 ≤ i) (hj : j < n) (hj0 : 0 < j) (hp : par j = i) (hlt : v j < v i) (hm : ∀ k, 0 < k → k < n → par k = i → v j ≤ v k) : DownOk (swapV v i j) n i0 j := by
  have hij : i < j := by unfold par at hp; omega
  refine ⟨fun k k0 kn kp ki => ?_, fun _ k k0 kn kp => ?_⟩
  · have hk : par k < k := by unfold par; omega
    by_cases e : k = j
    · subst e
      rw [hp, swap_i, swap_j]
      omega
    · by_cases e2 : par k = i
      · rw [e2, swap_i, swap_k v (by omega) e]
        exact hm k k0 kn e2
      · rw [swap_k v e2 kp]
        by_cases e3 : k = i
        · subst e3
          rw [swap_i]
          exact h.2 k0 j hj0 hj hp
        · rw [swap_k v e3 e]
          exact h.1 k k0 kn e2 (fun ek => by omega)
  · have hk : par k < k := by unfold par; omega
    rw [hp, swap_i, swap_k v (by omega) (by omega)]
    rw [← kp]
    exact h.1 k k0 kn (by omega) (fun ek => by omega)
theorem down_done {v : Nat → Nat} {n i0 i : Nat} (h : DownOk v n i0 i) (hi : i0 < i) (hc : ∀ k, 0 < k → k < n → par k = i → v i ≤ v k) : HeapV v n := by
  intro k k0 kn
  by_cases e : par k = i
  · rw [e]; exact hc k k0 kn e
  · exact h.1 k k0 kn e (fun _ => by omega)
theorem down_stays {v : Nat → Nat} {n i : Nat} (h : DownOk v n i i) (hc : ∀ k, 0 < k → k < n → par k = i → v i ≤ v k) : UpOk v n i := by
  refine ⟨fun k k0 kn ki => ?_, h.2⟩
  by_cases e : par k = i
  · rw [e]; exact hc k k0 kn e
  · exact h.1 k k0 kn e (fun e => absurd e ki)
/-- One place has another: what must be done. -/
theorem fix_ok {v v' : Nat → Nat} {n N i : Nat} (h : HeapV v N) (hn : n ≤ N) (hv : ∀ k, k < n → k ≠ i → v' k = v k) (hi : i < n) : DownOk v' n i i := by
  refine ⟨fun k k0 kn kp ki => ?_, fun i0 k k0 kn kp => ?_⟩
  · have hk : par k < k := by unfold par; omega
    rw [hv k kn (fun e => ki e rfl), hv (par k) (by omega) kp]
    exact h k k0 (by omega)
  · have hk : par i < i := by unfold par; omega
    have hk2 : par k < k := by unfold par; omega
    rw [hv (par i) (by omega) (by omega), hv k kn (by omega)]
    have h1 := h i i0 (by omega)
    have h2 := h k k0 (by omega)
    rw [kp] at h2
    omega
theorem push_ok {v v' : Nat → Nat} {n : Nat} (h : HeapV v n) (hv : ∀ k, k < n → v' k = v k) : UpOk v' (n + 1) n := by
  refine ⟨fun k k0 kn kp => ?_, fun _ k k0 kn kp => ?_⟩
  · have hk : par k < k := by unfold par; omega
    rw [hv k (by omega), hv (par k) (by omega)]
    exact h k k0 (by omega)
  · have hk : par k < k := by unfold par; omega
    omega
theorem heap_min {v : Nat → Nat} {n : Nat} (h : HeapV v n) : ∀ k, k < n → v 0 ≤ v k := by
  intro k
  induction k using Nat.strongRecOn with
  | ind k ih =>
    intro hk
    by_cases e : k = 0
    · rw [e]; exact Nat.le_refl _
    · have hp : par k < k := by unfold par; omega
      exact Nat.le_trans (ih _ hp (by omega)) (h k (by omega) hk)
theorem HeapV.upto {v v' : Nat → Nat} {n N : Nat} (h : HeapV v N) (hn : n ≤ N) (hv : ∀ k, k < n → v' k = v k) : HeapV v' n := by
  intro k k0 kn
  have hk : par k < k := by unfold par; omega
  rw [hv k kn, hv (par k) (by omega)]
  exact h k k0 (by omega)
structure ItD where
  blk : Nat
  due : DueD
instance : Inhabited ItD := ⟨⟨0, ⟨0, 0⟩⟩⟩
def V (l : List ItD) : Nat → Nat := fun k => ord (l[k]?.getD default).due
theorem V_at {l : List ItD} {k : Nat} (h : k < l.length) : V l k = ord l[k].due := by
  unfold V
  rw [List.getElem?_eq_getElem h]
  rfl
def swapL (l : List ItD) (i j : Nat) : List ItD := (l.set i (l[j]?.getD default)).set j (l[i]?.getD default)
theorem swapL_len (l : List ItD) (i j : Nat) : (swapL l i j).length = l.length := by simp [swapL]
theorem swapL_eq {l : List ItD} {i j : Nat} (hi : i < l.length) (hj : j < l.length) : swapL l i j = (l.set i l[j]).set j l[i] := by
  unfold swapL
  rw [List.getElem?_eq_getElem hi, List.getElem?_eq_getElem hj]
  rfl
theorem swapL_perm {l : List ItD} {i j : Nat} (hi : i < l.length) (hj : j < l.length) : (swapL l i j).Perm l := by
  rw [swapL_eq hi hj]
  exact List.set_set_perm hi hj
theorem swapL_get {l : List ItD} {i j : Nat} (hi : i < l.length) (hj : j < l.length) (k : Nat) : (swapL l i j)[k]? = if k = j then l[i]? else if k = i then l[j]? else l[k]? := by
  rw [swapL_eq hi hj, List.getElem?_set, List.getElem?_set, List.length_set]
  by_cases e : j = k
  · subst e
    rw [if_pos rfl, if_pos hj, if_pos rfl, List.getElem?_eq_getElem hi]
  · rw [if_neg e, if_neg (fun h : k = j => e h.symm)]
    by_cases e2 : i = k
    · subst e2
      rw [if_pos rfl, if_pos rfl, if_pos hi, List.getElem?_eq_getElem hj]
    · rw [if_neg e2, if_neg (fun h : k = i => e2 h.symm)]
theorem swapL_V {l : List ItD} {i j : Nat} (hi : i < l.length) (hj : j < l.length) : V (swapL l i j) = swapV (V l) i j := by
  funext k
  unfold V swapV
  rw [swapL_get hi hj]
  by_cases e : k = j
  · subst e
    rw [if_pos rfl]
    by_cases e2 : k = i
    · subst e2
      rw [if_pos rfl]
    · rw [if_neg e2, if_pos rfl]
  · rw [if_neg e, if_neg e]
    by_cases e2 : k = i
    · rw [if_pos e2, if_pos e2]
    · rw [if_neg e2, if_neg e2]
def SortedD (m : List DueD) : Prop := m.Pairwise (fun a b => ord a < ord b)
theorem sorted_ord {m : List DueD} (h : SortedD m) {a b : DueD} (ha : a ∈ m) (hb : b ∈ m) (he : ord a = ord b) : a = b := by
  induction m with
  | nil => cases ha
  | cons x m ih =>
    rcases List.pairwise_cons.1 h with ⟨h1, h2⟩
    rcases List.mem_cons.1 ha with e1 | e1 <;> rcases List.mem_cons.1 hb with e2 | e2
    · rw [e1, e2]
    · have := h1 b e2; subst e1; omega
    · have := h1 a e1; subst e2; omega
    · exact ih h2 e1 e2
theorem sorted_head {x : DueD} {m : List DueD} (h : SortedD (x :: m)) {a : DueD} (ha : a ∈ x :: m) : ord x ≤ ord a := by
  rcases List.pairwise_cons.1 h with ⟨h1, h2⟩
  rcases List.mem_cons.1 ha with e1 | e1
  · rw [e1]; exact Nat.le_refl _
  · exact Nat.le_of_lt (h1 a e1)
/-- What lies ahead in a heap is the least. -/
theorem head_is {l : List ItD} {x : DueD} {m : List DueD} (hp : (l.map ItD.due).Perm (x :: m)) (hs : SortedD (x :: m)) (hh : HeapV (V l) l.length) : ∃ (h : 0 < l.length), l[0].due = x := by
  have hl : l.length = m.length + 1 := by have := hp.length_eq; simpa using this
  have h0 : 0 < l.length := by omega
  refine ⟨h0, ?_⟩
  have hm : l[0].due ∈ x :: m := hp.mem_iff.1 (List.mem_map.2 ⟨_, List.getElem_mem h0, rfl⟩)
  obtain ⟨i, hi, e⟩ := List.mem_map.1 (hp.mem_iff.2 (List.mem_cons_self : x ∈ x :: m))
  obtain ⟨k, hk, rfl⟩ := List.mem_iff_getElem.1 hi
  have h1 := heap_min hh k hk
  rw [V_at h0, V_at hk, e] at h1
  exact sorted_ord hs hm List.mem_cons_self (Nat.le_antisymm h1 (sorted_head hs hm))
def isKey (k : Nat) (d : DueD) : Bool := d.key == k
def delR (m : List DueD) (k : Nat) : List DueD := m.eraseP (isKey k)
def hasR (m : List DueD) (k : Nat) : Bool := m.any (isKey k)
def atR (m : List DueD) (k : Nat) : Option Nat := (m.find? (isKey k)).map DueD.at_
def ahead (x : Nat) (d : DueD) : Bool := decide (ord d < x)
def insR (m : List DueD) (x : DueD) : List DueD := m.takeWhile (ahead (ord x)) ++ x :: m.dropWhile (ahead (ord x))
def setR (m : List DueD) (k a : Nat) : List DueD := insR (delR m k) ⟨k, a⟩
def isDue (now : Nat) (d : DueD) : Bool := decide (d.at_ ≤ now)
def popR (m : List DueD) (now : Nat) : List Nat × List DueD := ((m.takeWhile (isDue now)).map DueD.key, m.dropWhile (isDue now))
/-- Of each key one, in order. -/
structure Ok (m : List DueD) : Prop where
  sorted : SortedD m
  keys : (m.map DueD.key).Nodup
  lt : ∀ d ∈ m, d.key < 18446744073709551616 ∧ d.at_ < 18446744073709551616
theorem Ok.nil : Ok [] := ⟨List.Pairwise.nil, List.Pairwise.nil, fun _ h => by cases h⟩
theorem Ok.sub {m m' : List DueD} (h : Ok m) (hs : m'.Sublist m) : Ok m' :=
  ⟨List.Pairwise.sublist hs h.sorted, List.Pairwise.sublist (hs.map _) h.keys, fun d hd => h.lt d (hs.subset hd)⟩
theorem Ok.tail {x : DueD} {m : List DueD} (h : Ok (x :: m)) : Ok m := h.sub (List.sublist_cons_self _ _)
theorem Ok.del {m : List DueD} (h : Ok m) (k : Nat) : Ok (delR m k) := h.sub List.eraseP_sublist
theorem Ok.pop {m : List DueD} (h : Ok m) (now : Nat) : Ok (popR m now).2 := h.sub (List.dropWhile_sublist _)
theorem key_uniq {m : List DueD} (h : (m.map DueD.key).Nodup) {a b : DueD} (ha : a ∈ m) (hb : b ∈ m) (he : a.key = b.key) : a = b := by
  induction m with
  | nil => cases ha
  | cons x m ih =>
    rw [List.map_cons] at h
    rcases List.nodup_cons.1 h with ⟨h1, h2⟩
    rcases List.mem_cons.1 ha with e1 | e1 <;> rcases List.mem_cons.1 hb with e2 | e2
    · rw [e1, e2]
    · subst e1; exact absurd (List.mem_map.2 ⟨b, e2, he.symm⟩) h1
    · subst e2; exact absurd (List.mem_map.2 ⟨a, e1, he⟩) h1
    · exact ih h2 e1 e2
theorem isKey_iff (k : Nat) (d : DueD) : isKey k d = true ↔ d.key = k := by unfold isKey; exact beq_iff_eq
theorem del_perm {m : List DueD} {d : DueD} (h : (m.map DueD.key).Nodup) (hd : d ∈ m) : m.Perm (d :: delR m d.key) := by
  induction m with
  | nil => cases hd
  | cons x m ih =>
    rw [List.map_cons] at h
    rcases List.nodup_cons.1 h with ⟨h1, h2⟩
    unfold delR
    by_cases e : x.key = d.key
    · rw [List.eraseP_cons_of_pos ((isKey_iff _ _).2 e)]
      rcases List.mem_cons.1 hd with e1 | e1
      · rw [e1]
      · exact absurd (List.mem_map.2 ⟨d, e1, e.symm⟩) h1
    · rw [List.eraseP_cons_of_neg (fun h => e ((isKey_iff _ _).1 h))]
      rcases List.mem_cons.1 hd with e1 | e1
      · exact absurd (by rw [e1]) e
      · exact (List.Perm.cons x (ih h2 e1)).trans (List.Perm.swap d x _)
theorem del_none {m : List DueD} {k : Nat} (h : ∀ d ∈ m, d.key ≠ k) : delR m k = m := List.eraseP_of_forall_not fun d hd hk => h d hd ((isKey_iff _ _).1 hk)
theorem has_iff {m : List DueD} {k : Nat} : hasR m k = true ↔ ∃ d ∈ m, d.key = k := by
  unfold hasR
  rw [List.any_eq_true]
  exact ⟨fun ⟨d, h1, h2⟩ => ⟨d, h1, (isKey_iff _ _).1 h2⟩, fun ⟨d, h1, h2⟩ => ⟨d, h1, (isKey_iff _ _).2 h2⟩⟩
theorem has_false {m : List DueD} {k : Nat} : hasR m k = false ↔ ∀ d ∈ m, d.key ≠ k := by
  rw [← Bool.not_eq_true, has_iff]
  exact ⟨fun h d hd e => h ⟨d, hd, e⟩, fun h ⟨d, hd, e⟩ => h d hd e⟩
theorem at_of {m : List DueD} (h : (m.map DueD.key).Nodup) {d : DueD} (hd : d ∈ m) : atR m d.key = some d.at_ := by
  unfold atR
  rcases hf : m.find? (isKey d.key) with _ | x
  · exact absurd ((isKey_iff _ _).2 rfl) (List.find?_eq_none.1 hf d hd)
  · have h1 := List.mem_of_find?_eq_some hf
    have h2 := (isKey_iff _ _).1 (List.find?_some hf)
    rw [key_uniq h h1 hd h2]
    rfl
theorem at_none {m : List DueD} {k : Nat} (h : ∀ d ∈ m, d.key ≠ k) : atR m k = none := by
  unfold atR
  rw [List.find?_eq_none.2 fun d hd hk => h d hd ((isKey_iff _ _).1 hk)]
  rfl
theorem del_gone {m : List DueD} (h : (m.map DueD.key).Nodup) (k : Nat) : ∀ d ∈ delR m k, d.key ≠ k := by
  intro d hd e
  subst e
  have hdm : d ∈ m := List.eraseP_sublist.subset hd
  have hp := (del_perm h hdm).map DueD.key
  have := hp.nodup_iff.1 h
  rw [List.map_cons] at this
  exact (List.nodup_cons.1 this).1 (List.mem_map.2 ⟨d, hd, rfl⟩)
theorem ins_perm (m : List DueD) (x : DueD) : (insR m x).Perm (x :: m) := by
  unfold insR
  refine List.perm_middle.trans ?_
  rw [List.takeWhile_append_dropWhile]
theorem ord_inj {a b : DueD} (ha : a.key < 18446744073709551616) (hb : b.key < 18446744073709551616) (h : ord a = ord b) : a.key = b.key := by
  unfold ord at h
  omega
theorem dropWhile_sorted {m : List DueD} (h : SortedD m) (x : Nat) : ∀ d ∈ m.dropWhile (ahead x), x ≤ ord d := by
  induction m with
  | nil => intro d hd; cases hd
  | cons y m ih =>
    rcases List.pairwise_cons.1 h with ⟨h1, h2⟩
    by_cases e : ord y < x
    · rw [List.dropWhile_cons_of_pos (show ahead x y = true from decide_eq_true e)]
      exact ih h2
    · rw [List.dropWhile_cons_of_neg (by unfold ahead; simpa using e)]
      intro d hd
      have := sorted_head h hd
      omega
theorem mem_takeWhile {α : Type} {p : α → Bool} {m : List α} : ∀ d ∈ m.takeWhile p, p d = true := by
  induction m with
  | nil => intro d hd; cases hd
  | cons y m ih =>
    intro d hd
    by_cases e : p y = true
    · rw [List.takeWhile_cons_of_pos e] at hd
      rcases List.mem_cons.1 hd with h | h
      · rw [h]; exact e
      · exact ih d h
    · rw [List.takeWhile_cons_of_neg e] at hd
      cases hd
theorem Ok.ins {m : List DueD} (h : Ok m) {x : DueD} (hx : ∀ d ∈ m, d.key ≠ x.key) (hk : x.key < 18446744073709551616) (ha : x.at_ < 18446744073709551616) : Ok (insR m x) := by
  have hp := ins_perm m x
  refine ⟨?_, ?_, fun d hd => ?_⟩
  · unfold insR SortedD
    refine List.pairwise_append.2 ⟨List.Pairwise.sublist (List.takeWhile_sublist _) h.sorted, List.pairwise_cons.2 ⟨fun d hd => ?_, List.Pairwise.sublist (List.dropWhile_sublist _) h.sorted⟩, fun a ha1 b hb1 => ?_⟩
    · have h1 := dropWhile_sorted h.sorted (ord x) d hd
      have hdm := (List.dropWhile_sublist _).subset hd
      have h2 : ord x ≠ ord d := fun e => hx d hdm (ord_inj (h.lt d hdm).1 hk e.symm)
      omega
    · have h1 := of_decide_eq_true (mem_takeWhile a ha1)
      rcases List.mem_cons.1 hb1 with e | e
      · rw [e]; exact h1
      · have := dropWhile_sorted h.sorted (ord x) b e
        omega
  · refine ((hp.map DueD.key).nodup_iff).2 ?_
    rw [List.map_cons]
    exact List.nodup_cons.2 ⟨fun hm => by obtain ⟨d, hd, e⟩ := List.mem_map.1 hm; exact hx d hd e, h.keys⟩
  · rcases List.mem_cons.1 (hp.mem_iff.1 hd) with e | e
    · rw [e]; exact ⟨hk, ha⟩
    · exact h.lt d e
theorem Ok.set {m : List DueD} (h : Ok m) {k a : Nat} (hk : k < 18446744073709551616) (ha : a < 18446744073709551616) : Ok (setR m k a) := (h.del k).ins (del_gone h.keys k) hk ha
theorem set_perm (m : List DueD) (k a : Nat) : (setR m k a).Perm (⟨k, a⟩ :: delR m k) := ins_perm _ _
end Ti
end Go.Proofs.Ytpcmlopbkehffaa

/-
  Rows of things of K cells each, whatever they are: how they read, where they lie, such rows of the call's own, appending to them.
-/
namespace Go.Proofs.Ytpcmlopbkehffaa
set_option linter.unusedSimpArgs false
set_option linter.unusedVariables false
open Go.RowKit

/-- A value is answered, and the world stays. -/
def RetV (w : World) (v : Value) (e : Ending) (w' : World) : Prop := e = .returned v ∧ w = w'
theorem retV_mk {w : World} {v v' : Value} (h : v = v') : RetV w v (.returned v') w := ⟨by rw [h], rfl⟩
/-- A value is answered, and what lay below block B stays. -/
def RetB (B : Nat) (w : World) (v : Value) (e : Ending) (w' : World) : Prop := e = .returned v ∧ Below B w w'
theorem retB_mk {B : Nat} {w w' : World} {v v' : Value} (h : v = v') (hb : Below B w w') : RetB B w v (.returned v') w' := ⟨by rw [h], hb⟩

/-- How a thing lies in memory: K cells. -/
structure Enc (α : Type) where
  cf : α → List Value
  K : Nat
  len : ∀ x, (cf x).length = K
  pos : 0 < K
  one : ∀ x, ∀ u ∈ cf x, u.oneCell' = true
namespace Enc
set_option linter.unusedSimpArgs false
set_option linter.unusedVariables false
variable {α : Type} (E : Enc α)
def all (ss : List α) : List Value := ss.flatMap E.cf
theorem all_nil : E.all [] = [] := rfl
theorem all_length (ss : List α) : (E.all ss).length = ss.length * E.K := by
  induction ss with
  | nil => simp [all]
  | cons s ss ih =>
    rw [all, List.flatMap_cons, List.length_append, E.len, show (ss.flatMap E.cf).length = ss.length * E.K from ih, List.length_cons, Nat.add_mul]
    omega
theorem all_append (a b : List α) : E.all (a ++ b) = E.all a ++ E.all b := by simp [all]
theorem all_one (ss : List α) : ∀ u ∈ E.all ss, u.oneCell' = true := by
  intro u hu
  obtain ⟨s, _, h⟩ := List.mem_flatMap.1 hu
  exact E.one s u h
theorem all_get : ∀ (ss : List α) {k : Nat} (h : k < ss.length) (j : Nat), j < E.K → (E.all ss)[k * E.K + j]? = (E.cf ss[k])[j]?
  | s :: ss, 0, _, j, hj => by
    rw [all, List.flatMap_cons, Nat.zero_mul, Nat.zero_add, List.getElem?_append_left (by rw [E.len]; exact hj)]
    rfl
  | s :: ss, k + 1, h, j, hj => by
    have e : (k + 1) * E.K + j - E.K = k * E.K + j := by rw [Nat.add_mul]; omega
    rw [all, List.flatMap_cons, List.getElem?_append_right (by rw [E.len, Nat.add_mul]; omega), E.len, e]
    exact all_get ss (by simpa using h) j hj
theorem all_ne {ss : List α} (h : ss ≠ []) : E.all ss ≠ [] := by
  intro e
  have h1 := E.all_length ss
  have h2 := List.length_pos_iff.2 h
  have h3 := Nat.mul_pos h2 E.pos
  rw [e, List.length_nil] at h1
  omega
theorem all_take (ss : List α) (m : Nat) : (E.all ss).take (m * E.K) = E.all (ss.take m) := by
  induction ss generalizing m with
  | nil => simp [all]
  | cons s ss ih =>
    rcases m with _ | m
    · simp [all]
    · have ih' : List.take (m * E.K) (List.flatMap E.cf ss) = List.flatMap E.cf (ss.take m) := ih m
      have e : (m + 1) * E.K - E.K = m * E.K := by rw [Nat.add_mul]; omega
      rw [all, List.flatMap_cons, List.take_succ_cons, all, List.flatMap_cons, List.take_append, List.take_of_length_le (by rw [E.len, Nat.add_mul]; omega), E.len, e, ih']
theorem all_drop (ss : List α) (m : Nat) : (E.all ss).drop (m * E.K) = E.all (ss.drop m) := by
  induction ss generalizing m with
  | nil => simp [all]
  | cons s ss ih =>
    rcases m with _ | m
    · simp [all]
    · have ih' : List.drop (m * E.K) (List.flatMap E.cf ss) = List.flatMap E.cf (ss.drop m) := ih m
      have e : (m + 1) * E.K - E.K = m * E.K := by rw [Nat.add_mul]; omega
      rw [all, List.flatMap_cons, List.drop_succ_cons, all, List.drop_append, List.drop_eq_nil_of_le (by rw [E.len, Nat.add_mul]; omega), E.len, e, ih', List.nil_append]
/-- The slice with this place, length and room reads as these things. -/
structure Row (w : World) (A : Option Addr) (n c : Nat) (ss : List α) : Prop where
  holds : Holds w A (E.all ss)
  len : ss.length = n
  cap : n ≤ c
  max : c ≤ 9223372036854775807
  nil : A = .none → c = 0
variable {E}
theorem Row.none (w : World) : E.Row w .none 0 0 [] := ⟨Holds.nil _ _, rfl, Nat.le_refl _, by omega, fun _ => rfl⟩
theorem Row.keep {w w' : World} {A : Option Addr} {n c : Nat} {ss : List α} (h : E.Row w A n c ss) (hk : ∀ p : Addr, p.block < w.heap.size → w'.cell? p = w.cell? p) : E.Row w' A n c ss :=
  ⟨h.holds.keep hk, h.len, h.cap, h.max, h.nil⟩
theorem Row.below {w w' : World} {A : Option Addr} {n c : Nat} {ss : List α} (h : E.Row w A n c ss) (hb : Below w.heap.size w w') : E.Row w' A n c ss := h.keep fun _ hp => hb.cell hp
theorem Row.le {w : World} {A : Option Addr} {n c : Nat} {ss : List α} (h : E.Row w A n c ss) : n ≤ 9223372036854775807 := Nat.le_trans h.cap h.max
/-- One of its things. -/
theorem Row.at_ {w : World} {A : Option Addr} {n c : Nat} {ss : List α} (h : E.Row w A n c ss) {k : Nat} (hk : k < ss.length) :
    ∃ b off, A = some ⟨b, off, .none⟩ ∧ b < w.heap.size ∧ ∀ j u, (E.cf ss[k])[j]? = some u → w.cell? ⟨b, off + k * E.K + j, .none⟩ = some u := by
  obtain ⟨b, off, e, hc⟩ := h.holds (E.all_ne (by rintro rfl; simp at hk))
  have key : ∀ j u, (E.cf ss[k])[j]? = some u → w.cell? ⟨b, off + k * E.K + j, .none⟩ = some u := by
    intro j u hu
    have hj : j < E.K := by
      have := (List.getElem?_eq_some_iff.1 hu).1
      rwa [E.len] at this
    rw [Nat.add_assoc]
    exact hc _ u (by rw [E.all_get ss hk j hj]; exact hu)
  refine ⟨b, off, e, ?_, key⟩
  have h0 : 0 < (E.cf ss[k]).length := by rw [E.len]; exact E.pos
  exact lt_of_cell (key 0 _ (List.getElem?_eq_getElem h0))
theorem Row.upto {w : World} {A : Option Addr} {n c : Nat} {ss : List α} (h : E.Row w A n c ss) (m : Nat) (hm : m ≤ n) : E.Row w A m c (ss.take m) :=
  ⟨by rw [← E.all_take]; exact h.holds.take _, by rw [List.length_take, h.len]; omega, by have := h.cap; omega, h.max, h.nil⟩
/-- The place of s[m:], as the model has it, where a thing has K cells. -/
def cutAtK (A : Option Addr) (c m K : Nat) : Option Addr := if c = m then A else A.map fun x => x.add (m * K)
theorem Row.from_ {w : World} {A : Option Addr} {n c : Nat} {ss : List α} (h : E.Row w A n c ss) (m : Nat) (hm : m ≤ n) : E.Row w (cutAtK A c m E.K) (n - m) (c - m) (ss.drop m) := by
  have hcap := h.cap
  have hmax := h.max
  have hlen := h.len
  refine ⟨?_, by rw [List.length_drop, h.len], by omega, by omega, ?_⟩
  · unfold cutAtK
    by_cases e : c = m
    · rw [if_pos e, List.drop_eq_nil_of_le (by omega)]; exact Holds.nil _ _
    · rw [if_neg e, ← E.all_drop]; exact h.holds.drop _
  · intro e
    unfold cutAtK at e
    split at e
    · omega
    · rcases A with _ | a
      · have := h.nil rfl; omega
      · cases e
variable (E)
/-- Such a row of the call's own, from block B on; e is the things' type. -/
def Own (e : TypeId) (B : Nat) (w : World) (A : Option Addr) (n c : Nat) (ss : List α) : Prop := w.ownsRow B e E.K (.slice A n c) n (E.all ss)
variable {E} {e : TypeId}
theorem Own.none (B : Nat) (w : World) : E.Own e B w .none 0 0 [] := World.ownsRow_nil w B _ _
theorem Own.len {B : Nat} {w : World} {A : Option Addr} {n c : Nat} {ss : List α} (h : E.Own e B w A n c ss) : ss.length = n := by
  have := h.1
  rw [all_length] at this
  exact Nat.eq_of_mul_eq_mul_right E.pos this
theorem Own.row {B : Nat} {w : World} {A : Option Addr} {n c : Nat} {ss : List α} (h : E.Own e B w A n c ss) : E.Row w A n c ss := by
  have hh := own_holds h
  have hl := h.len
  obtain ⟨hx, ⟨e', _⟩ | ⟨g, cap, cur, e', hg, _, hnc, hcm, hs, hc⟩⟩ := h
  · injection e' with a b c
    subst a
    subst c
    exact ⟨hh, hl, by omega, by omega, fun _ => rfl⟩
  · injection e' with a b c
    subst a c
    unfold maxLen at hcm
    exact ⟨hh, hl, hnc, by omega, fun e => by cases e⟩
theorem Own.from_ {B : Nat} {w : World} {A : Option Addr} {n c : Nat} {ss : List α} (h : E.Own e B w A n c ss) : ∀ k, (Value.slice A n c).ownBlock = some k → B ≤ k ∧ k < w.heap.size := World.ownsRow.lt h
theorem Own.later {B : Nat} {w w' : World} {A : Option Addr} {n c : Nat} {ss : List α} (h : E.Own e B w A n c ss) (hb : Below w.heap.size w w') : E.Own e B w' A n c ss := by
  obtain ⟨hx, h | ⟨g, cap, cur, e', hg, hh, r⟩⟩ := h
  · exact ⟨hx, .inl h⟩
  · refine ⟨hx, .inr ⟨g, cap, cur, e', hg, ?_, r⟩⟩
    have hlt : g < w.heap.size := (Array.getElem?_eq_some_iff.1 hh).1
    rw [← hh]
    exact hb.block g hlt
theorem Own.mono {B B' : Nat} {w : World} {A : Option Addr} {n c : Nat} {ss : List α} (h : E.Own e B w A n c ss) (hB : B' ≤ B) : E.Own e B' w A n c ss := by
  obtain ⟨hx, h | ⟨g, cap, cur, e', hg, hh, r⟩⟩ := h
  · exact ⟨hx, .inl h⟩
  · exact ⟨hx, .inr ⟨g, cap, cur, e', by omega, hh, r⟩⟩
theorem Own.at_ {B : Nat} {w : World} {A : Option Addr} {n n' c : Nat} {l l' : List α} (h : E.Own e B w A n c l) (e1 : n = n') (e2 : l = l') : E.Own e B w A n' c l' := by subst e1 e2; exact h
theorem Own.kept {B : Nat} {w w' : World} {A : Option Addr} {n c : Nat} {l : List α} {row : Option Nat} (h : E.Own e B w A n c l) (hg : w.grownBy w' row) (hne : (Value.slice A n c).ownBlock = .none ∨ (Value.slice A n c).ownBlock ≠ row) : E.Own e B w' A n c l :=
  World.ownsRow.kept h hg hne
/-- A row of the call's own that lies behind block B is kept where one that lies before it grows. -/
theorem Own.apart {B : Nat} {w w' : World} {A : Option Addr} {n c : Nat} {l : List α} {row : Option Nat} (h : E.Own e B w A n c l) (hg : w.grownBy w' row) (hr : ∀ k, row = some k → k < B) : E.Own e B w' A n c l := by
  refine h.kept hg ?_
  rcases hA : (Value.slice A n c).ownBlock with _ | k
  · exact .inl rfl
  · refine .inr fun e => ?_
    have h1 := (h.from_ k hA).1
    have h2 := hr k e.symm
    omega
/-- Where a row of the call's own lies that is not empty. -/
theorem Own.place {B : Nat} {w : World} {A : Option Addr} {n c : Nat} {ss : List α} (h : E.Own e B w A n c ss) (hn : 0 < n) : ∃ g, A = some ⟨g, 0, .none⟩ ∧ B ≤ g ∧ g < w.heap.size ∧ n ≤ c := own_place h hn
/-- A literal row. -/
theorem own_litK (w : World) (ss : List α) (cs : Array Value) (hcs : cs.toList = E.all ss) (n : Nat) (hn : ss.length = n) (hm : n * E.K ≤ 9223372036854775807) (B : Nat) (hB : B ≤ w.heap.size) :
    E.Own e B (w.alloc (.cells cs e)) (some ⟨w.heap.size, 0, .none⟩) n n ss := by
  have hl := E.all_length ss
  have hpos := E.pos
  have hnm : n ≤ n * E.K := Nat.le_mul_of_pos_right n hpos
  refine ⟨by rw [hl, hn], .inr ⟨w.heap.size, n, cs, rfl, hB, heap_alloc_new w _, Nat.le_refl _, by unfold maxLen; omega, ?_, ?_⟩⟩
  · rw [← Array.length_toList, hcs, hl, hn]
  · rw [hcs, List.take_of_length_le (by rw [hl, hn]; omega)]
/-- One thing, laid in a block of its own. -/
theorem row_new (w : World) (s : α) (cs : Array Value) (hcs : cs.toList = E.cf s) (T : TypeId) : E.Row (w.alloc (.cells cs T)) (some ⟨w.heap.size, 0, .none⟩) 1 1 [s] := by
  refine ⟨fun _ => ⟨w.heap.size, 0, rfl, fun k u hu => ?_⟩, rfl, Nat.le_refl _, by omega, fun e => by cases e⟩
  have hu' : (E.cf s)[k]? = some u := by simpa [all] using hu
  rw [World.cell?_alloc_mark, Nat.zero_add, ← Array.getElem?_toList, hcs]
  exact hu'
/-- append(s, x..), s a row of the call's own. -/
theorem wpList_rows {w : World} {ops : Array Oper} {rest : List Oper} {o : Oper} {a : Act} {Q : Exit → Act → World → Prop} (hgd : Region.wanted o (yielded ops a.tmps) = true) (s x : Operand) (t : TypeId)
    (ho : o.op = .call { callee := .builtin .append, args := #[s, x], argTypes := #[t, t] })
    (z : Value) (by_ : Nat) (ht : Try.prog.underlying t = some (.slice e)) (hinfo : (Try.prog.info? e).map (fun i => (i.zero, i.size, i.bytes)) = some (some z, E.K, by_)) (hz : z.cells.size = E.K)
    (B : Nat) (A0 : Option Addr) (n0 c0 : Nat) (l0 : List α) (hs : a.eval s = .slice A0 n0 c0) (hown : E.Own e B w A0 n0 c0 l0)
    (A : Option Addr) (m c : Nat) (l : List α) (hx : a.eval x = .slice A m c) (hl : E.Row w A m c l)
    (N : Nat) (ys : List α) (hN : n0 + m = N) (hys : l0 ++ l = ys) (hroom : N * by_ ≤ 140737488355328) (hlen : N ≤ 1000000000000) (hB : B ≤ w.heap.size)
    (h : ∀ A' c' w', E.Own e B w' A' N c' ys → Below B w w' → w.grownBy w' (Value.slice A0 n0 c0).ownBlock →
      ((Value.slice A' N c').ownBlock = (Value.slice A0 n0 c0).ownBlock ∨ (Value.slice A' N c').ownBlock = some w.heap.size) → wpList Try.prog ops Q rest (a.put o.dst (.slice A' N c')) w') :
    wpList Try.prog ops Q (o :: rest) a w := by
  subst hys
  obtain ⟨i0, hi0, hz0, hz1, hz2⟩ := info_parts hinfo
  refine wpList_app w hgd s x t ho B e i0 _ E.K by_ ht hi0 hz0 hz1 hz2 hz E.pos (.slice A0 n0 c0) n0 (E.all l0) hs hown A m c (E.all l) hx
    (by rw [all_length, hl.len]) hl.holds hl.nil (E.all_one l) N (E.all (l0 ++ l)) hN (E.all_append l0 l).symm (by unfold maxLen; omega) hroom hB ?_
  intro A' c' w' ho' hg hat
  exact h A' c' w' ho' ((Below.refl B w).grown hg hB (own_from hown)) hg hat
end Enc
end Go.Proofs.Ytpcmlopbkehffaa
