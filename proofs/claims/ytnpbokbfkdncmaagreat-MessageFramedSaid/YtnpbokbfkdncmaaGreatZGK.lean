/-
  Packets as bytes, there and back: plain lists.
-/
import Derived.Test.YtnpbokbfkdncmaaGreatZGA
import Derived.Test.YtnpbokbfkdncmaaGreatZGC
import Derived.Test.YtnpbokbfkdncmaaGreatZGD
import Derived.Test.YtnpbokbfkdncmaaGreatZGJ
namespace Go.Proofs.YtnpbokbfkdncmaaGreat
set_option linter.unusedSimpArgs false
set_option linter.unusedVariables false
open Go.RowKit Ru Fm

def byteI (x : Int) : UInt8 := UInt8.ofNat (x % 256).toNat
theorem byteI_toNat (x : Int) : ((byteI x).toNat : Int) = x % 256 := by
  unfold byteI
  rw [UInt8.toNat_ofNat']
  omega
theorem byteI_nat {n : Nat} (h : n < 256) : (byteI (n : Int)).toNat = n := by
  have := byteI_toNat (n : Int)
  omega
def memB (m : MemberD) : List UInt8 := eight m.id ++ (eight m.inc ++ [byteI m.state])
theorem memB_length (m : MemberD) : (memB m).length = 17 := by simp [memB, eight_length]
def optB (h : Bool) (l : List UInt8) : List UInt8 := if h then l else []
/-- A packet's bytes. -/
def writtenF (p : PackD) : List UInt8 :=
  byteI p.kind :: (optB (partsF p.kind).trace (eight p.trace) ++ (optB (partsF p.kind).ballot (eight p.bn ++ eight p.bnode) ++ (optB (partsF p.kind).answer (flag p.ok :: (eight p.sn ++ eight p.snode)) ++
    (optB (partsF p.kind).verdict [byteI p.v] ++ (optB (partsF p.kind).spans (byteI p.spans.length :: p.spans.flatMap putF) ++ (optB (partsF p.kind).members (byteI p.members.length :: p.members.flatMap memB) ++
      optB (partsF p.kind).ids (byteI p.ids.length :: p.ids.flatMap eight)))))))

/-! ### reading -/
def hd (l : List UInt8) : Nat := (l.getD 0 0).toNat
def spanK (l : List UInt8) : Nat → List SpanD × List UInt8
  | 0 => ([], l)
  | k + 1 => ((spanK l k).1 ++ [(cutSpanF (spanK l k).2).2.1], (cutSpanF (spanK l k).2).2.2)
def memAt (l : List UInt8) : MemberD := ⟨numB l 8, numB (l.drop 8) 8, (hd (l.drop 16) : Nat)⟩
def memK (l : List UInt8) : Nat → List MemberD × List UInt8
  | 0 => ([], l)
  | k + 1 => ((memK l k).1 ++ [memAt (memK l k).2], (memK l k).2.drop 17)
def idK (l : List UInt8) : Nat → List Nat × List UInt8
  | 0 => ([], l)
  | k + 1 => ((idK l k).1 ++ [numB (idK l k).2 8], (idK l k).2.drop 8)
def readF (d : List UInt8) : PackD :=
  let h := partsF (hd d : Nat)
  let d0 := d.drop 1
  let d1 := if h.trace then d0.drop 8 else d0
  let d2 := if h.ballot then d1.drop 16 else d1
  let d3 := if h.answer then d2.drop 17 else d2
  let d4 := if h.verdict then d3.drop 1 else d3
  let d5 := if h.spans then (spanK (d4.drop 1) (hd d4)).2 else d4
  let d6 := if h.members then (memK (d5.drop 1) (hd d5)).2 else d5
  ⟨(hd d : Nat), if h.trace then numB d0 8 else 0, if h.ballot then numB d1 8 else 0, if h.ballot then numB (d1.drop 8) 8 else 0,
    if h.answer then numB (d2.drop 1) 8 else 0, if h.answer then numB (d2.drop 9) 8 else 0, if h.verdict then (hd d3 : Nat) else 0, if h.answer then decide (hd d2 = 1) else false,
    if h.spans then (spanK (d4.drop 1) (hd d4)).1 else [], if h.members then (memK (d5.drop 1) (hd d5)).1 else [], if h.ids then (idK (d6.drop 1) (hd d6)).1 else []⟩

theorem flat_cons {α : Type} (f : α → List UInt8) (ss : List α) {k : Nat} (h : k < ss.length) : (ss.drop k).flatMap f = f ss[k] ++ (ss.drop (k + 1)).flatMap f := by
  rw [List.drop_eq_getElem_cons h, List.flatMap_cons]
theorem spanK_put (ss : List SpanD) (t : List UInt8) (hw : ∀ s ∈ ss, s.Wf) (hr : ∀ s ∈ ss, rightF s = 0) : ∀ k, k ≤ ss.length → spanK (ss.flatMap putF ++ t) k = (ss.take k, (ss.drop k).flatMap putF ++ t) := by
  intro k
  induction k with
  | zero => intro _; simp [spanK]
  | succ k ih =>
    intro hk
    rw [spanK, ih (by omega), flat_cons putF ss (by omega), List.append_assoc, cutSpan_put (hw _ (List.getElem_mem _)) (hr _ (List.getElem_mem _)), List.take_succ_eq_append_getElem (by omega)]
theorem memAt_put {m : MemberD} (hw : m.Wf) (h0 : 0 ≤ m.state) (h2 : m.state ≤ 2) (t : List UInt8) : memAt (memB m ++ t) = m ∧ (memB m ++ t).drop 17 = t := by
  constructor
  · unfold memAt memB
    rw [List.append_assoc, numB_eight _ hw.id, drop8, List.append_assoc, numB_eight _ hw.inc, show 16 = 8 + 8 from rfl, ← List.drop_drop, drop8, drop8]
    have : ((hd ([byteI m.state] ++ t) : Nat) : Int) = m.state := by
      unfold hd
      have := byteI_toNat m.state
      simp
      omega
    rw [this]
  · rw [List.drop_left' (memB_length m)]
theorem memK_put (ss : List MemberD) (t : List UInt8) (hw : ∀ s ∈ ss, s.Wf) (hr : ∀ s ∈ ss, 0 ≤ s.state ∧ s.state ≤ 2) : ∀ k, k ≤ ss.length → memK (ss.flatMap memB ++ t) k = (ss.take k, (ss.drop k).flatMap memB ++ t) := by
  intro k
  induction k with
  | zero => intro _; simp [memK]
  | succ k ih =>
    intro hk
    have hm := memAt_put (hw _ (List.getElem_mem (show k < ss.length by omega))) (hr _ (List.getElem_mem (show k < ss.length by omega))).1 (hr _ (List.getElem_mem (show k < ss.length by omega))).2 ((ss.drop (k + 1)).flatMap memB ++ t)
    rw [memK, ih (by omega), flat_cons memB ss (by omega), List.append_assoc, hm.1, hm.2, List.take_succ_eq_append_getElem (by omega)]
theorem idK_put (ss : List Nat) (t : List UInt8) (hw : ∀ s ∈ ss, s < 18446744073709551616) : ∀ k, k ≤ ss.length → idK (ss.flatMap eight ++ t) k = (ss.take k, (ss.drop k).flatMap eight ++ t) := by
  intro k
  induction k with
  | zero => intro _; simp [idK]
  | succ k ih =>
    intro hk
    rw [idK, ih (by omega), flat_cons eight ss (by omega), List.append_assoc, numB_eight _ (hw _ (List.getElem_mem _)), drop8, List.take_succ_eq_append_getElem (by omega)]

/-! ### what a right packet is -/
theorem inF_iff (n : Nat) : inF n = true ↔ 1 ≤ n ∧ n ≤ 16 := by simp [inF]
theorem spansF_right {tr : Nat} {ss : List SpanD} (h : spansF tr ss = true) : ∀ s ∈ ss, rightF s = 0 := by
  intro s hs
  unfold spansF at h
  rw [Bool.and_eq_true] at h
  have := List.all_eq_true.1 h.1 s hs
  unfold okSpan at this
  rw [Bool.and_eq_true, beq_iff_eq] at this
  exact this.2
theorem membersF_right {ms : List MemberD} (h : membersF ms = true) : ∀ m ∈ ms, 0 ≤ m.state ∧ m.state ≤ 2 := by
  intro m hm
  unfold membersF at h
  rw [Bool.and_eq_true] at h
  have := List.all_eq_true.1 h.1 m hm
  simp [okMem] at this
  omega
structure RightD (p : PackD) : Prop where
  kind : 1 ≤ p.kind ∧ p.kind ≤ 10
  trace : (partsF p.kind).trace = false → p.trace = 0
  ballot : (partsF p.kind).ballot = false → p.bn = 0 ∧ p.bnode = 0
  answer : (partsF p.kind).answer = false → p.ok = false ∧ p.sn = 0 ∧ p.snode = 0
  v : 0 ≤ p.v ∧ p.v ≤ 3
  verdict : (partsF p.kind).verdict = false → p.v = 0
  spans : (partsF p.kind).spans = false → p.spans = []
  spans1 : p.spans.length ≤ 16
  spans2 : ∀ s ∈ p.spans, rightF s = 0
  members : (partsF p.kind).members = false → p.members = []
  members1 : p.members.length ≤ 16
  members2 : ∀ m ∈ p.members, 0 ≤ m.state ∧ m.state ≤ 2
  ids : (partsF p.kind).ids = false → p.ids = []
  ids1 : p.ids.length ≤ 16
theorem length_le {is : Bool} {n : Nat} (h : lengthF is n 16 = true) : n ≤ 16 ∧ (is = false → n = 0) := by
  cases is
  · have : n = 0 := by simpa [lengthF] using h
    exact ⟨by omega, fun _ => this⟩
  · have := (inF_iff n).1 h
    exact ⟨this.2, fun e => by cases e⟩
theorem right_facts {p : PackD} (h : rightP p = true) : RightD p := by
  have hk : 1 ≤ p.kind ∧ p.kind ≤ 10 := by
    by_cases hk : 1 ≤ p.kind ∧ p.kind ≤ 10
    · exact hk
    · unfold rightP at h
      rw [parts_none hk] at h
      cases h
  unfold rightP at h
  simp only [Bool.and_eq_true] at h
  obtain ⟨_, h1, h2, h3⟩ := h
  unfold numbersF at h1
  simp only [Bool.and_eq_true, decide_eq_true_eq, beq_iff_eq] at h1
  obtain ⟨t1, t2, t3, t4⟩ := h1
  unfold listsF at h3
  simp only [Bool.and_eq_true] at h3
  obtain ⟨s1, s2, s3, s4, s5, s6⟩ := h3
  have l1 := length_le s1
  have l2 := length_le s3
  have l3 := length_le s5
  refine ⟨hk, fun e => ?_, fun e => ?_, fun e => ?_, ?_, fun e => ?_, fun e => List.length_eq_zero_iff.1 (l1.2 e), l1.1, spansF_right s2, fun e => List.length_eq_zero_iff.1 (l2.2 e), l2.1, membersF_right s4, fun e => List.length_eq_zero_iff.1 (l3.2 e), l3.1⟩
  · rw [e] at t1
    have := t1.symm
    rw [decide_eq_false_iff_not] at this
    omega
  · rw [e] at t2
    simpa [ballotF] using t2
  · rw [answerF, e] at h2
    simpa [isB] using h2
  · constructor
    · unfold vLeast at t3
      revert t3
      split <;> (try split) <;> omega
    · unfold vMost at t4
      revert t4
      split <;> omega
  · rw [vMost, e] at t4
    have : vLeast (partsF p.kind) ≥ 0 := by unfold vLeast; split <;> (try split) <;> omega
    simp at t4
    omega

theorem hd_cons (c : UInt8) (t : List UInt8) : hd (c :: t) = c.toNat := rfl
theorem drop1 (c : UInt8) (t : List UInt8) : (c :: t).drop 1 = t := rfl
theorem hd_flag (b : Bool) (t : List UInt8) : decide (hd (flag b :: t) = 1) = b := by cases b <;> rfl
theorem kind_byte {k : Int} (h : 1 ≤ k ∧ k ≤ 10) (t : List UInt8) : ((hd (byteI k :: t) : Nat) : Int) = k := by
  rw [hd_cons]
  have := byteI_toNat k
  omega
theorem len_byte {n : Nat} (h : n ≤ 16) (t : List UInt8) : hd (byteI (n : Int) :: t) = n := by
  rw [hd_cons]
  exact byteI_nat (by omega)
theorem v_byte {v : Int} (h : 0 ≤ v ∧ v ≤ 3) (t : List UInt8) : ((hd (byteI v :: t) : Nat) : Int) = v := by
  rw [hd_cons]
  have := byteI_toNat v
  omega
theorem drop16 (a b : Nat) (t : List UInt8) : (eight a ++ (eight b ++ t)).drop 16 = t := by
  rw [show 16 = 8 + 8 from rfl, ← List.drop_drop, drop8, drop8]
theorem drop17 (c : UInt8) (a b : Nat) (t : List UInt8) : (c :: (eight a ++ (eight b ++ t))).drop 17 = t := by
  rw [show 17 = 16 + 1 from rfl, List.drop_succ_cons, drop16]
theorem drop9 (c : UInt8) (a : Nat) (t : List UInt8) : (c :: (eight a ++ t)).drop 9 = t := by
  rw [show 9 = 8 + 1 from rfl, List.drop_succ_cons, drop8]
/-- What was written is read as it was. -/
theorem read_written {p : PackD} (hw : p.Wf) (h : RightD p) : readF (writtenF p) = p := by
  have hk := h.kind
  have e0 : ((hd (writtenF p) : Nat) : Int) = p.kind := kind_byte hk _
  have hs := fun t => spanK_put p.spans t hw.spans h.spans2 p.spans.length (Nat.le_refl _)
  have hm := fun t => memK_put p.members t hw.members h.members2 p.members.length (Nat.le_refl _)
  have hi := fun t => idK_put p.ids t hw.ids p.ids.length (Nat.le_refl _)
  simp only [List.take_length, List.drop_length, List.flatMap_nil, List.nil_append] at hs hm hi
  have g1 := h.trace
  have g2 := h.ballot
  have g3 := h.answer
  have g4 := h.verdict
  have g5 := h.spans
  have g6 := h.members
  have g7 := h.ids
  have n5 := len_byte h.spans1
  have n6 := len_byte h.members1
  have n7 := len_byte h.ids1
  have nv := v_byte h.v
  unfold readF
  rw [e0]
  unfold writtenF
  rcases kind_cases hk with e | e | e | e | e | e | e | e | e | e
  all_goals
    rw [e] at g1 g2 g3 g4 g5 g6 g7 ⊢
    simp only [parts_1, parts_2, parts_3, parts_4, parts_5, parts_6, parts_7, parts_8, parts_9, parts_10, optB, if_true, if_false, Bool.false_eq_true, List.nil_append, List.append_nil, drop1, forall_const, reduceCtorEq, false_implies] at g1 g2 g3 g4 g5 g6 g7 ⊢
    have hs' := hs []
    have hm' := hm []
    have hi' := hi []
    simp only [List.append_nil] at hs' hm' hi'
    obtain ⟨k, tr, bn, bd, sn, sd, v, ok, l1, l2, l3⟩ := p
    simp only at *
    have w1 := hw.trace
    have w2 := hw.bn
    have w3 := hw.bnode
    have w4 := hw.sn
    have w5 := hw.snode
    simp only at w1 w2 w3 w4 w5
    have q1 : ∀ t, numB (eight tr ++ t) 8 = tr := numB_eight tr w1
    have q2 : ∀ t, numB (eight bn ++ t) 8 = bn := numB_eight bn w2
    have q3 : ∀ t, numB (eight bd ++ t) 8 = bd := numB_eight bd w3
    have q4 : ∀ t, numB (eight sn ++ t) 8 = sn := numB_eight sn w4
    have q5 : ∀ t, numB (eight sd ++ t) 8 = sd := numB_eight sd w5
    have q5' : numB (eight sd) 8 = sd := by simpa using q5 []
    have q3' : numB (eight bd) 8 = bd := by simpa using q3 []
    have d16 := fun (a b : Nat) => drop16 a b []
    have d17 := fun c (a b : Nat) => drop17 c a b []
    simp only [List.append_nil] at d16 d17
    simp [List.append_assoc, q1, q2, q3, q4, q5, q3', q5', drop8, drop9, drop16, drop17, d16, d17, hd_flag, nv, n5, n6, n7, hs, hm, hi, hs', hm', hi', e]
    try simp_all
theorem flat_le {α : Type} (f : α → List UInt8) (m : Nat) : ∀ (l : List α), (∀ x ∈ l, (f x).length ≤ m) → (l.flatMap f).length ≤ l.length * m
  | [], _ => by simp
  | x :: r, h => by
    have h1 := h x (by simp)
    have h2 := flat_le f m r fun y hy => h y (by simp [hy])
    rw [List.flatMap_cons, List.length_append, List.length_cons, Nat.succ_mul]
    omega
theorem putF_most {s : SpanD} (h : rightF s = 0) : (putF s).length ≤ 107 := by
  obtain ⟨_, h1, h2⟩ := right_zero h
  have := name_sizes h1
  have := name_sizes h2
  rw [putF_length]
  omega
theorem optB_le (h : Bool) (l : List UInt8) : (optB h l).length ≤ l.length := by cases h <;> simp [optB]
theorem written_le {p : PackD} (h : RightD p) : 1 ≤ (writtenF p).length ∧ (writtenF p).length ≤ 8192 := by
  have h1 := flat_le putF 107 p.spans fun s hs => putF_most (h.spans2 s hs)
  have h2 := flat_le memB 17 p.members fun m _ => Nat.le_of_eq (memB_length m)
  have h3 := flat_le eight 8 p.ids fun m _ => Nat.le_of_eq (eight_length m)
  have h4 := h.spans1
  have h5 := h.members1
  have h6 := h.ids1
  have o1 := optB_le (partsF p.kind).trace (eight p.trace)
  have o2 := optB_le (partsF p.kind).ballot (eight p.bn ++ eight p.bnode)
  have o3 := optB_le (partsF p.kind).answer (flag p.ok :: (eight p.sn ++ eight p.snode))
  have o4 := optB_le (partsF p.kind).verdict [byteI p.v]
  have o5 := optB_le (partsF p.kind).spans (byteI p.spans.length :: p.spans.flatMap putF)
  have o6 := optB_le (partsF p.kind).members (byteI p.members.length :: p.members.flatMap memB)
  have o7 := optB_le (partsF p.kind).ids (byteI p.ids.length :: p.ids.flatMap eight)
  unfold writtenF
  simp only [List.length_cons, List.length_append, List.length_nil, eight_length] at *
  omega
/-- What Decode says of bytes. -/
def zeroP : PackD := ⟨0, 0, 0, 0, 0, 0, 0, false, [], [], []⟩
def encF (p : PackD) : List UInt8 := framed (writtenF p)
theorem cut_enc {p : PackD} (h : RightD p) (t : List UInt8) : cutF (encF p ++ t) = (0, writtenF p, t) := cut_framed _ _ (written_le h).2
theorem cut_enc0 {p : PackD} (h : RightD p) : cutF (encF p) = (0, writtenF p, []) := by simpa using cut_enc h []
def decF (b : List UInt8) : Int × PackD :=
  if (cutF b).1 = 0 then if rightP (readF (cutF b).2.1) = true ∧ encF (readF (cutF b).2.1) = b then (0, readF (cutF b).2.1) else (6, zeroP) else ((cutF b).1, zeroP)
theorem dec_enc {p : PackD} (hw : p.Wf) (h : rightP p = true) : decF (encF p) = (0, p) := by
  have hr := right_facts h
  unfold decF
  rw [cut_enc0 hr, if_pos rfl]
  simp only
  rw [read_written hw hr, if_pos ⟨h, rfl⟩]
theorem dec_more {p : PackD} (hw : p.Wf) (h : rightP p = true) (c : UInt8) : decF (encF p ++ [c]) = (6, zeroP) := by
  have hr := right_facts h
  unfold decF
  rw [cut_enc hr, if_pos rfl]
  simp only
  rw [read_written hw hr, if_neg]
  rintro ⟨_, h2⟩
  have := congrArg List.length h2
  simp at this
theorem dec_off {p : PackD} (h : rightP p = true) {k : Nat} (hk : k < (encF p).length) : decF ((encF p).take k) = (3, zeroP) := by
  have hr := right_facts h
  unfold decF
  rw [encF, cut_framed_off _ (written_le hr).2 _ hk, if_neg (by simp)]
theorem enc_inj {p q : PackD} (hp : p.Wf) (hq : q.Wf) (h1 : rightP p = true) (h2 : rightP q = true) (h : encF p = encF q) : p = q := by
  have a := dec_enc hp h1
  rw [h, dec_enc hq h2] at a
  injection a with _ a
  exact a.symm
end Go.Proofs.YtnpbokbfkdncmaaGreat

/-
  What the program's putNumbers and putTruth answer.
-/
namespace Go.Proofs.YtnpbokbfkdncmaaGreat
set_option linter.unusedSimpArgs false
set_option linter.unusedVariables false
open Go.RowKit Ru

/-- A row of bytes of the call's own comes. -/
def RowPost (B : Nat) (w : World) (l : List UInt8) (e : Ending) (w' : World) : Prop := ∃ A n c, e = .returned (.slice A n c) ∧ Own B w' A n c l ∧ Below B w w'
theorem rowPost_mk {B : Nat} {w w' : World} {l l' : List UInt8} {A : Option Addr} {n c : Nat} (h : Own B w' A n c l') (e : l' = l) (hb : Below B w w') : RowPost B w l (.returned (.slice A n c)) w' := ⟨A, n, c, rfl, e ▸ h, hb⟩
/-- What was there, but for that row's own block, is as it was. -/
def Others (w : World) (A : Option Addr) (W : World) : Prop := ∀ g, g < w.heap.size → (∀ a, A = some a → a.block ≠ g) → W.heap[g]? = w.heap[g]?
def Near (w : World) (A A1 : Option Addr) : Prop := ∀ a, A1 = some a → w.heap.size ≤ a.block ∨ ∃ a', A = some a' ∧ a'.block = a.block
theorem Others.refl (w : World) (A : Option Addr) : Others w A w := fun _ _ _ => rfl
theorem Near.refl (w : World) (A : Option Addr) : Near w A A := fun a h => .inr ⟨a, h, rfl⟩
theorem Others.grown {w wr w4 : World} {A A3 : Option Addr} {n c : Nat} {o : Obj} (h : Others w A wr) (hn : Near w A A3) (hs : w.heap.size ≤ wr.heap.size) (hg : (wr.alloc o).grownBy w4 (Value.slice A3 n c).ownBlock) : Others w A w4 := by
  intro g hlt hne
  rw [hg.block g (by simp; omega), Below.heap_alloc wr o g (by omega), h g hlt hne]
  intro e
  rcases A3 with _ | x
  · cases e
  · have h2 : (Value.slice (some x) n c).ownBlock = some x.block := rfl
    rw [h2] at e
    injection e with e
    rcases hn x rfl with h1 | ⟨a', h1, h3⟩
    · omega
    · exact hne a' h1 (by omega)
theorem Near.grown {w wr : World} {A A3 A4 : Option Addr} {n c n' c' : Nat} (hn : Near w A A3) (hs : w.heap.size ≤ wr.heap.size) (h : (Value.slice A4 n' c').ownBlock = (Value.slice A3 n c).ownBlock ∨ (Value.slice A4 n' c').ownBlock = some wr.heap.size) : Near w A A4 := by
  rintro a rfl
  have h1 : (Value.slice (some a) n' c').ownBlock = some a.block := rfl
  rw [h1] at h
  rcases h with h | h
  · rcases A3 with _ | x
    · cases h
    · have h2 : (Value.slice (some x) n c).ownBlock = some x.block := rfl
      rw [h2] at h
      injection h with h
      rw [h]
      exact hn x rfl
  · injection h with h
    exact .inl (by omega)
def RowPost2 (B : Nat) (w : World) (A0 : Option Addr) (l : List UInt8) (e : Ending) (w' : World) : Prop := ∃ A n c, e = .returned (.slice A n c) ∧ Own B w' A n c l ∧ Below B w w' ∧ Others w A0 w'
theorem rowPost2_mk {B : Nat} {w w' : World} {A0 : Option Addr} {l l' : List UInt8} {A : Option Addr} {n c : Nat} (h : Own B w' A n c l') (e : l' = l) (hb : Below B w w') (ho : Others w A0 w') : RowPost2 B w A0 l (.returned (.slice A n c)) w' := ⟨A, n, c, rfl, e ▸ h, hb, ho⟩
theorem int_eq {k : IntKind} {a b : Int} (h : a = b) : Value.int k a = .int k b := by rw [h]
theorem Row.kept_ {w w' : World} {A : Option Addr} {n c : Nat} {vs : List Value} {row : Option Nat} (h : Row w A n c vs) (hg : w.grownBy w' row) (hne : ∀ a, A = some a → some a.block ≠ row) : Row w' A n c vs := by
  refine ⟨fun hn => ?_, h.len, h.cap, h.max, h.nil⟩
  obtain ⟨b, off, e, hc⟩ := h.holds hn
  exact ⟨b, off, e, fun k u hu => hg.cell (hc k u hu) (hne ⟨b, off, Option.none⟩ e)⟩
theorem own_row {A A' : Option Addr} {n n' c c' b : Nat} {w : World} (h : (Value.slice A' n' c').ownBlock = (Value.slice A n c).ownBlock ∨ (Value.slice A' n' c').ownBlock = some w.heap.size) (hA : ∀ a, A = some a → a.block ≠ b) (hb : b < w.heap.size) : ∀ a, A' = some a → a.block ≠ b := by
  rintro a rfl
  have h1 : (Value.slice (some a) n' c').ownBlock = some a.block := rfl
  rw [h1] at h
  rcases h with h | h
  · rcases A with _ | x
    · cases h
    · have h2 : (Value.slice (some x) n c).ownBlock = some x.block := rfl
      rw [h2] at h
      injection h with h
      rw [h]
      exact hA x rfl
  · injection h with h
    omega
theorem row_ne {A : Option Addr} {n c b : Nat} (hA : ∀ a, A = some a → a.block ≠ b) : some b ≠ (Value.slice A n c).ownBlock := by
  rcases A with _ | x
  · intro h; cases h
  · intro h
    have h2 : (Value.slice (some x) n c).ownBlock = some x.block := rfl
    rw [h2] at h
    injection h with h
    exact hA x rfl h.symm
set_option maxHeartbeats 1000000 in
theorem putNumbers_any (B : Nat) (A : Option Addr) (n c : Nat) (l : List UInt8) (A2 : Option Addr) (n2 c2 : Nat) (ns : List Nat) (w : World) (hown : Own B w A n c l) (hr : Row w A2 n2 c2 (idVals ns)) (hB : B ≤ w.heap.size) (hn : n ≤ 1000000) (hm : ns.length ≤ 1000000)
    (hap : ns ≠ [] → ∀ a a2, A = some a → A2 = some a2 → a.block ≠ a2.block) :
    Calls Tryz.prog 43 #[.slice A n c, .slice A2 n2 c2] w (RowPost2 B w A (l ++ ns.flatMap eight)) := by
  obtain rfl : n2 = ns.length := by rw [← hr.len]; simp [idVals]
  have Ho0 := hid_ hown
  have Hr := hid_ hr
  have Hap := hid_ hap
  have hc2 := hr.cap
  have hm2 := hr.max
  clear hown hr hap
  go_enter Tryz.func43, Tryz.ntmps43
  go_wp2_with fail
  go_loopw [0, 6, 7, 10] (fun v _ _ i wr => ∃ (k : Nat) (A1 : Option Addr) (n1 c1 : Nat), k ≤ ns.length ∧ i = .int .i64 (k : Nat) ∧ v = .slice A1 n1 c1 ∧ n1 ≤ n + 8 * k ∧ Hid (Own B wr A1 n1 c1 (l ++ (ns.take k).flatMap eight)) ∧ Hid (Below B w wr) ∧ B ≤ wr.heap.size ∧ Hid (Row wr A2 ns.length c2 (idVals ns)) ∧ Hid (ns ≠ [] → ∀ a a2, A1 = some a → A2 = some a2 → a.block ≠ a2.block) ∧ w.heap.size ≤ wr.heap.size ∧ Hid (Others w A wr) ∧ Hid (Near w A A1)) (fun _ _ _ i _ => ns.length - (intOf i).toNat)
  case atStart => exact ⟨0, A, n, c, by omega, rfl, rfl, by omega, hid_ (by simpa using Ho0.out), hid_ (Below.refl _ _), hB, Hr, Hap, Nat.le_refl _, hid_ (Others.refl _ _), hid_ (Near.refl _ _)⟩
  case round =>
    obtain ⟨k, A1, n1, c1, hk, rfl, rfl, hn1, Ho, Hb, hsz, Hr1, Hap1, hsw, Hot, Hnr⟩ := hrel
    by_cases hlt : k < ns.length
    · obtain ⟨b, off, rfl, hc⟩ := Hr1.out.at_ (k := k) (by simpa [idVals] using hlt)
      have c0 : wr.cell? ⟨b, off + k, none⟩ = some (.int .u64 (ns[k] : Nat)) := by rw [hc]; simp [idVals]
      have hbw := lt_of_cell c0
      clear hc
      have Hts := hid_ (show (ns.take (k + 1)).flatMap eight = (ns.take k).flatMap eight ++ eight ns[k] by rw [List.take_succ_eq_append_getElem hlt, List.flatMap_append, List.flatMap_cons, List.flatMap_nil, List.append_nil])
      have x1 : (k : Int) < (ns.length : Int) := by omega
      have x2 : (0 : Int) ≤ (k : Int) := by omega
      have Hap2 := hid_ (show ∀ a, A1 = some a → a.block ≠ b from fun a e => Hap1.out (fun h0 => by subst h0; simp at hlt) a _ e rfl)
      generalize ns[k] = x at *
      go_wp2_with fail
      clear c0
      go_loopw [0, 7] (fun v i wi => ∃ (j : Nat) (A3 : Option Addr) (c3 : Nat), j ≤ 8 ∧ i = .int .i64 (56 - 8 * (j : Int)) ∧ v = .slice A3 (n1 + j) c3 ∧ Hid (Own B wi A3 (n1 + j) c3 ((l ++ (ns.take k).flatMap eight) ++ eightK x j)) ∧ Hid (Below B w wi) ∧ B ≤ wi.heap.size ∧ b < wi.heap.size ∧ Hid (Row wi (some ⟨b, off, none⟩) ns.length c2 (idVals ns)) ∧ Hid (∀ a, A3 = some a → a.block ≠ b) ∧ w.heap.size ≤ wi.heap.size ∧ Hid (Others w A wi) ∧ Hid (Near w A A3)) (fun _ i _ => (8 + intOf i).toNat)
      case atStart => exact ⟨0, A1, c1, by omega, rfl, rfl, hid_ (by rw [show eightK x 0 = [] from rfl, List.append_nil]; exact Ho.out), Hb, hsz, hbw, Hr1, Hap2, hsw, Hot, Hnr⟩
      case round =>
        obtain ⟨j, A3, c3, hj, rfl, rfl, Ho3, Hb3, hsz3, hbi, Hr3, Hap3, hsw3, Hot3, Hnr3⟩ := hrel
        by_cases hlj : j < 8
        · obtain ⟨m, hm7⟩ : ∃ m : Nat, m = 7 - j := ⟨_, rfl⟩
          have hm56 : (56 : Int) - 8 * (j : Int) = 8 * (m : Int) := by omega
          rw [hm56]
          have Hes := hid_ (show ((l ++ (ns.take k).flatMap eight) ++ eightK x (j + 1)) = ((l ++ (ns.take k).flatMap eight) ++ eightK x j) ++ [byteOf x m] by rw [eightK_succ, hm7]; simp only [List.append_assoc])
          have Hy := hid_ (byte_hi x m)
          have Hm := hid_ (show (8 : Int) * (m : Int) - 8 = 56 - 8 * ((j + 1 : Nat) : Int) by omega)
          have hmin : min (8 * m) 64 = 8 * m := by omega
          clear hm7 hm56
          go_wp2_with (at_builtin; refine wpList_bytesG rfl (.tmp 18) (.tmp 23) rfl B A3 (n1 + j) c3 _ rfl (Ho3.out.alloc _) (some ⟨wr.heap.size, 0, none⟩) 1 1 [byteOf x m] rfl (own_lit wr [byteOf x m] _ (by rw [Hy.out]; rfl) 1 rfl (by omega) wr.heap.size (Nat.le_refl _)).sl (n1 + (j + 1)) _ rfl Hes.out.symm (by omega) (by simp; omega) ?_; intro A4 c4 w4 ho' hb' hg' hw'; have Ho4 := hid_ ho'; have Hb4 := hid_ (Hb3.out.trans (((Below.refl _ _).alloc (by omega) _).trans hb')); have Hr4 := hid_ ((Hr3.out.below ((Below.refl _ _).alloc (by omega) _)).kept_ hg' (fun a e => by cases e; exact row_ne Hap3.out)); have Hap4 := hid_ (own_row hw' Hap3.out (by simp; omega)); have Hot4 := hid_ (Hot3.out.grown Hnr3.out hsw3 hg'); have Hnr4 := hid_ (Hnr3.out.grown (show w.heap.size ≤ (wr.alloc (.cells #[.int .u8 ((x : Int) / 2 ^ (8 * m) % 256)] 5)).heap.size by simp; omega) hw'); have hs4 := hb'.size; simp at hs4; clear ho' hb' hg' hw')
          go_roundw
          case rel => exact ⟨j + 1, A4, c4, by omega, int_eq Hm.out, rfl, Ho4, Hb4, by omega, by omega, Hr4, Hap4, by omega, Hot4, Hnr4⟩
          case measure => simp [intOf]; omega
        · obtain rfl : j = 8 := by omega
          have Hown := hid_ (Ho3.out.at_ rfl (show _ = l ++ (ns.take (k + 1)).flatMap eight by rw [Hts.out, List.append_assoc]; rfl))
          go_wp2_with fail
          go_roundw
          case rel => exact ⟨k + 1, A3, n1 + 8, c3, by omega, by go_num, rfl, by omega, Hown, Hb3, hsz3, Hr3, hid_ (fun _ a a2 e e2 => by cases e2; exact Hap3.out a e), hsw3, Hot3, Hnr3⟩
          case measure => simp [intOf]; omega
    · obtain rfl : k = ns.length := by omega
      go_wp2_with fail
      go_ret
      exact rowPost2_mk Ho.out (by rw [List.take_length]) Hb.out Hot.out
theorem flag_true : flag true = 1 := rfl
theorem flag_false : flag false = 0 := rfl
set_option maxHeartbeats 1000000 in
theorem putTruth_any (B : Nat) (A : Option Addr) (n c : Nat) (l : List UInt8) (t : Bool) (w : World) (hown : Own B w A n c l) (hB : B ≤ w.heap.size) (hn : n ≤ 1000000) :
    Calls Tryz.prog 44 #[.slice A n c, .bool t] w (RowPost B w (l ++ [flag t])) := by
  have Ho := hid_ hown
  clear hown
  cases t
  · go_enter Tryz.func44, Tryz.ntmps44
    go_wp2_with (at_builtin; refine wpList_bytes rfl (.tmp 9) (.tmp 10) rfl B A n c _ rfl (Ho.out.alloc _) (some ⟨w.heap.size, 0, none⟩) 1 1 [0] rfl (own_lit w [0] _ rfl 1 rfl (by omega) w.heap.size (Nat.le_refl _)).sl (n + 1) _ rfl rfl (by omega) (by simp; omega) ?_; intro A4 c4 w4 ho' hb'; have Ho4 := hid_ ho'; have Hb4 := hid_ ((((Below.refl _ _).alloc (by omega) _).trans hb')); clear ho' hb')
    go_ret
    exact rowPost_mk Ho4.out rfl Hb4.out
  · go_enter Tryz.func44, Tryz.ntmps44
    go_wp2_with (at_builtin; refine wpList_bytes rfl (.tmp 6) (.tmp 7) rfl B A n c _ rfl (Ho.out.alloc _) (some ⟨w.heap.size, 0, none⟩) 1 1 [1] rfl (own_lit w [1] _ rfl 1 rfl (by omega) w.heap.size (Nat.le_refl _)).sl (n + 1) _ rfl rfl (by omega) (by simp; omega) ?_; intro A4 c4 w4 ho' hb'; have Ho4 := hid_ ho'; have Hb4 := hid_ ((((Below.refl _ _).alloc (by omega) _).trans hb')); clear ho' hb')
    go_ret
    exact rowPost_mk Ho4.out rfl Hb4.out
end Go.Proofs.YtnpbokbfkdncmaaGreat
