/-
  container/heap's Push and Remove at the items.
-/
import Derived.Test.YtpcmlopbkehffaaZGAD
namespace Go.Proofs.Ytpcmlopbkehffaa
set_option linter.unusedSimpArgs false
set_option linter.unusedVariables false
open Go.RowKit Go.Shelf
namespace Ti
set_option linter.unusedSimpArgs false
set_option linter.unusedVariables false
/-- The items l in a row that may lie nowhere yet. -/
structure ItsA (w : World) (A : Option Addr) (n c : Nat) (l : List ItD) : Prop where
  row : OwnP 0 w A n c (l.map ItD.blk)
  it : ∀ k (h : k < l.length), Whole w l[k].blk 113 (cellsI l[k].due k)
  nd : (l.map ItD.blk).Nodup
  an : ∀ a, (Value.slice A n c).ownBlock = some a → a ∉ l.map ItD.blk
theorem ItsA.len {w : World} {A : Option Addr} {n c : Nat} {l : List ItD} (h : ItsA w A n c l) : l.length = n := by have := h.row.len; rwa [List.length_map] at this
theorem Its.any {w : World} {a n c : Nat} {l : List ItD} (h : Its w a n c l) : ItsA w (some ⟨a, 0, none⟩) n c l := ⟨h.row, h.it, h.nd, fun b hb => by injection hb with hb; exact hb ▸ h.an⟩
theorem itsA_nil (w : World) : ItsA w none 0 0 [] := ⟨Enc.Own.none 0 w, fun k h => absurd h (Nat.not_lt_zero k), List.Pairwise.nil, fun a h => by cases h⟩
theorem mem_lt {w : World} {A : Option Addr} {n c : Nat} {l : List ItD} (h : ItsA w A n c l) {q : Nat} (hq : q ∈ l.map ItD.blk) : q < w.heap.size := by
  obtain ⟨i, hi, rfl⟩ := List.mem_map.1 hq
  obtain ⟨k, hk, rfl⟩ := List.mem_iff_getElem.1 hi
  exact (h.it k hk).lt
/-- What a Push may turn. -/
def PushQ (g q : Nat) (A : Option Addr) (n c : Nat) (l : List ItD) (b : Nat) : Prop := b = g ∨ b = q ∨ (Value.slice A n c).ownBlock = some b ∨ b ∈ l.map ItD.blk
def PushPost (w : World) (g : Nat) (A : Option Addr) (n c : Nat) (l : List ItD) (q : Nat) (d : DueD) (mv : Value) (e : Ending) (w' : World) : Prop :=
  e = .returned (.tuple #[]) ∧ ∃ a c' l', ItsIn w' g a (n + 1) c' l' ∧ Whole w' g 62 #[.slice (some ⟨a, 0, none⟩) (n + 1) c', mv] ∧ l'.Perm (l ++ [⟨q, d⟩]) ∧ HeapV (V l') (n + 1) ∧ Tn (PushQ g q A n c l) w w' ∧ ((Value.slice A n c).ownBlock = some a ∨ w.heap.size ≤ a)
theorem pushed {w w1 : World} {g : Nat} {A : Option Addr} {n c : Nat} {l : List ItD} {q p0 : Nat} {d : DueD} {mv : Value} (hg : Whole w g 62 #[.slice A n c, mv]) (h : ItsA w A n c l)
    (hq : Whole w q 113 (cellsI d p0)) (hgq : g ≠ q) (hA : ∀ a, (Value.slice A n c).ownBlock = some a → a ≠ g ∧ a ≠ q) (hgl : g ∉ l.map ItD.blk) (hql : q ∉ l.map ItD.blk)
    (hk : ∀ k (h : k < l.length), l[k].due.key < 18446744073709551616) (hd : d.key < 18446744073709551616) {a c' : Nat} (hr : OwnP 0 w1 (some ⟨a, 0, none⟩) (n + 1) c' (l.map ItD.blk ++ [q])) (hg1 : Whole w1 g 62 #[.slice (some ⟨a, 0, none⟩) (n + 1) c', mv])
    (hq1 : Whole w1 q 113 (cellsI d n)) (ht : Tn (fun b => b = g ∨ b = q ∨ (Value.slice A n c).ownBlock = some b) w w1) (ha : (Value.slice A n c).ownBlock = some a ∨ w.heap.size ≤ a) : ItsIn w1 g a (n + 1) c' (l ++ [⟨q, d⟩]) := by
  have hn := h.len
  have hal : a ∉ l.map ItD.blk := by
    rcases ha with h1 | h1
    · exact h.an a h1
    · intro hm
      have := mem_lt h hm
      omega
  have haq : a ≠ q := by
    rcases ha with h1 | h1
    · exact (hA a h1).2
    · have := hq.lt
      omega
  have hag : a ≠ g := by
    rcases ha with h1 | h1
    · exact (hA a h1).1
    · have := hg.lt
      omega
  have hm : (l ++ [(⟨q, d⟩ : ItD)]).map ItD.blk = l.map ItD.blk ++ [q] := by rw [List.map_append]; rfl
  refine ⟨⟨by rw [hm]; exact hr, fun k hk2 => ?_, ?_, ?_⟩, hg1.cell 0 _ rfl, ?_, fun k hk2 => ?_⟩
  · by_cases e : k < l.length
    · rw [List.getElem_append_left e]
      have hb : l[k].blk ∈ l.map ItD.blk := List.mem_map.2 ⟨_, List.getElem_mem e, rfl⟩
      refine Whole.tn (h.it k e) ht ?_
      rintro (h1 | h1 | h1)
      · exact hgl (h1 ▸ hb)
      · exact hql (h1 ▸ hb)
      · exact h.an _ h1 hb
    · obtain rfl : k = l.length := by rw [List.length_append, List.length_singleton] at hk2; omega
      rw [List.getElem_append_right (Nat.le_refl _)]
      simp only [Nat.sub_self, List.getElem_singleton]
      rw [hn]
      exact hq1
  · rw [hm]
    refine List.nodup_append.2 ⟨h.nd, List.nodup_cons.2 ⟨List.not_mem_nil, List.Pairwise.nil⟩, fun x hx y hy e => ?_⟩
    rw [List.mem_singleton.1 hy] at e
    exact hql (e ▸ hx)
  · rw [hm, List.mem_append, List.mem_singleton]
    rintro (h1 | h1)
    · exact hal h1
    · exact haq h1
  · unfold ItQ
    rw [hm, List.mem_append, List.mem_singleton]
    rintro (h1 | h1 | h1)
    · exact hag h1.symm
    · exact hgl h1
    · exact hgq h1
  · by_cases e : k < l.length
    · rw [List.getElem_append_left e]; exact hk k e
    · obtain rfl : k = l.length := by rw [List.length_append, List.length_singleton] at hk2; omega
      rw [List.getElem_append_right (Nat.le_refl _)]
      simp only [Nat.sub_self, List.getElem_singleton]
      exact hd
set_option maxHeartbeats 2000000 in
set_option maxRecDepth 100000 in
theorem push_any {w : World} {g : Nat} {A : Option Addr} {n c : Nat} {l : List ItD} {q p0 : Nat} {d : DueD} {mv : Value} (hg : Whole w g 62 #[.slice A n c, mv]) (h : ItsA w A n c l)
    (hq : Whole w q 113 (cellsI d p0)) (hgq : g ≠ q) (hA : ∀ a, (Value.slice A n c).ownBlock = some a → a ≠ g ∧ a ≠ q) (hgl : g ∉ l.map ItD.blk) (hql : q ∉ l.map ItD.blk)
    (hk : ∀ k (h : k < l.length), l[k].due.key < 18446744073709551616) (hd : d.key < 18446744073709551616) (hh : HeapV (V l) n) (hm : n < 1000000000) :
    Calls Try.prog 49 #[hpV g, .iface 110 (.pointer (some ⟨q, 0, none⟩))] w (PushPost w g A n c l q d mv) := by
  have hn := h.len
  have HI := hid_ (ipush_any hg h.row hq hgq hA (Nat.le_of_lt hm))
  have HP := hid_ (fun w1 a c' hr hg1 hq1 ht ha => pushed (w1 := w1) (a := a) (c' := c') hg h hq hgq hA hgl hql hk hd hr hg1 hq1 ht ha)
  have HUP := hid_ (fun w1 a c' (hI : ItsIn w1 g a (n + 1) c' (l ++ [⟨q, d⟩])) => up_any hI (N := n + 1) (j := n) (Nat.lt_succ_self n) (by rw [List.length_append, List.length_singleton, hn]; exact Nat.le_refl _) (by omega)
    (push_ok (v := V l) hh fun k hk => by unfold V; rw [List.getElem?_append_left (by omega)]))
  have HL := hid_ (fun A c w => len_any A (n + 1) c w)
  have eN := enters_len
  have eP := enters_push
  have mP := fun N => finds_push w g N
  have q1 : ((n + 1 : Nat) : Int) - 1 = (n : Int) := by omega
  have q2 : wrap64 (n : Int) = (n : Int) := wrap64_small (by omega)
  have HTQ := hid_ (fun b (hb : ItQ b (l ++ [⟨q, d⟩]) b) => hb)
  clear hg h hq hgq hA hgl hql hk hd hh hn
  go_enter Try.func49, Try.ntmps49
  go_wp2_with (first
    | (go_at_fn 130; (with_reducible refine HI.out.mono ?_); rintro e w1 ⟨rfl, a, c', hr, hg1, hq1, ht, ha⟩; have HIN := hid_ (HP.out w1 a c' hr hg1 hq1 ht ha); have HX := hid_ (And.intro hr (And.intro hg1 (And.intro ht ha))); clear hr hg1 hq1 ht ha; have mN := finds_len HIN.out.cell)
    | (go_at_fn 126; (with_reducible refine (HL.out _ _ _).mono ?_); rintro e w2 ⟨rfl, rfl⟩)
    | (go_at_call 60; (with_reducible refine (HUP.out _ _ _ HIN.out).mono ?_); rintro e w3 ⟨rfl, hup⟩; have HU2 := hid_ hup; clear hup))
  go_end0
  obtain ⟨hr, hg1, ht, ha⟩ := HX.out
  obtain ⟨l', hM, hh'⟩ := HU2.out
  refine ⟨rfl, a, c', l', hM.it, Whole.tn hg1 hM.tn HIN.out.gq, hM.perm, hh', ?_, ha⟩
  refine Tn.trans (Q := PushQ g q A n c l) (ht.sub ?_) hM.tn fun b hb => ?_
  · rintro b (h1 | h1 | h1)
    · exact .inl h1
    · exact .inr (.inl h1)
    · exact .inr (.inr (.inl h1))
  · rcases hb with h1 | h1
    · rw [h1]
      rcases ha with h2 | h2
      · exact .inl (.inr (.inr (.inl h2)))
      · exact .inr h2
    · rw [List.map_append, List.mem_append] at h1
      rcases h1 with h1 | h1
      · exact .inl (.inr (.inr (.inr h1)))
      · exact .inl (.inr (.inl (List.mem_singleton.1 h1)))
/-- What Remove leaves. -/
def RemPost (w : World) (g a n c : Nat) (l : List ItD) (x : ItD) (mv : Value) (e : Ending) (w' : World) : Prop :=
  e = .returned (.iface 110 (.pointer (some ⟨x.blk, 0, none⟩))) ∧ ∃ l', ItsIn w' g a n c l' ∧ Whole w' g 62 #[.slice (some ⟨a, 0, none⟩) n c, mv] ∧ (l' ++ [x]).Perm l ∧ HeapV (V l') n ∧ Tn (fun b => b = g ∨ ItQ a l b) w w'
theorem last_split {α : Type} {l : List α} {n : Nat} {x : α} (hl : l.length = n + 1) (hx : l[n]? = some x) : l.take n ++ [x] = l := by
  obtain ⟨h, rfl⟩ := List.getElem?_eq_some_iff.1 hx
  have := List.take_append_drop n l
  rw [List.drop_eq_getElem_cons h, List.drop_of_length_le (by omega)] at this
  exact this
theorem popped {w w' : World} {g a N n c : Nat} {l0 : List ItD} {x : ItD} {mv : Value} (h : ItsIn w g a N c (l0 ++ [x])) (hr : OwnP 0 w' (some ⟨a, 0, none⟩) n c (l0.map ItD.blk)) (hg : Whole w' g 62 #[.slice (some ⟨a, 0, none⟩) n c, mv]) (ht : Tn (fun b => b = g ∨ b = a) w w') : ItsIn w' g a n c l0 := by
  have hm : (l0 ++ [x]).map ItD.blk = l0.map ItD.blk ++ [x.blk] := by rw [List.map_append]; rfl
  have hmem : ∀ b ∈ l0.map ItD.blk, b ∈ (l0 ++ [x]).map ItD.blk := fun b hb => by rw [hm]; exact List.mem_append_left _ hb
  refine ⟨⟨hr, fun k hk => ?_, ?_, fun e => h.its.an (hmem _ e)⟩, hg.cell 0 _ rfl, ?_, fun k hk => ?_⟩
  · have h1 := h.its.it k (by rw [List.length_append]; omega)
    rw [List.getElem_append_left hk] at h1
    refine Whole.tn h1 ht ?_
    have hb : l0[k].blk ∈ l0.map ItD.blk := List.mem_map.2 ⟨_, List.getElem_mem hk, rfl⟩
    rintro (e | e)
    · exact h.gq (.inr (e ▸ hmem _ hb))
    · exact h.its.an (e ▸ hmem _ hb)
  · have := h.its.nd
    rw [hm] at this
    exact (List.nodup_append.1 this).1
  · rintro (e | e)
    · exact h.gq (.inl e)
    · exact h.gq (.inr (hmem _ e))
  · have h1 := h.keys k (by rw [List.length_append]; omega)
    rwa [List.getElem_append_left hk] at h1
/-- The last one is taken off. -/
theorem remPost_mk {w w1 w2 : World} {g a n c : Nat} {l l1 : List ItD} {x : ItD} {mv : Value} {e : Ending} (hM : Moved w g a (n + 1) c (n + 1) l w1 l1) (hx : l1[n]? = some x) (hh : HeapV (V l1) n)
    (hp : IPop w1 g a n c ((l1.take n).map ItD.blk) x.blk mv e w2) : RemPost w g a n c l x mv e w2 := by
  have hl : l1.length = n + 1 := hM.it.its.len
  have hs := last_split hl hx
  obtain ⟨rfl, hr, hg, ht⟩ := hp
  have hI := hM.it
  rw [← hs] at hI
  refine ⟨rfl, l1.take n, popped hI hr hg ht, hg, by rw [hs]; exact hM.perm, ?_, (hM.tn.sub fun _ h => .inr h).trans ht fun q hq => ?_⟩
  · exact HeapV.upto hh (Nat.le_refl _) fun k hk => by unfold V; rw [List.getElem?_take_of_lt hk]
  · rcases hq with h1 | h1
    · exact .inl (.inl h1)
    · exact .inl (.inr (.inl h1))
theorem Moved.mono {w w' : World} {g a n c N N' : Nat} {l l' : List ItD} (h : Moved w g a n c N l w' l') (hN : N ≤ N') : Moved w g a n c N' l w' l' := ⟨h.it, h.perm, fun k hk => h.rest k (by omega), h.tn⟩
set_option maxHeartbeats 2000000 in
set_option maxRecDepth 100000 in
theorem remove_any {w : World} {g a n c : Nat} {l : List ItD} {mv : Value} (h : ItsIn w g a (n + 1) c l) (hg : Whole w g 62 #[.slice (some ⟨a, 0, none⟩) (n + 1) c, mv]) {i : Nat} (hi : i < l.length) (hh : HeapV (V l) (n + 1)) (hm : n < 1000000000) :
    Calls Try.prog 50 #[hpV g, .int .i64 (i : Nat)] w (RemPost w g a n c l l[i] mv) := by
  have hn := h.its.len
  obtain ⟨N, hN⟩ : ∃ N, N = n + 1 := ⟨_, rfl⟩
  have q1 : ((n : Int) + 1) - 1 = (n : Int) := by omega
  have q2 : wrap64 (n : Int) = (n : Int) := wrap64_small (by omega)
  have hag : a ≠ g := fun e => h.gq (.inl e.symm)
  have eN := enters_len
  have eS := enters_swap
  have eP := enters_pop
  have mN := finds_len h.cell
  have mP := fun w N => finds_pop w g N
  have HL := hid_ (fun w => len_any (some ⟨a, 0, none⟩) (n + 1) c w)
  have HPOP := hid_ (fun w1 (l1 : List ItD) (hM : Moved w g a (n + 1) c (n + 1) l w1 l1) (hx : l1[n]? = some l[i]) => ipop_any (Whole.tn hg hM.tn h.gq) (bs := (l1.take n).map ItD.blk) (q := l[i].blk) (n := n) (by
    have := hM.it.its.row
    rw [← last_split hM.it.its.len hx, List.map_append] at this
    exact this) (by rw [List.length_map, List.length_take, hM.it.its.len]; omega) hag (Nat.le_of_lt hm))
  by_cases e : i = n
  · subst e
    have q3 : ((i : Int) != (i : Int)) = false := by simp
    have HM0 := hid_ (Moved.refl (i + 1) h)
    have HX0 := hid_ (List.getElem?_eq_getElem hi)
    have HH0 := hid_ (HeapV.upto hh (Nat.le_succ i) fun k hk => rfl)
    clear h hg hh hn hag
    go_enter Try.func50, Try.ntmps50
    go_wp2_with (first
      | (go_at_fn 126; (with_reducible refine (HL.out _).mono ?_); rintro e w2 ⟨rfl, rfl⟩)
      | (go_at_fn 129; (with_reducible refine (HPOP.out _ _ HM0.out HX0.out).mono ?_); rintro e w3 hp; have HP3 := hid_ (remPost_mk HM0.out HX0.out HH0.out hp); obtain ⟨rfl, hp2⟩ := hp; clear hp2))
    go_ret
    exact HP3.out
  · have hin : i < n := by omega
    have hnl : n < l.length := by omega
    have q3 : (n == i) = false := beq_eq_false_iff_ne.2 (Ne.symm e)
    have q4 : ((n : Int) == (i : Int)) = false := beq_eq_false_iff_ne.2 (by omega)
    have q5 : (n != i) = true := by rw [bne, q3]; rfl
    have q6 : ((n : Int) != (i : Int)) = true := by rw [bne, q4]; rfl
    have mS := finds_swap h.cell
    have HSC := hid_ (swap_any h.its hi hnl e)
    have HS1 := hid_ (fun w1 (hI : Its w1 a (n + 1) c (swapL l i n)) (ht : Tn (ItQ a (swapL l i n)) w w1) => (Moved.refl (n + 1) h).swap (i := i) (j := n) (by omega) (by omega) (by omega) hI ht)
    have hx1 : (swapL l i n)[n]? = some l[i] := by rw [swapL_get hi hnl, if_pos rfl, List.getElem?_eq_getElem hi]
    have HDN := hid_ (fun w1 (hM : Moved w g a (n + 1) c (n + 1) l w1 (swapL l i n)) => down_any hM.it (N := n) (i0 := i) hin (by rw [swapL_len]; omega) (by omega) (fix_ok hh (Nat.le_succ n) (fun k hk hki => by rw [swapL_V hi hnl, swap_k _ hki (by omega)]) hin))
    have HUP := hid_ (fun w2 (l2 : List ItD) (hM : Moved w g a (n + 1) c (n + 1) l w2 l2) (hu : UpOk (V l2) n i) => up_any hM.it (N := n) (j := i) hin (by rw [hM.len]; omega) (by omega) hu)
    have HX1 := hid_ hx1
    have HLN := hid_ (Nat.le_refl n)
    clear h hg hh hn hag hin hnl hx1 e
    go_enter Try.func50, Try.ntmps50
    go_wp2_with (first
      | (go_at_fn 126; (with_reducible refine (HL.out _).mono ?_); rintro e w2 ⟨rfl, rfl⟩)
      | (go_at_fn 128; (with_reducible refine HSC.out.mono ?_); rintro e w1 ⟨rfl, hsw, htw⟩; have HM1 := hid_ (HS1.out w1 hsw htw); clear hsw htw)
      | (go_at_call 59; (with_reducible refine (HDN.out _ HM1.out).mono ?_); rintro e w2 ⟨b, l2, rfl, hm2, (⟨rfl, hb⟩ | ⟨rfl, hb⟩)⟩ <;> have HM2 := hid_ (HM1.out.trans (hm2.mono (Nat.le_succ n))) <;> have HX2 := hid_ ((hm2.rest n (Nat.le_refl n)).trans HX1.out) <;> have HH2 := hid_ hb <;> clear hm2 hb)
      | (go_at_call 60; (with_reducible refine (HUP.out _ _ HM2.out HH2.out).mono ?_); rintro e w3 ⟨rfl, l3, hm3, hb⟩; have HM3 := hid_ (HM2.out.trans (hm3.mono (Nat.le_succ n))); have HX3 := hid_ ((hm3.rest n (Nat.le_refl n)).trans HX2.out); have HH3 := hid_ hb; clear hm3 hb)
      | (go_at_fn 129; (with_reducible refine (HPOP.out _ _ HM3.out HX3.out).mono ?_); rintro e w4 hp; have HP3 := hid_ (remPost_mk HM3.out HX3.out HH3.out hp); obtain ⟨rfl, hp2⟩ := hp; clear hp2)
      | (go_at_fn 129; (with_reducible refine (HPOP.out _ _ HM2.out HX2.out).mono ?_); rintro e w4 hp; have HP3 := hid_ (remPost_mk HM2.out HX2.out HH2.out hp); obtain ⟨rfl, hp2⟩ := hp; clear hp2))
    all_goals
      go_ret
      exact HP3.out
end Ti
end Go.Proofs.Ytpcmlopbkehffaa

/-
  A heap of timers whole: its block, its items, its map.
-/
namespace Go.Proofs.Ytpcmlopbkehffaa
set_option linter.unusedSimpArgs false
set_option linter.unusedVariables false
open Go.RowKit Go.Shelf
open Go.Maps (Keyed keyOf_int_mk int_keyed)
namespace Ti
set_option linter.unusedSimpArgs false
set_option linter.unusedVariables false
/-- A value is read as itself. -/
def elemR (v : Value) : Option (DataW Value × List MemPlace) := some (.held v, [])
theorem elem_of {v : Value} {ps : List MemPlace} {x : Value} (h : elemR v = some (.held x, ps)) : v = x := by
  unfold elemR at h
  injection h with h
  injection h with h _
  injection h
abbrev ku (x : Nat) : Lit := .int .u64 (x : Nat)
theorem keyLawU : Keyed Try.prog 27 := int_keyed Try.underlying27
theorem ku_wf {x : Nat} (h : x < 18446744073709551616) : (Lit.int .u64 (x : Nat)).wf = true := by
  simp [Lit.wf, IntKind.min, IntKind.max, IntKind.bits, IntKind.signed]
  omega
theorem ku_key {x : Nat} (h : x < 18446744073709551616) : keyOf Try.prog 27 (.int .u64 (x : Nat)) = some (ku x) := keyOf_int_mk Try.underlying27 (ku_wf h)
theorem ku_ne {x y : Nat} (h : x ≠ y) : ku x ≠ ku y := fun e => h (by injection e; omega)
abbrev ptrV (b : Nat) : Value := .pointer (some ⟨b, 0, none⟩)
/-- The map in block b: of each key its item. -/
structure PMap (W : World) (b : Nat) (f : Nat → Option Nat) (n : Nat) (D : DataW Value) : Prop where
  own : W.ownsMap Try.prog 27 elemR b n D
  has : ∀ x : Nat, Maps.has D (ku x) = (f x).isSome
  at_ : ∀ (x p : Nat), f x = some p → ∀ z, D.atKey (ku x) z = .held (ptrV p)
theorem pmap_new (w : World) : PMap (w.alloc (.map #[] 0)) w.heap.size (fun _ => none) 0 (.map []) :=
  ⟨World.ownsMap_made _ _ _ _, fun x => by simp [Maps.has], fun x p h => by cases h⟩
theorem PMap.stands {W W' : World} {b n : Nat} {f : Nat → Option Nat} {D : DataW Value} (k : PMap W b f n D) (hk : W'.heap[b]? = W.heap[b]?) : PMap W' b f n D := by
  obtain ⟨es, clock, hb, r⟩ := k.own
  exact ⟨⟨es, clock, hk.trans hb, r⟩, k.has, k.at_⟩
theorem PMap.lt {W : World} {b n : Nat} {f : Nat → Option Nat} {D : DataW Value} (k : PMap W b f n D) : b < W.heap.size := k.own.lt
theorem zeroPt (w : World) : (zeroValue 110).run Try.prog w = .ok (.pointer none) w := by kernel_rfl
/-- What a look for a key answers. -/
def ptrO (o : Option Nat) : Value := match o with | some p => ptrV p | none => .pointer none
theorem PMap.look {W : World} {b n : Nat} {f : Nat → Option Nat} {D : DataW Value} (k : PMap W b f n D) {x : Nat} (hx : x < 18446744073709551616) :
    (Instr.lookup 60 (.map (some b)) (.int .u64 (x : Nat)) true).run Try.prog W = .ok (.tuple #[ptrO (f x), .bool (f x).isSome]) W := by
  obtain ⟨v, ps, hrun, hv⟩ := k.own.look_ok (t := 60) keyLawU Try.underlying60 (zeroPt W) (zd := .held (.pointer none)) (zp := []) rfl (ku_key hx)
  rcases hh : f x with _ | p
  · have hf : Maps.has D (ku x) = false := by rw [k.has, hh]; rfl
    rw [Maps.atKey_of_not_has hf] at hv
    rw [hrun, elem_of hv, hf]
    rfl
  · rw [k.at_ x p hh] at hv
    rw [hrun, elem_of hv, k.has, hh]
    rfl
theorem PMap.look_some {W : World} {b n : Nat} {f : Nat → Option Nat} {D : DataW Value} (k : PMap W b f n D) {x p : Nat} (hx : x < 18446744073709551616) (hf : f x = some p) :
    (Instr.lookup 60 (.map (some b)) (.int .u64 (x : Nat)) true).run Try.prog W = .ok (.tuple #[.pointer (some ⟨p, 0, none⟩), .bool true]) W := by
  have h := k.look hx
  rw [hf] at h
  exact h
theorem PMap.look_none {W : World} {b n : Nat} {f : Nat → Option Nat} {D : DataW Value} (k : PMap W b f n D) {x : Nat} (hx : x < 18446744073709551616) (hf : f x = none) :
    (Instr.lookup 60 (.map (some b)) (.int .u64 (x : Nat)) true).run Try.prog W = .ok (.tuple #[.pointer none, .bool false]) W := by
  have h := k.look hx
  rw [hf] at h
  exact h
theorem look_nil (W : World) {x : Nat} (hx : x < 18446744073709551616) : (Instr.lookup 60 (.map none) (.int .u64 (x : Nat)) true).run Try.prog W = .ok (.tuple #[.pointer none, .bool false]) W :=
  Maps.look_nil true keyLawU Try.underlying60 (zeroPt W) (ku_key hx)
theorem PMap.put {W W2 : World} {b n n2 : Nat} {f : Nat → Option Nat} {D : DataW Value} (k : PMap W b f n D) (x p : Nat) (ho : W2.ownsMap Try.prog 27 elemR b n2 (D.put (ku x) (.held (ptrV p)))) :
    PMap W2 b (fun y => if y = x then some p else f y) n2 (D.put (ku x) (.held (ptrV p))) := by
  have ho0 := k.own
  have hkl : Go.WideAt.IsKeyLit (ku x) := by trivial
  refine ⟨ho, fun y => ?_, fun y u hy z => ?_⟩
  · by_cases e : y = x
    · subst e
      rw [Maps.has_put_same ho0.isMap hkl, if_pos rfl]
      rfl
    · rw [Maps.has_put_other (ku_ne e), k.has, if_neg e]
  · by_cases e : y = x
    · subst e
      rw [if_pos rfl] at hy
      cases hy
      exact Maps.atKey_put_same ho0.isMap hkl _ _
    · rw [if_neg e] at hy
      rw [Maps.atKey_put_other (ku_ne e)]
      exact k.at_ y u hy z
theorem PMap.del {W W2 : World} {b n n2 : Nat} {f : Nat → Option Nat} {D : DataW Value} (k : PMap W b f n D) (x : Nat) (ho : W2.ownsMap Try.prog 27 elemR b n2 (D.del (ku x))) :
    PMap W2 b (fun y => if y = x then none else f y) n2 (D.del (ku x)) := by
  refine ⟨ho, fun y => ?_, fun y u hy z => ?_⟩
  · by_cases e : y = x
    · subst e
      rw [if_pos rfl]
      exact Maps.has_del_same
    · rw [Maps.has_del_other (ku_ne e), k.has, if_neg e]
  · by_cases e : y = x
    · subst e
      rw [if_pos rfl] at hy
      cases hy
    · rw [if_neg e] at hy
      rw [Maps.atKey_del_other (ku_ne e)]
      exact k.at_ y u hy z
/-- The map f names just the items of l. -/
structure MapOf (f : Nat → Option Nat) (l : List ItD) : Prop where
  to_ : ∀ i ∈ l, f i.due.key = some i.blk
  from_ : ∀ x p, f x = some p → ∃ i ∈ l, i.due.key = x ∧ i.blk = p
theorem MapOf.perm {f : Nat → Option Nat} {l l' : List ItD} (h : MapOf f l) (hp : l'.Perm l) : MapOf f l' :=
  ⟨fun i hi => h.to_ i (hp.mem_iff.1 hi), fun x p hx => by
    obtain ⟨i, hi, e⟩ := h.from_ x p hx
    exact ⟨i, hp.mem_iff.2 hi, e⟩⟩
theorem MapOf.some_ {f : Nat → Option Nat} {l : List ItD} (h : MapOf f l) {x p : Nat} (hx : f x = some p) : ∃ (j : Nat) (hj : j < l.length), l[j].due.key = x ∧ l[j].blk = p := by
  obtain ⟨i, hi, e⟩ := h.from_ x p hx
  obtain ⟨j, hj, rfl⟩ := List.mem_iff_getElem.1 hi
  exact ⟨j, hj, e⟩
theorem MapOf.none_ {f : Nat → Option Nat} {l : List ItD} (h : MapOf f l) {x : Nat} (hx : f x = none) : ∀ i ∈ l, i.due.key ≠ x := by
  rintro i hi rfl
  rw [h.to_ i hi] at hx
  cases hx
structure HpIn (w : World) (g a n c b : Nat) (l : List ItD) (f : Nat → Option Nat) (nb : Nat) (D : DataW Value) : Prop where
  cells : Whole w g 62 #[.slice (some ⟨a, 0, none⟩) n c, .map (some b)]
  it : ItsIn w g a n c l
  heap : HeapV (V l) n
  map : PMap w b f nb D
  mo : MapOf f l
  bq : ¬ ItQ a l b
  bg : b ≠ g
theorem HpIn.stands {w w' : World} {g a n c b : Nat} {l : List ItD} {f : Nat → Option Nat} {nb : Nat} {D : DataW Value} (h : HpIn w g a n c b l f nb D) (hg : w'.heap[g]? = w.heap[g]?) (hb : w'.heap[b]? = w.heap[b]?) (hq : ∀ q, ItQ a l q → w'.heap[q]? = w.heap[q]?) : HpIn w' g a n c b l f nb D :=
  ⟨hg.trans h.cells, ⟨h.it.its.stands hq, Whole.cell (t := 62) (hg.trans h.cells) 0 _ rfl, h.it.gq, h.it.keys⟩, h.heap, h.map.stands hb, h.mo, h.bq, h.bg⟩
/-- Block g is the heap of m, made by at most cnt Sets; its blocks lie in Q. -/
structure Hp (w : World) (g : Nat) (Q : Nat → Prop) (m : List DueD) (cnt : Nat) : Prop where
  ok : Ok m
  qg : Q g
  qlt : ∀ q, Q q → q < w.heap.size
  len : m.length ≤ cnt
  mem : (m = [] ∧ Whole w g 62 #[.slice none 0 0, .map none]) ∨ ∃ a n c b l f nb D, HpIn w g a n c b l f nb D ∧ (l.map ItD.due).Perm m ∧ nb ≤ cnt ∧ Q b ∧ ∀ q, ItQ a l q → Q q
theorem Hp.stands {w w' : World} {g cnt : Nat} {Q : Nat → Prop} {m : List DueD} (h : Hp w g Q m cnt) (hs : w.heap.size ≤ w'.heap.size) (hk : ∀ q, Q q → w'.heap[q]? = w.heap[q]?) : Hp w' g Q m cnt := by
  refine ⟨h.ok, h.qg, fun q hq => Nat.lt_of_lt_of_le (h.qlt q hq) hs, h.len, ?_⟩
  rcases h.mem with ⟨h1, h2⟩ | ⟨a, n, c, b, l, f, nb, D, h1, h2, h3, h4, h5⟩
  · exact .inl ⟨h1, (hk g h.qg).trans h2⟩
  · exact .inr ⟨a, n, c, b, l, f, nb, D, h1.stands (hk g h.qg) (hk b h4) (fun q hq => hk q (h5 q hq)), h2, h3, h4, h5⟩
theorem Hp.tn {w w' : World} {g cnt : Nat} {Q Q' : Nat → Prop} {m : List DueD} (h : Hp w g Q m cnt) (k : Tn Q' w w') (hq : ∀ q, Q q → ¬ Q' q) : Hp w' g Q m cnt := h.stands k.size fun q h1 => k.block q (h.qlt q h1) (hq q h1)
theorem Hp.below {w w' : World} {g cnt : Nat} {Q : Nat → Prop} {m : List DueD} (h : Hp w g Q m cnt) (k : Below w.heap.size w w') : Hp w' g Q m cnt := h.stands k.size fun q h1 => k.block q (h.qlt q h1)
theorem Hp.drewN {w : World} {g cnt : Nat} {Q : Nat → Prop} {m : List DueD} (h : Hp w g Q m cnt) (k : Nat) : Hp (w.drewN k) g Q m cnt := h.stands (Nat.le_refl _) fun _ _ => rfl
theorem hp_zero (w : World) : Hp (w.alloc (.cells #[.slice none 0 0, .map none] 62)) w.heap.size (fun q => q = w.heap.size) [] 0 :=
  ⟨Ok.nil, rfl, fun q hq => by simp [hq], Nat.le_refl _, .inl ⟨rfl, whole_new w _ _⟩⟩
theorem cell_of {w : World} {g : Nat} {t : TypeId} {x y : Value} (h : Whole w g t #[x, y]) : w.cell? ⟨g, 0, none⟩ = some x ∧ w.cell? ⟨g, 1, none⟩ = some y := ⟨h.cell 0 _ rfl, h.cell 1 _ rfl⟩
theorem heap_len {w : World} {g cnt : Nat} {Q : Nat → Prop} {m : List DueD} (h : Hp w g Q m cnt) : ∃ A c, w.cell? ⟨g, 0, none⟩ = some (.slice A m.length c) := by
  rcases h.mem with ⟨rfl, h2⟩ | ⟨a, n, c, b, l, f, nb, D, h1, h2, h3, h4, h5⟩
  · exact ⟨_, _, (cell_of h2).1⟩
  · have e : m.length = n := by rw [← h2.length_eq, List.length_map]; exact h1.it.its.len
    rw [e]
    exact ⟨_, _, (cell_of h1.cells).1⟩
theorem hlen_any {w : World} {g cnt : Nat} {Q : Nat → Prop} {m : List DueD} (h : Hp w g Q m cnt) : Calls Try.prog 35 #[.pointer (some ⟨g, 0, none⟩)] w (RetV w (.int .i64 (m.length : Nat))) := by
  obtain ⟨A, c, h0⟩ := heap_len h
  clear h
  go_enter Try.func35, Try.ntmps35
  go_wp2_with fail
  go_ret
  exact retV_mk rfl
theorem hlen_nil (w : World) : Calls Try.prog 35 #[.pointer none] w (RetV w (.int .i64 0)) := by
  go_enter Try.func35, Try.ntmps35
  go_wp2_with fail
  go_ret
  exact retV_mk rfl
/-- What a key's item says. -/
theorem item_of {w : World} {g a n c b : Nat} {l : List ItD} {f : Nat → Option Nat} {nb : Nat} {D : DataW Value} (h : HpIn w g a n c b l f nb D) {m : List DueD} (hp : (l.map ItD.due).Perm m) (hk : (m.map DueD.key).Nodup) {x p : Nat} (hx : f x = some p) :
    ∃ (j : Nat) (hj : j < l.length), l[j].due.key = x ∧ l[j].blk = p ∧ l[j].due ∈ m ∧ atR m x = some l[j].due.at_ ∧ hasR m x = true := by
  obtain ⟨j, hj, e1, e2⟩ := h.mo.some_ hx
  have hm : l[j].due ∈ m := hp.mem_iff.1 (List.mem_map.2 ⟨_, List.getElem_mem hj, rfl⟩)
  exact ⟨j, hj, e1, e2, hm, e1 ▸ at_of hk hm, has_iff.2 ⟨_, hm, e1⟩⟩
theorem item_no {w : World} {g a n c b : Nat} {l : List ItD} {f : Nat → Option Nat} {nb : Nat} {D : DataW Value} (h : HpIn w g a n c b l f nb D) {m : List DueD} (hp : (l.map ItD.due).Perm m) {x : Nat} (hx : f x = none) : (∀ d ∈ m, d.key ≠ x) ∧ atR m x = none ∧ hasR m x = false := by
  have h1 : ∀ d ∈ m, d.key ≠ x := by
    intro d hd e
    obtain ⟨i, hi, rfl⟩ := List.mem_map.1 (hp.mem_iff.2 hd)
    exact h.mo.none_ hx i hi e
  exact ⟨h1, at_none h1, has_false.2 h1⟩
def atV (o : Option Nat) : Value := .tuple #[.int .u64 ((o.getD 0 : Nat) : Int), .bool o.isSome]
set_option maxHeartbeats 1000000 in
set_option maxRecDepth 100000 in
theorem hat_any {w : World} {g cnt : Nat} {Q : Nat → Prop} {m : List DueD} (h : Hp w g Q m cnt) {x : Nat} (hx : x < 18446744073709551616) : Calls Try.prog 32 #[.pointer (some ⟨g, 0, none⟩), .int .u64 (x : Nat)] w (RetV w (atV (atR m x))) := by
  rcases h.mem with ⟨rfl, h2⟩ | ⟨a, n, c, b, l, f, nb, D, h1, h2, h3, h4, h5⟩
  · obtain ⟨c0, c1⟩ := cell_of h2
    have hl := look_nil w hx
    clear h h2 hx
    go_enter Try.func32, Try.ntmps32
    go_wp2_with fail
    go_ret2
    exact retV_mk rfl
  · obtain ⟨c0, c1⟩ := cell_of h1.cells
    rcases hf : f x with _ | p
    · have HN := hid_ (item_no h1 h2 hf).2.1
      have hl := h1.map.look_none hx hf
      clear h h1 h2 h4 h5 hx hf
      go_enter Try.func32, Try.ntmps32
      go_wp2_with fail
      go_ret2
      exact retV_mk (by rw [HN.out]; rfl)
    · obtain ⟨j, hj, e1, e2, -, e3, -⟩ := item_of h1 h2 h.ok.keys hf
      have HN := hid_ e3
      obtain ⟨-, -, k1, -⟩ := its_at h1.it.its hj
      rw [e2] at k1
      have hl := h1.map.look_some hx hf
      generalize l[j].due.at_ = t at *
      clear h h1 h2 h4 h5 hx hf e1 e2 e3
      go_enter Try.func32, Try.ntmps32
      go_wp2_with fail
      go_ret2
      exact retV_mk (by rw [HN.out]; rfl)
theorem hat_nil (x : Nat) (w : World) : Calls Try.prog 32 #[.pointer none, .int .u64 (x : Nat)] w (RetV w (atV none)) := by
  go_enter Try.func32, Try.ntmps32
  go_wp2_with fail
  go_ret2
  exact retV_mk rfl
def nextV (m : List DueD) : Value := match m with | [] => .tuple #[.int .u64 0, .int .u64 0, .bool false] | x :: _ => .tuple #[.int .u64 (x.key : Nat), .int .u64 (x.at_ : Nat), .bool true]
set_option maxHeartbeats 1000000 in
set_option maxRecDepth 100000 in
theorem hnext_any {w : World} {g cnt : Nat} {Q : Nat → Prop} {m : List DueD} (h : Hp w g Q m cnt) : Calls Try.prog 34 #[.pointer (some ⟨g, 0, none⟩)] w (RetD w (nextV m)) := by
  have HL := hid_ (hlen_any h)
  rcases m with _ | ⟨x, m⟩
  · clear h
    go_enter Try.func34, Try.ntmps34
    go_wp2_with (go_at_call 35; (with_reducible refine HL.out.mono ?_); rintro e w1 ⟨rfl, rfl⟩)
    go_ret3
    exact retD_mk rfl 0
  · rcases h.mem with ⟨h1, -⟩ | ⟨a, n, c, b, l, f, nb, D, h1, h2, h3, h4, h5⟩
    · cases h1
    obtain ⟨h0, he⟩ := head_is h2 h.ok.sorted (by rw [h1.it.its.len]; exact h1.heap)
    obtain ⟨c0, c1⟩ := cell_of h1.cells
    obtain ⟨k0, k1, k2, -⟩ := its_at h1.it.its h0
    rw [he] at k1 k2
    generalize l[0].blk = p at *
    have hn : 0 < n := by rw [← h1.it.its.len]; exact h0
    have hn2 : (0 : Int) < (n : Int) := by omega
    have q1 : (((x :: m).length : Int) == 0) = false := beq_eq_false_iff_ne.2 (by rw [List.length_cons]; omega)
    have q2 : ((x :: m).length == 0) = false := beq_eq_false_iff_ne.2 (by rw [List.length_cons]; omega)
    generalize (x :: m).length = len at *
    clear h h1 h2 h4 h5 he h0
    go_enter Try.func34, Try.ntmps34
    go_wp2_with (go_at_call 35; (with_reducible refine HL.out.mono ?_); rintro e w1 ⟨rfl, rfl⟩)
    go_region
    all_goals
      go_wp2_with fail
      go_ret3
      first | exact retD_mk rfl 0 | exact retD_mk rfl 1
theorem hnext_nil (w : World) : Calls Try.prog 34 #[.pointer none] w (RetV w (nextV [])) := by
  have HL := hid_ (hlen_nil w)
  go_enter Try.func34, Try.ntmps34
  go_wp2_with (go_at_call 35; (with_reducible refine HL.out.mono ?_); rintro e w1 ⟨rfl, rfl⟩)
  go_ret3
  exact retV_mk rfl
end Ti
end Go.Proofs.Ytpcmlopbkehffaa
