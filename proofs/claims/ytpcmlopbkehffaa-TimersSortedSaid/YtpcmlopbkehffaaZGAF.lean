/-
  A heap of timers: Del.
-/
import Derived.Test.YtpcmlopbkehffaaZGAE
import Derived.StillTailTactics
namespace Go.Proofs.Ytpcmlopbkehffaa
set_option linter.unusedSimpArgs false
set_option linter.unusedVariables false
open Go.RowKit Go.Shelf
open Go.Maps (Keyed keyOf_int_mk int_keyed)
namespace Ti
set_option linter.unusedSimpArgs false
set_option linter.unusedVariables false
theorem tn_map {w w' : World} {b : Nat} (h : w.mapTurned w' b) : Tn (fun q => q = b) w w' := by
  obtain ⟨es, clock, es', clock', hb, rfl⟩ := h
  exact ⟨rfl, rfl, rfl, by simp [Go.ChangeMaps.setBlock], fun i _ hi => Go.ChangeMaps.heap_setBlock_other hb _ hi⟩
/-- What a call on a heap leaves: its answer, the heap behind it; nothing else has turned. -/
def HpPost (w : World) (g : Nat) (Q : Nat → Prop) (R : World → Value → Prop) (m : List DueD) (cnt : Nat) (e : Ending) (w' : World) : Prop :=
  ∃ v, e = .returned v ∧ R w' v ∧ ∃ Q', Hp w' g Q' m cnt ∧ Tn Q w w' ∧ ∀ q, Q' q → Q q ∨ w.heap.size ≤ q
theorem hpPost_mk {w w' : World} {g cnt : Nat} {Q Q' : Nat → Prop} {R : World → Value → Prop} {m : List DueD} {v : Value} (hv : R w' v) (h : Hp w' g Q' m cnt) (t : Tn Q w w') (hq : ∀ q, Q' q → Q q ∨ w.heap.size ≤ q) : HpPost w g Q R m cnt (.returned v) w' := ⟨v, rfl, hv, Q', h, t, hq⟩
/-- What Del leaves. -/
def DelPost (w : World) (g : Nat) (Q : Nat → Prop) (m : List DueD) (x cnt : Nat) (e : Ending) (w' : World) : Prop := e = .returned (.bool (hasR m x)) ∧ Hp w' g Q (delR m x) cnt ∧ Tn Q w w'
theorem delPost_mk {w w' : World} {g x cnt : Nat} {Q : Nat → Prop} {m : List DueD} {b : Bool} (hv : b = hasR m x) (h : Hp w' g Q (delR m x) cnt) (t : Tn Q w w') : DelPost w g Q m x cnt (.returned (.bool b)) w' := ⟨by rw [hv], h, t⟩
theorem keys_nd {l : List ItD} {m : List DueD} (hp : (l.map ItD.due).Perm m) (hk : (m.map DueD.key).Nodup) : (l.map (fun i => i.due.key)).Nodup := by
  have h := (hp.map DueD.key).nodup_iff.2 hk
  rwa [List.map_map] at h
/-- The heap without one item. -/
theorem hp_less {w : World} {g a n c b : Nat} {l l' : List ItD} {f : Nat → Option Nat} {nb cnt : Nat} {D : DataW Value} {Q : Nat → Prop} {m : List DueD} {x : ItD} (hQ : Hp w g Q m cnt) {w' : World} (hs : w.heap.size ≤ w'.heap.size) (hp : (l.map ItD.due).Perm m) (hmo : MapOf f l) (hq : ∀ q, ItQ a l q → Q q) (hb : Q b) (hnb : nb ≤ cnt)
    (hl : (l' ++ [x]).Perm l) (hc : Whole w' g 62 #[.slice (some ⟨a, 0, none⟩) n c, .map (some b)]) (hi : ItsIn w' g a n c l') (hh : HeapV (V l') n) (hm : PMap w' b (fun y => if y = x.due.key then none else f y) nb D) (hbq : ¬ ItQ a l b) (hbg : b ≠ g) : Hp w' g Q (delR m x.due.key) cnt := by
  have hx : x ∈ l := hl.mem_iff.1 (List.mem_append_right _ (List.mem_singleton.2 rfl))
  have hxm : x.due ∈ m := hp.mem_iff.1 (List.mem_map.2 ⟨_, hx, rfl⟩)
  have hd := del_perm hQ.ok.keys hxm
  have hnd := keys_nd ((hl.map ItD.due).trans hp) hQ.ok.keys
  rw [List.map_append] at hnd
  have hne : ∀ i ∈ l', i.due.key ≠ x.due.key := fun i hi e => (List.nodup_append.1 hnd).2.2 _ (List.mem_map.2 ⟨i, hi, rfl⟩) _ (List.mem_map.2 ⟨x, List.mem_singleton.2 rfl, rfl⟩) e
  have hsub : ∀ i ∈ l', i ∈ l := fun i hi => hl.mem_iff.1 (List.mem_append_left _ hi)
  have hq' : ∀ q, ItQ a l' q → ItQ a l q := by
    rintro q (h1 | h1)
    · exact .inl h1
    · obtain ⟨i, hi, e⟩ := List.mem_map.1 h1
      exact .inr (List.mem_map.2 ⟨i, hsub i hi, e⟩)
  refine ⟨hQ.ok.del _, hQ.qg, fun q h => Nat.lt_of_lt_of_le (hQ.qlt q h) hs, Nat.le_trans (List.length_eraseP_le) hQ.len, .inr ⟨a, n, c, b, l', _, nb, D, ⟨hc, hi, hh, hm, ⟨fun i hi => ?_, fun y p hy => ?_⟩, fun e => hbq (hq' b e), hbg⟩, ?_, hnb, hb, fun q h => hq q (hq' q h)⟩⟩
  · show (if i.due.key = x.due.key then none else f i.due.key) = _
    rw [if_neg (hne i hi)]
    exact hmo.to_ i (hsub i hi)
  · have hy2 : (if y = x.due.key then none else f y) = some p := hy
    by_cases e : y = x.due.key
    · rw [if_pos e] at hy2; cases hy2
    · rw [if_neg e] at hy2
      obtain ⟨i, hi, e1, e2⟩ := hmo.from_ y p hy2
      rcases List.mem_append.1 (hl.mem_iff.2 hi) with h1 | h1
      · exact ⟨i, h1, e1, e2⟩
      · rw [List.mem_singleton.1 h1] at e1
        exact absurd e1.symm e
  · have h1 : (x.due :: l'.map ItD.due).Perm (x.due :: delR m x.due.key) := by
      have h2 := (hl.map ItD.due).trans (hp.trans hd)
      rw [List.map_append] at h2
      exact (List.perm_append_comm (l₁ := [x.due]) (l₂ := l'.map ItD.due)).trans h2
    exact h1.cons_inv
theorem itq_less {a : Nat} {l l' : List ItD} {x : ItD} (h : (l' ++ [x]).Perm l) {q : Nat} (hq : ItQ a l' q) : ItQ a l q := by
  rcases hq with h1 | h1
  · exact .inl h1
  · obtain ⟨i, hi, e⟩ := List.mem_map.1 h1
    exact .inr (List.mem_map.2 ⟨i, h.mem_iff.1 (List.mem_append_left _ hi), e⟩)
theorem ItsIn.tn {Q : Nat → Prop} {w w' : World} {g a n c : Nat} {l : List ItD} (h : ItsIn w g a n c l) (k : Tn Q w w') (hg : ¬ Q g) (hq : ∀ q, ItQ a l q → ¬ Q q) : ItsIn w' g a n c l :=
  ⟨h.its.tn k hq, by
    have h1 := h.cell
    rw [World.cell?] at h1 ⊢
    rw [k.block g (lt_of_cell h.cell) hg]
    exact h1, h.gq, h.keys⟩
set_option maxHeartbeats 2000000 in
set_option maxRecDepth 100000 in
theorem hdel_any {w : World} {g cnt : Nat} {Q : Nat → Prop} {m : List DueD} (h : Hp w g Q m cnt) {x : Nat} (hx : x < 18446744073709551616) (hcnt : cnt < 1000000000) : Calls Try.prog 28 #[.pointer (some ⟨g, 0, none⟩), .int .u64 (x : Nat)] w (DelPost w g Q m x cnt) := by
  have hsame : (∀ d ∈ m, d.key ≠ x) → DelPost w g Q m x cnt (.returned (.bool false)) w := fun hn =>
    delPost_mk (has_false.2 hn).symm (by rw [del_none hn]; exact h) (Tn.refl _ _)
  rcases h.mem with ⟨rfl, h2⟩ | ⟨a, n, c, b, l, f, nb, D, h1, h2, h3, h4, h5⟩
  · obtain ⟨c0, c1⟩ := cell_of h2
    have hl := look_nil w hx
    have HS := hid_ (hsame fun d hd => by cases hd)
    clear h h2 hx hsame
    go_enter Try.func28, Try.ntmps28
    go_wp2_with fail
    go_ret
    exact HS.out
  · obtain ⟨c0, c1⟩ := cell_of h1.cells
    rcases hf : f x with _ | p
    · have HS := hid_ (hsame (item_no h1 h2 hf).1)
      have hl := h1.map.look_none hx hf
      clear h h1 h2 h4 h5 hx hf hsame
      go_enter Try.func28, Try.ntmps28
      go_wp2_with fail
      go_ret
      exact HS.out
    · obtain ⟨j, hj, e1, e2, hmem, -, hhas⟩ := item_of h1 h2 h.ok.keys hf
      obtain ⟨-, -, -, k2⟩ := its_at h1.it.its hj
      rw [e2] at k2
      have hl := h1.map.look_some hx hf
      have hlen := h1.it.its.len
      have hml : n ≤ cnt := by
        rw [← hlen, ← List.length_map (f := ItD.due), h2.length_eq]
        exact h.len
      obtain ⟨n', rfl⟩ : ∃ n', n = n' + 1 := ⟨n - 1, by omega⟩
      have HR := hid_ (remove_any (h1.it.drewN 1) (show Whole (w.drewN 1) g 62 _ from h1.cells) hj h1.heap (by omega))
      have HK := hid_ (ku_key hx)
      have HP := hid_ h1
      have HF := hid_ (fun (w' : World) (l' : List ItD) (D' : DataW Value) hs hp' hc hi hh hm => hp_less (w' := w') (l' := l') (D := D') (x := l[j]'hj) (n := n') (c := c) h hs h2 h1.mo h5 h4 h3 hp' hc hi hh hm h1.bq h1.bg)
      have HE := hid_ e1
      have HH := hid_ hhas
      have HQ := hid_ (And.intro h.qg (And.intro h4 h5))
      have k2' : w.drew.cell? ⟨p, 2, none⟩ = some (.int .i64 (j : Nat)) := k2
      clear h h1 h2 h4 h5 hx hf hsame e1 e2 hmem hhas hlen hml
      go_enter Try.func28, Try.ntmps28
      go_wp2_with fail
      go_still_tail 8, (by kernel_rfl)
      change wpList _ _ _ _ _ (w.drewN 1)
      go_wp2_with (first
        | (go_at_call 50; (with_reducible refine HR.out.mono ?_); rintro e w3 ⟨rfl, l', hi3, hc3, hp3, hh3, ht3⟩; have HI3 := hid_ hi3; have HC3 := hid_ hc3; have HP3 := hid_ (And.intro hp3 hh3); have HT3 := hid_ ht3; have HM3 := hid_ (HP.out.map.stands (W' := w3) (ht3.block b HP.out.map.lt (fun e => e.elim HP.out.bg HP.out.bq))); have c13 := (cell_of hc3).2; have HO3 := hid_ HM3.out.own; clear hi3 hc3 hp3 hh3 ht3)
        | (at_delete; refine wpList_delete_own _ rfl _ _ _ _ rfl 110 keyLawU Try.underlying60 _ b nb D rfl HO3.out _ _ rfl HK.out ?_; intro w4 ho4 ht4; have HX4 := hid_ (And.intro ho4 (tn_map ht4)); clear ho4 ht4))
      go_ret
      obtain ⟨ho4, ht4⟩ := HX4.out
      have hbq' : ∀ q, ItQ a l' q → ¬ q = b := fun q hq e => HP.out.bq (itq_less HP3.out.1 (e ▸ hq))
      have ht : Tn Q w w4 := (((Tn.refl Q w).drewN 1).trans HT3.out (fun q hq => .inl (hq.elim (fun e => e ▸ HQ.out.1) (HQ.out.2.2 q)))).trans ht4 (fun q hq => .inl (hq ▸ HQ.out.2.1))
      have hF := HF.out w4 l' _ ht.size HP3.out.1 (Whole.tn HC3.out ht4 (Ne.symm HP.out.bg)) (HI3.out.tn ht4 (Ne.symm HP.out.bg) hbq') HP3.out.2 (by rw [HE.out]; exact HM3.out.del x ho4)
      rw [HE.out] at hF
      exact delPost_mk HH.out.symm hF ht
theorem hdel_nil (x : Nat) (w : World) : Calls Try.prog 28 #[.pointer none, .int .u64 (x : Nat)] w (RetV w (.bool false)) := by
  go_enter Try.func28, Try.ntmps28
  go_wp2_with fail
  go_ret
  exact retV_mk rfl
end Ti
end Go.Proofs.Ytpcmlopbkehffaa

/-
  A heap of timers: Set.
-/
namespace Go.Proofs.Ytpcmlopbkehffaa
set_option linter.unusedSimpArgs false
set_option linter.unusedVariables false
open Go.RowKit Go.Shelf
open Go.Maps (Keyed keyOf_int_mk int_keyed)
namespace Ti
set_option linter.unusedSimpArgs false
set_option linter.unusedVariables false
/-- The heap in which one item has another time. -/
theorem hp_turned {w w' : World} {g a n c b : Nat} {l l' : List ItD} {f : Nat → Option Nat} {nb cnt : Nat} {D : DataW Value} {Q : Nat → Prop} {m : List DueD} (hQ : Hp w g Q m cnt) (h : HpIn w g a n c b l f nb D) (hp : (l.map ItD.due).Perm m) (hq : ∀ q, ItQ a l q → Q q) (hb : Q b) (hnb : nb ≤ cnt)
    {j : Nat} (hj : j < l.length) {t : Nat} (ht : t < 18446744073709551616) (hs : w.heap.size ≤ w'.heap.size) (hl : l'.Perm (l.set j ⟨l[j].blk, ⟨l[j].due.key, t⟩⟩)) (hc : Whole w' g 62 #[.slice (some ⟨a, 0, none⟩) n c, .map (some b)]) (hi : ItsIn w' g a n c l') (hh : HeapV (V l') n) (hm : PMap w' b f nb D) : Hp w' g Q (setR m l[j].due.key t) (cnt + 1) := by
  have hxm : l[j].due ∈ m := hp.mem_iff.1 (List.mem_map.2 ⟨_, List.getElem_mem hj, rfl⟩)
  have hkt := hQ.ok.lt _ hxm
  have hsp : l.Perm (l[j] :: (l.take j ++ l.drop (j + 1))) := by
    have h1 := List.take_append_drop j l
    rw [List.drop_eq_getElem_cons hj] at h1
    exact (List.Perm.of_eq h1.symm).trans List.perm_middle
  have hsp2 : (l.set j ⟨l[j].blk, ⟨l[j].due.key, t⟩⟩).Perm (⟨l[j].blk, ⟨l[j].due.key, t⟩⟩ :: (l.take j ++ l.drop (j + 1))) := by
    rw [List.set_eq_take_append_cons_drop, if_pos hj]
    exact List.perm_middle
  have hblk : (l'.map ItD.blk).Perm (l.map ItD.blk) := by
    refine (hl.map _).trans ?_
    rw [List.map_set]
    have : (l.map ItD.blk).set j l[j].blk = l.map ItD.blk := by
      refine List.ext_getElem? fun i => ?_
      rw [List.getElem?_set]
      split
      · rename_i e; subst e; rw [if_pos (by rw [List.length_map]; exact hj), List.getElem?_map, List.getElem?_eq_getElem hj]; rfl
      · rfl
    rw [this]
  have hqq : ∀ q, ItQ a l' q ↔ ItQ a l q := fun q => by unfold ItQ; rw [hblk.mem_iff]
  have hdue : (l'.map ItD.due).Perm (setR m l[j].due.key t) := by
    refine ((hl.map ItD.due).trans (hsp2.map ItD.due)).trans ?_
    refine List.Perm.trans ?_ (set_perm m l[j].due.key t).symm
    refine List.Perm.cons _ ?_
    have h1 := (hsp.symm.map ItD.due).trans (hp.trans (del_perm hQ.ok.keys hxm))
    exact h1.cons_inv
  refine ⟨hQ.ok.set hkt.1 ht, hQ.qg, fun q h => Nat.lt_of_lt_of_le (hQ.qlt q h) hs, ?_, .inr ⟨a, n, c, b, l', f, nb, D, ⟨hc, hi, hh, hm, ⟨fun i hi2 => ?_, fun y p hy => ?_⟩, fun e => h.bq ((hqq b).1 e), h.bg⟩, hdue, Nat.le_succ_of_le hnb, hb, fun q h2 => hq q ((hqq q).1 h2)⟩⟩
  · rw [← hdue.length_eq, List.length_map, hl.length_eq, List.length_set, ← List.length_map (f := ItD.due), hp.length_eq]
    exact Nat.le_succ_of_le hQ.len
  · have h1 := hsp2.mem_iff.1 (hl.mem_iff.1 hi2)
    rcases List.mem_cons.1 h1 with rfl | h1
    · exact h.mo.to_ l[j] (List.getElem_mem hj)
    · exact h.mo.to_ i (hsp.mem_iff.2 (List.mem_cons_of_mem _ h1))
  · obtain ⟨i, hi2, e1, e2⟩ := h.mo.from_ y p hy
    rcases List.mem_cons.1 (hsp.mem_iff.1 hi2) with rfl | h1
    · exact ⟨_, hl.mem_iff.2 (hsp2.mem_iff.2 List.mem_cons_self), e1, e2⟩
    · exact ⟨i, hl.mem_iff.2 (hsp2.mem_iff.2 (List.mem_cons_of_mem _ h1)), e1, e2⟩
/-- .. in which there is one more. -/
theorem hp_more {w w' : World} {g a n c b q : Nat} {l l' : List ItD} {f : Nat → Option Nat} {nb cnt : Nat} {D : DataW Value} {Q : Nat → Prop} {m : List DueD} (hQ : Hp w g Q m cnt) (hp : (l.map ItD.due).Perm m) (hmo : MapOf f l) (hbg : b ≠ g) (hnb : nb ≤ cnt + 1)
    {x t : Nat} (hx : x < 18446744073709551616) (ht : t < 18446744073709551616) (hn : ∀ d ∈ m, d.key ≠ x) (hs : w.heap.size ≤ w'.heap.size) (hl : l'.Perm (l ++ [⟨q, ⟨x, t⟩⟩])) (hc : Whole w' g 62 #[.slice (some ⟨a, 0, none⟩) n c, .map (some b)]) (hi : ItsIn w' g a n c l') (hh : HeapV (V l') n)
    (hm : PMap w' b (fun y => if y = x then some q else f y) nb D) (hbq : ¬ ItQ a l' b) (Q' : Nat → Prop) (hQ' : ∀ r, Q' r ↔ (Q r ∨ (w.heap.size ≤ r ∧ r < w'.heap.size))) (hq : ∀ r, ItQ a l' r → Q' r) (hb : Q' b) : Hp w' g Q' (setR m x t) (cnt + 1) := by
  have hdue : (l'.map ItD.due).Perm (setR m x t) := by
    refine (hl.map ItD.due).trans ?_
    rw [List.map_append]
    refine List.Perm.trans ?_ (set_perm m x t).symm
    rw [del_none hn]
    exact (List.perm_append_comm (l₁ := l.map ItD.due) (l₂ := [⟨x, t⟩])).trans (List.Perm.cons _ hp)
  refine ⟨hQ.ok.set hx ht, (hQ' g).2 (.inl hQ.qg), fun r hr => ?_, ?_, .inr ⟨a, n, c, b, l', _, nb, D, ⟨hc, hi, hh, hm, ⟨fun i hi2 => ?_, fun y p hy => ?_⟩, hbq, hbg⟩, hdue, hnb, hb, hq⟩⟩
  · rcases (hQ' r).1 hr with h1 | h1
    · exact Nat.lt_of_lt_of_le (hQ.qlt r h1) hs
    · exact h1.2
  · rw [← hdue.length_eq, List.length_map, hl.length_eq, List.length_append, ← List.length_map (f := ItD.due), hp.length_eq]
    exact Nat.succ_le_succ hQ.len
  · show (if i.due.key = x then some q else f i.due.key) = _
    rcases List.mem_append.1 (hl.mem_iff.1 hi2) with h1 | h1
    · rw [if_neg (fun e => hn i.due (hp.mem_iff.1 (List.mem_map.2 ⟨i, h1, rfl⟩)) e)]
      exact hmo.to_ i h1
    · rw [List.mem_singleton.1 h1]
      exact if_pos rfl
  · have hy2 : (if y = x then some q else f y) = some p := hy
    by_cases e : y = x
    · rw [if_pos e] at hy2
      cases hy2
      exact ⟨⟨q, ⟨x, t⟩⟩, hl.mem_iff.2 (List.mem_append_right _ (List.mem_singleton.2 rfl)), e.symm, rfl⟩
    · rw [if_neg e] at hy2
      obtain ⟨i, hi2, e1⟩ := hmo.from_ y p hy2
      exact ⟨i, hl.mem_iff.2 (List.mem_append_left _ hi2), e1⟩
theorem push_end {w w2 w3 : World} {g : Nat} {A : Option Addr} {n c b q x t : Nat} {l : List ItD} {f : Nat → Option Nat} {nb cnt : Nat} {D : DataW Value} {Q : Nat → Prop} {m : List DueD} {e : Ending} (hQ : Hp w g Q m cnt) (hp : (l.map ItD.due).Perm m) (hmo : MapOf f l) (hn : ∀ d ∈ m, d.key ≠ x)
    (hx : x < 18446744073709551616) (ht : t < 18446744073709551616) (hbg : b ≠ g) (hbq : b ≠ q) (hbA : (Value.slice A n c).ownBlock ≠ some b) (hbl : b ∉ l.map ItD.blk) (hM : PMap w2 b (fun y => if y = x then some q else f y) nb D) (hnb : nb ≤ cnt + 1)
    (h12 : Tn Q w w2) (hq : w.heap.size ≤ q ∧ q < w2.heap.size) (hb : Q b ∨ w.heap.size ≤ b) (hAQ : ∀ a, (Value.slice A n c).ownBlock = some a → Q a) (hlQ : ∀ r ∈ l.map ItD.blk, Q r) (h : PushPost w2 g A n c l q ⟨x, t⟩ (.map (some b)) e w3) :
    HpPost w g Q (fun _ v => v = .tuple #[]) (setR m x t) (cnt + 1) e w3 := by
  obtain ⟨rfl, a, c', l', hi, hc, hl, hh, htn, ha⟩ := h
  have hz := h12.size
  have hz3 := htn.size
  have hblt := hM.lt
  have hmem : ∀ r ∈ l'.map ItD.blk, r ∈ l.map ItD.blk ∨ r = q := by
    intro r hr
    have h1 := (hl.map ItD.blk).mem_iff.1 hr
    rw [List.map_append, List.mem_append] at h1
    exact h1.imp id (fun h2 => List.mem_singleton.1 h2)
  have hM3 : PMap w3 b (fun y => if y = x then some q else f y) nb D := hM.stands (htn.block b hblt (by
    rintro (h1 | h1 | h1 | h1)
    · exact hbg h1
    · exact hbq h1
    · exact hbA h1
    · exact hbl h1))
  have hbi : ¬ ItQ a l' b := by
    rintro (h1 | h1)
    · rcases ha with h2 | h2
      · exact hbA (h1 ▸ h2)
      · omega
    · rcases hmem b h1 with h2 | h2
      · exact hbl h2
      · exact hbq h2
  have hT : Tn Q w w3 := h12.trans htn (by
    rintro r (h1 | h1 | h1 | h1)
    · exact .inl (h1 ▸ hQ.qg)
    · exact .inr (h1 ▸ hq.1)
    · exact .inl (hAQ r h1)
    · exact .inl (hlQ r h1))
  have hia := hi.its.alt
  refine ⟨_, rfl, rfl, fun r => Q r ∨ (w.heap.size ≤ r ∧ r < w3.heap.size), hp_more hQ hp hmo hbg hnb hx ht hn hT.size hl hc hi hh hM3 hbi _ (fun r => Iff.rfl) ?_ ?_, hT, fun r hr => hr.imp id And.left⟩
  · rintro r (h1 | h1)
    · rcases ha with h2 | h2
      · exact .inl (hAQ r (h1 ▸ h2))
      · right; omega
    · rcases hmem r h1 with h2 | h2
      · exact .inl (hlQ r h2)
      · right; omega
  · rcases hb with h1 | h1
    · exact .inl h1
    · right; omega
theorem its_retime {w : World} {g a n c : Nat} {l : List ItD} (h : ItsIn w g a n c l) {j : Nat} (hj : j < l.length) (t : Nat) : ItsIn (w.setCell ⟨l[j].blk, 1, none⟩ (.int .u64 (t : Nat))) g a n c (l.set j ⟨l[j].blk, ⟨l[j].due.key, t⟩⟩) := by
  have hmj : l[j].blk ∈ l.map ItD.blk := List.mem_map.2 ⟨_, List.getElem_mem hj, rfl⟩
  have haj : a ≠ l[j].blk := fun e => h.its.an (e ▸ hmj)
  have hgj : g ≠ l[j].blk := fun e => h.gq (.inr (e ▸ hmj))
  have hblk : (l.set j ⟨l[j].blk, ⟨l[j].due.key, t⟩⟩).map ItD.blk = l.map ItD.blk := by
    rw [List.map_set]
    refine List.ext_getElem? fun i => ?_
    rw [List.getElem?_set]
    split
    · rename_i e; subst e; rw [if_pos (by rw [List.length_map]; exact hj), List.getElem?_map, List.getElem?_eq_getElem hj]; rfl
    · rfl
  refine ⟨⟨?_, fun k hk => ?_, by rw [hblk]; exact h.its.nd, by rw [hblk]; exact h.its.an⟩, ?_, by unfold ItQ; rw [hblk]; exact h.gq, fun k hk => ?_⟩
  · rw [hblk]
    exact own_stands h.its.row (Below.heap_setCell _ _ _ a haj)
  · rw [List.length_set] at hk
    rw [List.getElem_set]
    split
    · rename_i e
      subst e
      have h1 := (h.its.it j hj).store 1 (.int .u64 (t : Nat))
      exact h1
    · rename_i e
      exact (h.its.it k hk).far (blk_ne h.its.nd hk hj (Ne.symm e)) _
  · have h1 := h.cell
    rw [World.cell?] at h1 ⊢
    rw [Below.heap_setCell _ _ _ g hgj]
    exact h1
  · rw [List.length_set] at hk
    rw [List.getElem_set]
    split
    · exact h.keys j hj
    · exact h.keys k hk
theorem map_some (b : Nat) (w : World) : (binOp .eql 60 (.map (some b)) (.map none)).run Try.prog w = .ok (.bool false) w := by kernel_rfl
theorem map_none (w : World) : (binOp .eql 60 (.map none) (.map none)).run Try.prog w = .ok (.bool true) w := by kernel_rfl
theorem V_set {l : List ItD} {j k : Nat} (x : ItD) (h : k ≠ j) : V (l.set j x) k = V l k := by
  unfold V
  rw [List.getElem?_set, if_neg (Ne.symm h)]
set_option maxHeartbeats 2000000 in
set_option maxRecDepth 100000 in
theorem hset_any {w : World} {g cnt : Nat} {Q : Nat → Prop} {m : List DueD} (h : Hp w g Q m cnt) {x t : Nat} (hx : x < 18446744073709551616) (ht : t < 18446744073709551616) (hcnt : cnt < 100000000) : Calls Try.prog 25 #[.pointer (some ⟨g, 0, none⟩), .int .u64 (x : Nat), .int .u64 (t : Nat)] w (HpPost w g Q (fun _ v => v = .tuple #[]) (setR m x t) (cnt + 1)) := by
  rcases h.mem with ⟨rfl, h2⟩ | ⟨a, n, c, b, l, f, nb, D, h1, h2, h3, h4, h5⟩
  · obtain ⟨c0, c1⟩ := cell_of h2
    have hf0 := h2.free
    have hl := look_nil w hx
    have hme := map_none w
    have hmm := @run_makeMap Try.prog
    obtain ⟨b, hb⟩ : ∃ b, b = w.heap.size := ⟨_, rfl⟩
    obtain ⟨wa, hwa⟩ : ∃ wa : World, wa = w.alloc (.map #[] 0) := ⟨_, rfl⟩
    have hba : Below w.heap.size w wa := by rw [hwa]; exact (Below.refl _ _).alloc (Nat.le_refl _) _
    have hsa : wa.heap.size = w.heap.size + 1 := by rw [hwa]; simp
    have hca : Whole wa g 62 #[.slice none 0 0, .map none] := h2.below hba h2.lt
    have hMa : PMap wa b (fun _ => none) 0 (.map []) := by rw [hwa, hb]; exact pmap_new w
    have hgb : g ≠ b := by have := h2.lt; omega
    have d1 : wa.cell? ⟨g, 1, none⟩ = some (.map none) := (cell_of hca).2
    have df := hca.free
    obtain ⟨wb, hwb⟩ : ∃ wb : World, wb = wa.setCell ⟨g, 1, none⟩ (.map (some b)) := ⟨_, rfl⟩
    have hcb : Whole wb g 62 #[.slice none 0 0, .map (some b)] := by rw [hwb]; exact hca.store 1 _
    have hMb : PMap wb b (fun _ => none) 0 (.map []) := by rw [hwb]; exact hMa.stands (Below.heap_setCell _ _ _ b (Ne.symm hgb))
    have hsb : wb.heap.size = w.heap.size + 1 := by rw [hwb]; simpa using hsa
    have htb : Tn Q w wb := by rw [hwb]; exact (Tn.of_below hba).set (.inl h.qg) 1 _
    obtain ⟨q, hq⟩ : ∃ q, q = w.heap.size + 1 := ⟨_, rfl⟩
    obtain ⟨w1, hw1⟩ : ∃ w1 : World, w1 = wb.alloc (.cells (cellsI ⟨x, t⟩ 0) 113) := ⟨_, rfl⟩
    have hb1 : Below wb.heap.size wb w1 := by rw [hw1]; exact (Below.refl _ _).alloc (Nat.le_refl _) _
    have hq1 : Whole w1 q 113 (cellsI ⟨x, t⟩ 0) := by rw [hw1, hq, ← hsb]; exact whole_new _ _ _
    have hc1 : Whole w1 g 62 #[.slice none 0 0, .map (some b)] := hcb.below hb1 hcb.lt
    have hM1 := hMb.stands (hb1.block b hMb.lt)
    have HO1 := hid_ hM1.own
    have c11 := (cell_of hc1).2
    have hgq : g ≠ q := by have := h2.lt; omega
    have hbq' : b ≠ q := by omega
    have HC2 := hid_ (fun w2 (ht2 : w1.mapTurned w2 b) => Whole.tn hc1 (tn_map ht2) hgb)
    have HPU := hid_ (fun w2 (ht2 : w1.mapTurned w2 b) => push_any (Whole.tn hc1 (tn_map ht2) hgb) (itsA_nil w2) (Whole.tn hq1 (tn_map ht2) (Ne.symm hbq')) hgq
      (fun a' ha' => by cases ha') (fun e => by cases e) (fun e => by cases e) (fun k hk => absurd hk (Nat.not_lt_zero k)) hx (fun k _ hk => absurd hk (Nat.not_lt_zero k)) (by omega))
    have HEND := hid_ (fun w2 w3 e ho2 (ht2 : w1.mapTurned w2 b) hp => push_end (A := none) (n := 0) (c := 0) (l := []) (f := fun _ => none) (w2 := w2) (w3 := w3) (e := e) (q := q) (nb := 0 + 1) (D := (DataW.map []).put (ku x) (.held (ptrV q))) h (List.Perm.refl _) ⟨fun i hi => (by cases hi), fun y p hy => (by cases hy)⟩ (fun d hd => by cases hd) hx ht (Ne.symm hgb) hbq' (fun e => by cases e) (fun e => by cases e) (hM1.put x q ho2) (by omega)
      ((htb.then_below hb1).trans (tn_map ht2) (fun r hr => .inr (by omega))) (by have := (tn_map ht2).size; have := hq1.lt; omega) (.inr (by omega)) (fun a' ha' => by cases ha') (fun r hr => by cases hr) hp)
    have HK := hid_ (ku_key hx)
    have HBS := hid_ hsb
    rw [show cellsI ⟨x, t⟩ 0 = #[.int .u64 (x : Nat), .int .u64 (t : Nat), .int .i64 0] from rfl] at hw1
    clear h h2 hx hb1 hq1 hc1 hM1 hgq hbq' ht hMb hcb hMa hca hba hgb htb
    rw [hwa] at d1 df
    have hq2 : b + 1 = q := by omega
    have d2 := c11
    clear hq2 d2
    subst hw1 hwb hwa hb hq
    go_enter Try.func25, Try.ntmps25
    go_wp2_with (first
        | (at_mapUpdate; refine wpList_mapUpdate_in _ rfl _ _ _ 60 rfl 27 110 keyLawU Try.underlying60 _ _ 0 _ rfl HO1.out (by unfold maxLen; omega) _ _ _ rfl rfl HK.out (.held _) [] rfl ?_; intro w2 ho2 ht2; have HX2 := hid_ (And.intro ho2 ht2); have c22 := (cell_of (HC2.out w2 ht2)).2; clear ho2 ht2)
        | (go_at_call 49; (with_reducible refine (HPU.out _ HX2.out.2).mono ?_); rintro e w3 hp; have HE3 := hid_ (HEND.out w2 w3 e HX2.out.1 HX2.out.2 hp); obtain ⟨rfl, hp2⟩ := hp; clear hp2))
    go_end0
    exact HE3.out
  · obtain ⟨c0, c1⟩ := cell_of h1.cells
    have hlen := h1.it.its.len
    have hml : n ≤ cnt := by
      rw [← hlen, ← List.length_map (f := ItD.due), h2.length_eq]
      exact h.len
    rcases hf : f x with _ | p
    · obtain ⟨hn, -, -⟩ := item_no h1 h2 hf
      have hme := map_some b w
      have hl := h1.map.look_none hx hf
      obtain ⟨q, hq⟩ : ∃ q, q = w.heap.size := ⟨_, rfl⟩
      obtain ⟨w1, hw1⟩ : ∃ w1 : World, w1 = w.alloc (.cells (cellsI ⟨x, t⟩ 0) 113) := ⟨_, rfl⟩
      have hb1 : Below w.heap.size w w1 := by rw [hw1]; exact (Below.refl _ _).alloc (Nat.le_refl _) _
      have hq1 : Whole w1 q 113 (cellsI ⟨x, t⟩ 0) := by rw [hw1, hq]; exact whole_new _ _ _
      have hc1 : Whole w1 g 62 #[.slice (some ⟨a, 0, none⟩) n c, .map (some b)] := h1.cells.below hb1 h1.cells.lt
      have hM1 := h1.map.stands (hb1.block b h1.map.lt)
      have HO1 := hid_ hM1.own
      have c11 := (cell_of hc1).2
      have hgq : g ≠ q := by have := h1.cells.lt; omega
      have hbq' : b ≠ q := by have := h1.map.lt; omega
      have hmlt : ∀ r, ItQ a l r → r ≠ q := fun r hr e => by have := h1.it.its.qlt hr; omega
      have HC2 := hid_ (fun w2 (ht2 : w1.mapTurned w2 b) => Whole.tn hc1 (tn_map ht2) (Ne.symm h1.bg))
      have HPU := hid_ (fun w2 (ht2 : w1.mapTurned w2 b) => push_any (Whole.tn hc1 (tn_map ht2) (Ne.symm h1.bg)) (((h1.it.its.below hb1).tn (tn_map ht2) (fun r hr e => h1.bq (e ▸ hr))).any) (Whole.tn hq1 (tn_map ht2) (Ne.symm hbq')) hgq
        (fun a' ha' => by injection ha' with ha'; rw [← ha']; exact ⟨fun e => h1.it.gq (.inl e.symm), hmlt a (.inl rfl)⟩) (fun e => h1.it.gq (.inr e)) (fun e => hmlt q (.inr e) rfl) h1.it.keys hx h1.heap (by omega))
      have HEND := hid_ (fun w2 w3 e ho2 (ht2 : w1.mapTurned w2 b) hp => push_end (A := some ⟨a, 0, none⟩) (n := n) (c := c) (w2 := w2) (w3 := w3) (e := e) (q := q) (nb := nb + 1) (D := D.put (ku x) (.held (ptrV q))) h h2 h1.mo hn hx ht h1.bg hbq' (fun e => h1.bq (.inl (by injection e with e; exact e.symm))) (fun e => h1.bq (.inr e)) (hM1.put x q ho2) (by omega)
        ((Tn.of_below hb1).trans (tn_map ht2) (fun r hr => .inl (hr ▸ h4))) (by have := (tn_map ht2).size; have := hq1.lt; omega) (.inl h4) (fun a' ha' => by injection ha' with ha'; exact h5 a' (.inl ha'.symm)) (fun r hr => h5 r (.inr hr)) hp)
      have HK := hid_ (ku_key hx)
      rw [show cellsI ⟨x, t⟩ 0 = #[.int .u64 (x : Nat), .int .u64 (t : Nat), .int .i64 0] from rfl] at hw1
      clear h h1 h2 h4 h5 hx hf hn hb1 hq1 hc1 hM1 hgq hbq' hmlt hlen ht
      subst hw1 hq
      go_enter Try.func25, Try.ntmps25
      go_wp2_with (first
        | (at_mapUpdate; refine wpList_mapUpdate_in _ rfl _ _ _ 60 rfl 27 110 keyLawU Try.underlying60 _ b nb D rfl HO1.out (by unfold maxLen; omega) _ _ _ rfl rfl HK.out (.held _) [] rfl ?_; intro w2 ho2 ht2; have HX2 := hid_ (And.intro ho2 ht2); have c22 := (cell_of (HC2.out w2 ht2)).2; clear ho2 ht2)
        | (go_at_call 49; (with_reducible refine (HPU.out _ HX2.out.2).mono ?_); rintro e w3 hp; have HE3 := hid_ (HEND.out w2 w3 e HX2.out.1 HX2.out.2 hp); obtain ⟨rfl, hp2⟩ := hp; clear hp2))
      go_end0
      exact HE3.out
    · obtain ⟨j, hj, e1, e2, hmem, -, hhas⟩ := item_of h1 h2 h.ok.keys hf
      have hl := h1.map.look_some hx hf
      have hfr := (h1.it.its.it j hj).free
      have HI1 := hid_ ((its_retime h1.it hj t).drewN 1)
      have hgj : g ≠ l[j].blk := fun e => h1.it.gq (.inr (e ▸ List.mem_map.2 ⟨_, List.getElem_mem hj, rfl⟩))
      have HC1 := hid_ (show Whole ((w.setCell ⟨l[j].blk, 1, none⟩ (.int .u64 (t : Nat))).drewN 1) g 62 #[.slice (some ⟨a, 0, none⟩) n c, .map (some b)] from h1.cells.far (p := ⟨l[j].blk, 1, none⟩) hgj _)
      have hbj : b ≠ l[j].blk := fun e => h1.bq (.inr (e ▸ List.mem_map.2 ⟨_, List.getElem_mem hj, rfl⟩))
      have HM1 := hid_ (show PMap ((w.setCell ⟨l[j].blk, 1, none⟩ (.int .u64 (t : Nat))).drewN 1) b f nb D from h1.map.stands (Below.heap_setCell _ _ _ b hbj))
      have HFX := hid_ (fix_any HI1.out (i := j) (by omega) (by omega) (fix_ok h1.heap (Nat.le_refl n) (fun k hk hkj => V_set _ hkj) (by omega)))
      obtain ⟨-, k0, k1, k2⟩ := its_at h1.it.its hj
      have k3 := ((h1.it.its.it j hj).store 1 (.int .u64 (t : Nat))).cell 2 (.int .i64 (j : Nat)) rfl
      have HT1 := hid_ (((Tn.refl (ItQ a l) w).set (.inl (.inr (List.mem_map.2 ⟨_, List.getElem_mem hj, rfl⟩))) 1 (.int .u64 (t : Nat)) : Tn (ItQ a l) w (w.setCell ⟨l[j].blk, 1, none⟩ (.int .u64 (t : Nat)))).drewN 1)
      have HPM := hid_ (its_retime h1.it hj t).its
      have HF := hid_ (fun (w' : World) (l' : List ItD) hs hp' hc hi hh hm => hp_turned (w' := w') (l' := l') h h1 h2 h5 h4 h3 hj ht hs hp' hc hi hh hm)
      have HE := hid_ e1
      have HQ := hid_ (And.intro h4 (And.intro h5 (And.intro h1.bq h1.it.gq)))
      have HBL := hid_ h1.map.lt
      have HGQ := hid_ h1.it.gq
      have HBG := hid_ h1.bg
      have HQW := hid_ h.qg
      subst e2
      clear h h1 h2 h4 h5 hx hf e1 hmem hhas hlen hml hgj hbj hcnt ht
      go_enter Try.func25, Try.ntmps25
      go_wp2_with fail
      generalize w.setCell ⟨l[j].blk, 1, none⟩ (.int .u64 (t : Nat)) = w1 at *
      have k4 : w1.drew.cell? ⟨l[j].blk, 2, none⟩ = some (.int .i64 (j : Nat)) := k3
      go_still_tail 8, (by kernel_rfl)
      change wpList _ _ _ _ _ (w1.drewN 1)
      go_wp2_with (go_at_call 48; (with_reducible refine HFX.out.mono ?_); rintro e w3 ⟨rfl, l', hm3, hh3⟩; have HM3 := hid_ hm3; have HH3 := hid_ hh3; clear hm3 hh3)
      go_end0
      have hbq' : ¬ ItQ a (l.set j ⟨l[j].blk, ⟨l[j].due.key, t⟩⟩) b := fun e => HQ.out.2.2.1 (by
        rcases e with e | e
        · exact .inl e
        · right
          obtain ⟨i, hi, rfl⟩ := List.mem_map.1 e
          rcases List.mem_or_eq_of_mem_set hi with h1 | rfl
          · exact List.mem_map.2 ⟨i, h1, rfl⟩
          · exact List.mem_map.2 ⟨l[j], List.getElem_mem hj, rfl⟩)
      have hqs : ∀ q, ItQ a (l.set j ⟨l[j].blk, ⟨l[j].due.key, t⟩⟩) q → ItQ a l q := by
        rintro q (e | e)
        · exact .inl e
        · right
          obtain ⟨i, hi, rfl⟩ := List.mem_map.1 e
          rcases List.mem_or_eq_of_mem_set hi with h1 | rfl
          · exact List.mem_map.2 ⟨i, h1, rfl⟩
          · exact List.mem_map.2 ⟨l[j], List.getElem_mem hj, rfl⟩
      have hT : Tn Q w w3 := (HT1.out.sub HQ.out.2.1).trans HM3.out.tn (fun q hq => .inl (HQ.out.2.1 q (hqs q hq)))
      have hF := HF.out w3 l' hT.size HM3.out.perm (Whole.tn HC1.out HM3.out.tn HI1.out.gq) HM3.out.it HH3.out (HM1.out.stands (HM3.out.tn.block b (by have := HBL.out; have := HT1.out.size; omega) hbq'))
      rw [HE.out] at hF
      exact hpPost_mk (v := .tuple #[]) rfl hF hT (fun q hq => .inl hq)
end Ti
end Go.Proofs.Ytpcmlopbkehffaa

/-
  A heap of timers: Pop.
-/
namespace Go.Proofs.Ytpcmlopbkehffaa
set_option linter.unusedSimpArgs false
set_option linter.unusedVariables false
open Go.RowKit Go.Shelf
namespace Ti
set_option linter.unusedSimpArgs false
set_option linter.unusedVariables false
/-- A number. -/
def numE : Enc Nat := ⟨fun x => [.int .u64 (x : Nat)], 1, fun _ => rfl, by decide, fun p u hu => by
  rcases List.mem_singleton.1 hu with rfl
  rfl⟩
theorem info_num : (Try.prog.info? 27).map (fun i => (i.zero, i.size, i.bytes)) = some (some (.int .u64 0), numE.K, 8) := by kernel_rfl
abbrev OwnN := numE.Own 27
theorem num_new (w : World) (x : Nat) (T : TypeId) : numE.Row (w.alloc (.cells #[.int .u64 (x : Nat)] T)) (some ⟨w.heap.size, 0, none⟩) 1 1 [x] := Enc.row_new (E := numE) w x _ rfl T
theorem ownE_far {α : Type} {E : Enc α} {e : TypeId} {B : Nat} {w w' : World} {A : Option Addr} {n c : Nat} {ss : List α} (h : E.Own e B w A n c ss) (hk : ∀ a, (Value.slice A n c).ownBlock = some a → w'.heap[a]? = w.heap[a]?) : E.Own e B w' A n c ss := by
  obtain ⟨hl, h1 | ⟨g, cap, cur, e', hg, hh, r⟩⟩ := h
  · exact ⟨hl, .inl h1⟩
  · exact ⟨hl, .inr ⟨g, cap, cur, e', hg, (hk g (by rw [e']; rfl)).trans hh, r⟩⟩
theorem take_all {α : Type} {p : α → Bool} {a b : List α} (ha : ∀ x ∈ a, p x = true) (hb : ∀ x, b.head? = some x → p x = false) : (a ++ b).takeWhile p = a ∧ (a ++ b).dropWhile p = b := by
  induction a with
  | nil =>
    rcases b with _ | ⟨y, b⟩
    · exact ⟨rfl, rfl⟩
    · have := hb y rfl
      exact ⟨List.takeWhile_cons_of_neg (by rw [this]; decide), List.dropWhile_cons_of_neg (by rw [this]; decide)⟩
  | cons y a ih =>
    have h1 := ha y List.mem_cons_self
    have h2 := ih (fun x hx => ha x (List.mem_cons_of_mem _ hx))
    rw [List.cons_append, List.takeWhile_cons_of_pos h1, List.dropWhile_cons_of_pos h1, h2.1, h2.2]
    exact ⟨rfl, rfl⟩
/-- What Pop leaves. -/
def PopPost (w : World) (g : Nat) (Q : Nat → Prop) (m : List DueD) (now cnt : Nat) (e : Ending) (w' : World) : Prop :=
  ∃ A c, e = .returned (.slice A (popR m now).1.length c) ∧ OwnN w.heap.size w' A (popR m now).1.length c (popR m now).1 ∧ Hp w' g Q (popR m now).2 cnt ∧ Tn Q w w'
theorem popPost_mk {w w' : World} {g now cnt : Nat} {Q : Nat → Prop} {m pre m' : List DueD} {A : Option Addr} {c : Nat} (hm : m = pre ++ m') (hp : ∀ d ∈ pre, isDue now d = true) (hd : ∀ d, m'.head? = some d → isDue now d = false)
    (ho : OwnN w.heap.size w' A pre.length c (pre.map DueD.key)) (h : Hp w' g Q m' cnt) (t : Tn Q w w') : PopPost w g Q m now cnt (.returned (.slice A pre.length c)) w' := by
  obtain ⟨h1, h2⟩ := take_all hp hd
  have e1 : (popR m now).1 = pre.map DueD.key := by unfold popR; rw [hm]; exact congrArg (List.map DueD.key) h1
  have e2 : (popR m now).2 = m' := by unfold popR; rw [hm]; exact h2
  exact ⟨A, c, by rw [e1, List.length_map], by rw [e1, List.length_map]; exact ho, by rw [e2]; exact h, t⟩
def nK (m : List DueD) : Nat := match m with | [] => 0 | x :: _ => x.key
def nA (m : List DueD) : Nat := match m with | [] => 0 | x :: _ => x.at_
def nI (m : List DueD) : Bool := match m with | [] => false | _ :: _ => true
theorem nextV_eq (m : List DueD) : nextV m = .tuple #[.int .u64 (nK m : Nat), .int .u64 (nA m : Nat), .bool (nI m)] := by
  rcases m with _ | ⟨x, m⟩ <;> rfl
set_option maxHeartbeats 4000000 in
set_option maxRecDepth 100000 in
theorem hpop_any {w : World} {g cnt : Nat} {Q : Nat → Prop} {m : List DueD} (h : Hp w g Q m cnt) (now : Nat) (hcnt : cnt < 100000000) : Calls Try.prog 31 #[.pointer (some ⟨g, 0, none⟩), .int .u64 (now : Nat)] w (PopPost w g Q m now cnt) := by
  have HQ := hid_ h.qlt
  have HN := hid_ (fun W m' (hW : Hp W g Q m' cnt) => hnext_any hW)
  have HD := hid_ (fun W m' x (hW : Hp W g Q m' cnt) hx => hdel_any (x := x) hW hx (by omega))
  have H0 := hid_ h
  have HN0 := hid_ (hnext_any h)
  rw [nextV_eq] at HN0
  clear h
  go_enter Try.func31, Try.ntmps31
  go_wp2_with (go_at_call 34; (with_reducible refine HN0.out.mono ?_); rintro e w1 ⟨rfl, q, rfl⟩)
  go_loopw [5, 6, 7, 8] (fun v5 v6 v7 v8 wr => ∃ (pre m' : List DueD) (A : Option Addr) (c : Nat), v5 = .slice A pre.length c ∧ v6 = .int .u64 (nK m' : Nat) ∧ v7 = .int .u64 (nA m' : Nat) ∧ v8 = .bool (nI m') ∧ Hid (m = pre ++ m' ∧ ∀ d ∈ pre, isDue now d = true) ∧ Hid (OwnN w.heap.size wr A pre.length c (pre.map DueD.key)) ∧ Hid (Hp wr g Q m' cnt) ∧ Hid (Tn Q w wr)) (fun v5 _ _ _ _ => m.length - (match v5 with | .slice _ n _ => n | _ => 0))
  case atStart => exact ⟨[], m, none, 0, rfl, rfl, rfl, rfl, hid_ ⟨rfl, fun d hd => by cases hd⟩, hid_ (Enc.Own.none _ _), hid_ (H0.out.drewN q), hid_ ((Tn.refl Q w).drewN q)⟩
  case round =>
    obtain ⟨pre, m', A, c, rfl, rfl, rfl, rfl, HM, HO, HH, HT⟩ := hrel
    rcases m' with _ | ⟨x, m'⟩
    · have hI : nI [] = false := rfl
      go_wp2_with fail
      go_ret
      exact popPost_mk HM.out.1 HM.out.2 (fun d hd => by cases hd) HO.out HH.out HT.out
    · have hI : nI (x :: m') = true := rfl
      have hA : nA (x :: m') = x.at_ := rfl
      have hK : nK (x :: m') = x.key := rfl
      rw [hI, hA, hK]
      clear hI hA hK
      by_cases hd : x.at_ ≤ now
      · have e1 : decide (x.at_ ≤ now) = true := decide_eq_true hd
        have e2 : decide ((x.at_ : Int) ≤ (now : Int)) = true := decide_eq_true (by omega)
        have hlm : pre.length + (m'.length + 1) ≤ cnt := by
          have h0 := H0.out.len
          rw [HM.out.1, List.length_append, List.length_cons] at h0
          exact h0
        have HX1 := hid_ (HH.out.ok.lt x List.mem_cons_self).1
        have HO2 := hid_ (ownE_far (w' := wr.alloc (.cells #[.int .u64 (x.key : Nat)] 27)) HO.out (fun a ha => Below.heap_alloc wr _ a (HO.out.from_ a ha).2))
        have HL2 := hid_ (num_new wr x.key 27)
        have HT2 := hid_ (HT.out.alloc (.cells #[.int .u64 (x.key : Nat)] 27))
        have HSZ := hid_ (show w.heap.size ≤ wr.heap.size from HT.out.size)
        have HH2 := hid_ (HH.out.below ((Below.refl wr.heap.size wr).alloc (Nat.le_refl _) (.cells #[.int .u64 (x.key : Nat)] 27)))
        have HE := hid_ e1
        have HLM := hid_ hlm
        have HNN := hid_ (fun W (hW : Hp W g Q m' cnt) => (show Calls Try.prog 34 #[.pointer (some ⟨g, 0, none⟩)] W (RetD W (.tuple #[.int .u64 (nK m' : Nat), .int .u64 (nA m' : Nat), .bool (nI m')])) from by have := hnext_any hW; rwa [nextV_eq] at this))
        clear hd
        go_wp2_with (first
          | (at_builtin; refine Enc.wpList_rows (E := numE) (e := 27) rfl (.tmp 27) (.tmp 29) 26 rfl _ 8 Try.underlying26 info_num rfl w.heap.size A pre.length c _ rfl HO2.out (some ⟨wr.heap.size, 0, none⟩) 1 1 [x.key] rfl HL2.out (pre.length + 1) _ rfl rfl (by omega) (by omega) (by have := HSZ.out; simp; omega) ?_; intro A5 c5 w5 ho5 hb5 hg5 hat5; have HO5 := hid_ ho5; have HH5 := hid_ (HH2.out.stands hb5.size (fun q hq => hb5.block q (HQ.out q hq))); have HT5 := hid_ (HT2.out.grown hg5 (fun j hj => .inr (HO.out.from_ j hj).1)); clear ho5 hb5 hg5 hat5)
          | (go_at_call 28; (with_reducible refine (HD.out _ _ _ HH5.out HX1.out).mono ?_); rintro e w6 ⟨rfl, hh6, ht6⟩; have HH6 := hid_ (show Hp w6 g Q m' cnt from by have h9 : delR (x :: m') x.key = m' := List.eraseP_cons_of_pos ((isKey_iff _ _).2 rfl); rwa [h9] at hh6); have HO6 := hid_ (ownE_far (w' := w6) HO5.out (fun a ha => ht6.block a (HO5.out.from_ a ha).2 (fun hq => by have h1 := HQ.out a hq; have h2 := (HO5.out.from_ a ha).1; omega))); have HT6 := hid_ (HT5.out.trans ht6 (fun q hq => .inl hq)); clear hh6 ht6)
          | (go_at_call 34; (with_reducible refine (HNN.out _ HH6.out).mono ?_); rintro e w7 ⟨rfl, q7, rfl⟩))
        go_roundw
        case rel =>
          exact ⟨pre ++ [x], m', A5, c5, by rw [List.length_append]; rfl, rfl, rfl, rfl, hid_ ⟨by rw [HM.out.1, List.append_assoc]; rfl, fun d hd => by
            rcases List.mem_append.1 hd with h1 | h1
            · exact HM.out.2 d h1
            · rw [List.mem_singleton.1 h1]; exact HE.out⟩, hid_ (by rw [List.length_append, List.map_append]; exact ownE_far HO6.out (fun _ _ => rfl)), hid_ (HH6.out.drewN _), hid_ (HT6.out.drewN _)⟩
        case measure =>
          have : m.length = pre.length + (m'.length + 1) := by rw [HM.out.1, List.length_append, List.length_cons]
          show m.length - (pre.length + 1) < m.length - pre.length
          omega
      · have e1 : decide (x.at_ ≤ now) = false := decide_eq_false hd
        have e2 : decide ((x.at_ : Int) ≤ (now : Int)) = false := decide_eq_false (by omega)
        have HE := hid_ e1
        clear hd
        go_wp2_with fail
        go_ret
        exact popPost_mk HM.out.1 HM.out.2 (fun d hd => by injection hd with hd; rw [← hd]; exact HE.out) HO.out HH.out HT.out
end Ti
end Go.Proofs.Ytpcmlopbkehffaa
