/-
  What the reference of package frame answers, and the two comparisons of the laws.
-/
import Derived.Test.YtnpbokbfkdncmaaGreatZCrcRef
import Derived.Test.YtnpbokbfkdncmaaGreatZGB
import Derived.Test.YtnpbokbfkdncmaaGreatZSls
namespace Go.Proofs.YtnpbokbfkdncmaaGreat.Fr
set_option linter.unusedSimpArgs false
set_option linter.unusedVariables false
open Go.RowKit Crc Fm

set_option maxHeartbeats 400000 in
theorem four_any (x : BitVec 32) (w : World) :
    Calls Tryz.prog 33 #[.int .u32 x.toNat] w (SlPost w 4 (word x)) := by
  have b0 := hid_ (byte0 x)
  have b1 := hid_ (byte1 x)
  have b2 := hid_ (byte2 x)
  have b3 := hid_ (byte3 x)
  have hx := x.isLt
  go_enter Tryz.func33, Tryz.ntmps33
  go_wp2
  go_ret
  exact ⟨_, _, rfl, own_lit w (word x) _ (by rw [b0.out, b1.out, b2.out, b3.out]; rfl) 4 rfl (by omega) _ (Nat.le_refl _), (Below.refl _ _).alloc (Nat.le_refl _) _⟩

theorem four_of {l : List UInt8} (h : 4 ≤ l.length) : ∃ a b c d t, l = a :: b :: c :: d :: t := by
  match l, h with
  | a :: b :: c :: d :: t, _ => exact ⟨a, b, c, d, t, rfl⟩
set_option maxHeartbeats 400000 in
theorem number_any (A : Option Addr) (n c : Nat) (l : List UInt8) (w : World) (hs : Sl w A n c l) (h4 : 4 ≤ n) :
    Calls Tryz.prog 61 #[.slice A n c] w fun e w' => e = .returned (.int .u32 (numN l : Nat)) ∧ ∃ k, w' = w.drewN k := by
  have hl := hs.len
  obtain ⟨b, off, rfl, hc0⟩ := hs.holds.at_ (k := 0) (by omega)
  obtain ⟨_, _, e1, hc1⟩ := hs.holds.at_ (k := 1) (by omega)
  cases e1
  obtain ⟨_, _, e2, hc2⟩ := hs.holds.at_ (k := 2) (by omega)
  cases e2
  obtain ⟨_, _, e3, hc3⟩ := hs.holds.at_ (k := 3) (by omega)
  cases e3
  obtain ⟨c0, c1, c2, c3, t, rfl⟩ := four_of (l := l) (by omega)
  simp only [List.getElem_cons_zero, List.getElem_cons_succ, Nat.add_zero] at hc0 hc1 hc2 hc3
  have hle := hs.le
  have g0 : 0 < n := by omega
  have g1 : 1 < n := by omega
  have g2 : 2 < n := by omega
  have g3 : 3 < n := by omega
  have u0 := UInt8.toNat_lt c0
  have u1 := UInt8.toNat_lt c1
  have u2 := UInt8.toNat_lt c2
  have u3 := UInt8.toNat_lt c3
  clear hs hl
  go_enter Tryz.func61, Tryz.ntmps61
  go_wp2
  go_quiet (fail)
  go_wp2
  go_ret
  exact ⟨ret_of (by simp only [numN]; omega), _, rfl⟩
theorem number_below (A : Option Addr) (n c : Nat) (l : List UInt8) (w : World) (hs : Sl w A n c l) (h4 : 4 ≤ n) :
    Calls Tryz.prog 61 #[.slice A n c] w fun e w' => e = .returned (.int .u32 (numN l : Nat)) ∧ Below w.heap.size w w' :=
  (number_any A n c l w hs h4).mono fun e w' ⟨h, k, hw⟩ => ⟨h, by rw [hw]; exact below_drewN (Below.refl _ _) _⟩

/-- The place A1 is in the block of A. -/
def Within (A1 A : Option Addr) : Prop := ∀ a, A1 = some a → ∃ a0, A = some a0 ∧ a.block = a0.block
theorem Within.refl (A : Option Addr) : Within A A := fun a h => ⟨a, h, rfl⟩
theorem Within.none (A : Option Addr) : Within .none A := fun a h => by cases h
theorem Within.trans {A B C : Option Addr} (h : Within A B) (k : Within B C) : Within A C := fun a ha => by
  obtain ⟨b, hb, e⟩ := h a ha
  obtain ⟨c, hc, e'⟩ := k b hb
  exact ⟨c, hc, e.trans e'⟩
theorem Within.off (A : Option Addr) (k : Nat) : Within (A.map fun x => { block := x.block, off := x.off + k }) A := fun a h => by
  rcases A with _ | x
  · cases h
  · cases h; exact ⟨x, rfl, rfl⟩
theorem Within.away {A1 A : Option Addr} (h : Within A1 A) {w : World} {n c : Nat} {l m : List UInt8} (hs : Sl w A n c l) (hl : l ≠ []) (row : Option Nat) (hr : ∀ k, row = some k → w.heap.size ≤ k) : Away A1 m row := by
  intro _ a ha e
  obtain ⟨a0, rfl, e'⟩ := h a ha
  have := hs.block hl
  have := hr _ e
  omega

def RefCut (w : World) (A : Option Addr) (l : List UInt8) (e : Ending) (w' : World) : Prop :=
  ∃ A1 n1 c1 A2 n2 c2, e = .returned (.tuple #[.slice A1 n1 c1, .slice A2 n2 c2, .int .i64 (cutF l).1]) ∧ Sl w' A1 n1 c1 (cutF l).2.1 ∧ Sl w' A2 n2 c2 (cutF l).2.2 ∧ Within A1 A ∧ Within A2 A ∧ Below w.heap.size w w'
theorem refCut_none {w w' : World} {A : Option Addr} {l : List UInt8} {k : Int} (h : cutF l = (k, [], [])) (hb : Below w.heap.size w w') :
    RefCut w A l (.returned (.tuple #[.slice none 0 0, .slice none 0 0, .int .i64 k])) w' :=
  ⟨none, 0, 0, none, 0, 0, by rw [h], by rw [h]; exact Sl.none _, by rw [h]; exact Sl.none _, Within.none _, Within.none _, hb⟩
theorem refCut_ok {w w' : World} {A : Option Addr} {l d r : List UInt8} {A1 A2 : Option Addr} {n1 c1 n2 c2 : Nat} (h : cutF l = (0, d, r)) (h1 : Sl w' A1 n1 c1 d) (h2 : Sl w' A2 n2 c2 r) (i1 : Within A1 A) (i2 : Within A2 A) (hb : Below w.heap.size w w') :
    RefCut w A l (.returned (.tuple #[.slice A1 n1 c1, .slice A2 n2 c2, .int .i64 0])) w' :=
  ⟨A1, n1, c1, A2, n2, c2, by rw [h], by rw [h]; exact h1, by rw [h]; exact h2, i1, i2, hb⟩
theorem refCut_cut {w : World} {A : Option Addr} {l : List UInt8} {e : Ending} {w' : World} (h : RefCut w A l e w') : CutPost w l e w' :=
  let ⟨A1, n1, c1, A2, n2, c2, h1, h2, h3, _, _, h4⟩ := h; ⟨A1, n1, c1, A2, n2, c2, h1, h2, h3, h4⟩

set_option maxHeartbeats 1000000 in
theorem refcut_any (A : Option Addr) (n c : Nat) (l : List UInt8) (w : World) (hs : Sl w A n c l) :
    Calls Tryz.prog 26 #[.slice A n c] w (RefCut w A l) := by
  have hle := hs.le
  have hcm := hs.max
  have hnc := hs.cap
  have Hs := hid_ hs
  have Hlen := hid_ hs.len
  clear hs
  by_cases h4 : n < 4
  · have Hc := hid_ (cut_few (l := l) (by rw [Hlen.out]; exact h4))
    go_enter Tryz.func26, Tryz.ntmps26
    go_wp2
    go_ret3
    exact refCut_none Hc.out (Below.refl _ _)
  have hN := numN_lt l
  have Hw := hid_ (number_below A n c l w Hs.out (by omega))
  have Hl4 := hid_ (show ¬ l.length < 4 by rw [Hlen.out]; exact h4)
  by_cases hbig : 8192 < numN l
  · have Hc := hid_ (cut_long Hl4.out hbig)
    go_enter Tryz.func26, Tryz.ntmps26
    go_wp2_with (go_at_call 61; refine Hw.out.mono ?_; rintro e w' ⟨rfl, hb'⟩; have Hb1 := hid_ hb'; clear hb')
    go_ret3
    exact refCut_none Hc.out Hb1.out
  by_cases hsh : n < 4 + numN l + 4
  · have Hc := hid_ (cut_cut Hl4.out hbig (by rw [Hlen.out]; exact hsh))
    go_enter Tryz.func26, Tryz.ntmps26
    go_wp2_with (go_at_call 61; refine Hw.out.mono ?_; rintro e w' ⟨rfl, hb'⟩; have Hb1 := hid_ hb'; clear hb')
    go_ret3
    exact refCut_none Hc.out Hb1.out
  have hcut : cutAt A c (4 + numN l) = A.map fun x => x.add (4 + numN l) := if_neg (by omega)
  have Hsum := hid_ (fun W (h : Sl W A n c l) k => refsum_any A (4 + numN l) c (l.take (4 + numN l)) (W.drewN k) ((h.upto (4 + numN l) (by omega)).drew k).holds (h.upto (4 + numN l) (by omega)).len (by omega))
  have Hnum := hid_ (fun W (h : Sl W A n c l) k => number_any (A.map fun x => x.add (4 + numN l)) (n - (4 + numN l)) (c - (4 + numN l)) (l.drop (4 + numN l)) (W.drewN k) (by have h1 := h.from_ (4 + numN l) (by omega); rw [hcut] at h1; exact h1.drew k) (by omega))
  have hN2 := numN_lt (l.drop (4 + numN l))
  have hM2 := (more 0#32 (l.take (4 + numN l))).isLt
  by_cases hsum : (more 0#32 (l.take (4 + numN l))).toNat = numN (l.drop (4 + numN l))
  · have Hc := hid_ (cut_ok Hl4.out hbig (by rw [Hlen.out]; exact hsh) hsum)
    have Hd := hid_ ((Hs.out.upto (4 + numN l) (by omega)).from_ 4 (by omega))
    have Hr := hid_ (Hs.out.from_ (4 + numN l + 4) (by omega))
    have hb : ((numN (l.drop (4 + numN l)) : Int) != ((more 0#32 (l.take (4 + numN l))).toNat : Int)) = false := by rw [hsum]; simp
    clear hsum hcut
    go_enter Tryz.func26, Tryz.ntmps26
    go_wp2_with (go_at_call 61; refine Hw.out.mono ?_; rintro e w1 ⟨rfl, hb'⟩; have Hb1 := hid_ hb'; clear hb')
    have Hs1 := hid_ (Hs.out.below Hb1.out)
    go_quiet ((first | (go_at_call 34; exact Calls.quiet_of_same (quiet_flip (Hsum.out _ Hs1.out _))) | (go_at_call 61; exact Calls.quiet_of (Hnum.out _ Hs1.out _))))
    clear Hw Hsum Hnum hN2 hM2
    go_wp2_with fail
    go_quiet (fail)
    go_wp2_with fail
    all_goals
      go_ret3
      refine refCut_ok Hc.out (Sl.drew (Sl.below (Hd.out.at_ (by first | exact cutAt_same (by omega) | exact cutAt_off (by omega) (by omega) (by omega)) (by omega) (by omega) rfl) Hb1.out) _) (Sl.drew (Sl.below (Hr.out.at_ (by first | exact cutAt_same (by omega) | exact cutAt_off (by omega) (by omega) (by omega)) (by omega) (by omega) rfl) Hb1.out) _) (by first | exact Within.refl _ | exact Within.off _ _) (by first | exact Within.refl _ | exact Within.off _ _) (below_drewN Hb1.out _)
  · have Hc := hid_ (cut_bad Hl4.out hbig (by rw [Hlen.out]; exact hsh) hsum)
    have hb : ((numN (l.drop (4 + numN l)) : Int) != ((more 0#32 (l.take (4 + numN l))).toNat : Int)) = true := by rw [bne_iff_ne]; omega
    clear hsum hcut
    go_enter Tryz.func26, Tryz.ntmps26
    go_wp2_with (go_at_call 61; refine Hw.out.mono ?_; rintro e w1 ⟨rfl, hb'⟩; have Hb1 := hid_ hb'; clear hb')
    have Hs1 := hid_ (Hs.out.below Hb1.out)
    go_quiet ((first | (go_at_call 34; exact Calls.quiet_of_same (quiet_flip (Hsum.out _ Hs1.out _))) | (go_at_call 61; exact Calls.quiet_of (Hnum.out _ Hs1.out _))))
    clear Hw Hsum Hnum hN2 hM2
    go_wp2_with fail
    go_ret3
    exact refCut_none Hc.out (below_drewN Hb1.out _)
theorem four_at (x : BitVec 32) (v : Int) (w : World) (hv : v = (x.toNat : Int)) : Calls Tryz.prog 33 #[.int .u32 v] w (SlPost w 4 (word x)) := by
  subst hv
  exact four_any x w

set_option maxHeartbeats 400000 in
theorem refput_large (A0 A1 : Option Addr) (n0 c0 n1 c1 : Nat) (w : World) (h : 8192 < n1) :
    Calls Tryz.prog 14 #[.slice A0 n0 c0, .slice A1 n1 c1] w fun e w' => e = .returned (.tuple #[.slice none 0 0, .int .i64 4]) ∧ w = w' := by
  go_enter Tryz.func14, Tryz.ntmps14
  go_wp2
  go_ret2
  exact ⟨rfl, rfl⟩

set_option maxHeartbeats 1000000 in
theorem refput_any (A0 A1 : Option Addr) (n0 c0 n1 c1 : Nat) (l0 l1 : List UInt8) (w : World) (h0 : Sl w A0 n0 c0 l0) (h1 : Sl w A1 n1 c1 l1) (hn : n1 ≤ 8192) (hm : n0 ≤ 140737488000000) :
    Calls Tryz.prog 14 #[.slice A0 n0 c0, .slice A1 n1 c1] w (PutPost w (n0 + 4 + n1 + 4) (l0 ++ framed l1)) := by
  have H0 := hid_ h0
  have H1 := hid_ h1
  have Hlen := hid_ h1.len
  clear h0 h1
  have Hx := hid_ (show (n1 : Int) = ((BitVec.ofNat 32 n1).toNat : Int) by rw [BitVec.toNat_ofNat]; omega)
  have Hlit := hid_ (fun W : World => own_lit W [] #[] rfl 0 rfl (by omega) W.heap.size (Nat.le_refl _))
  go_enter Tryz.func14, Tryz.ntmps14
  go_wp2_with (first
    | (go_at_call 33; (with_reducible refine Calls.mono (four_at (BitVec.ofNat 32 n1) _ w Hx.out) ?_); rintro e w1 ⟨B1, d1, rfl, ho', hb'⟩; have Ho1 := hid_ ho'; have Hb1 := hid_ hb'; clear ho' hb')
    | (at_builtin; refine wpList_bytes rfl (.tmp 13) (.tmp 14) rfl w.heap.size _ 4 _ _ rfl Ho1.out _ n1 c1 l1 rfl (H1.out.below Hb1.out) (4 + n1) _ (by omega) rfl (by omega) Hb1.out.size ?_; intro B2 d2 w2 ho' hb'; have Ho2 := hid_ ho'; have Hb2 := hid_ (Hb1.out.trans hb'); clear ho' hb')
    | (at_builtin; refine wpList_bytes rfl (.tmp 16) (.tmp 17) rfl w2.heap.size _ 0 _ _ rfl (Hlit.out w2) _ n0 c0 l0 rfl ((H0.out.below Hb2.out).below ((Below.refl _ _).alloc (Nat.le_refl _) _)) n0 l0 (by omega) rfl (by omega) (by simp) ?_; intro B3 d3 w3 ho' hb'; have Ho3 := hid_ ho'; have Hb3 := hid_ (((Below.refl _ _).alloc (Nat.le_refl _) _).trans hb'); have Hs3 := hid_ (Ho2.out.sl.below Hb3.out); clear ho' hb')
    | (at_builtin; refine wpList_bytes rfl (.tmp 18) (.tmp 19) rfl w2.heap.size _ n0 _ _ rfl Ho3.out _ (4 + n1) d2 _ rfl Hs3.out (n0 + (4 + n1)) _ rfl rfl (by omega) Hb3.out.size ?_; intro B4 d4 w4 ho' hb'; have Ho4 := hid_ ho'; have Hb4 := hid_ (Hb3.out.trans hb'); have Hs4 := hid_ (Ho2.out.sl.below (Hb3.out.trans hb')); clear ho' hb')
    | (go_at_call 34; (with_reducible refine Calls.mono (refsum_any _ _ _ _ w4 Hs4.out.holds Hs4.out.len (by omega)) ?_); rintro e w' ⟨rfl, rfl⟩)
    | (go_at_call 33; (with_reducible refine Calls.mono (four_any _ w4) ?_); rintro e w5 ⟨B5, d5, rfl, ho', hb'⟩; have Ho5 := hid_ (Ho4.out.later hb'); have Hs5 := hid_ ho'.sl; have Hb5 := hid_ (Hb4.out.trans (hb'.mono Hb4.out.size)); clear ho' hb')
    | (at_builtin; refine wpList_bytes rfl (.tmp 20) (.tmp 23) rfl w2.heap.size _ (n0 + (4 + n1)) _ _ rfl Ho5.out _ 4 d5 _ rfl Hs5.out (n0 + 4 + n1 + 4) _ (by omega) rfl (by omega) Hb5.out.size ?_; intro B6 d6 w6 ho' hb'; have Ho6 := hid_ ho'; have Hb6 := hid_ (Hb2.out.trans ((Hb5.out.trans hb').mono Hb2.out.size)); clear ho' hb'))
  go_ret2
  refine putPost_mk ((Ho6.out.mono Hb2.out.size).at_ rfl ?_) Hb6.out
  rw [framed, Hlen.out]
  simp only [List.append_assoc]

end Go.Proofs.YtnpbokbfkdncmaaGreat.Fr
