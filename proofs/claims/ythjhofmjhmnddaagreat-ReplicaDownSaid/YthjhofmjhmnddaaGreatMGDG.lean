/-
  The document's registers in a list: Get, Put, Handle.
-/
import Derived.Test.YthjhofmjhmnddaaGreatMGDD
import Derived.Test.YthjhofmjhmnddaaGreatMGDF
import Derived.Test.YthjhofmjhmnddaaGreatMRefPack
set_option linter.unusedSimpArgs false
set_option linter.unusedVariables false
namespace Go.Proofs.YthjhofmjhmnddaaGreat
open Go.RowKit Rg Bl Re Wl Dsk Fm Vw
attribute [local go_sem ↓] Go.wp_at_zero Go.wp_at_succ
namespace Rp
theorem getR_drop {l : List OneD} {t : Nat} : ∀ k, (∀ j (hj : j < l.length), j < k → l[j].trace ≠ t) → getR l t = getR (l.drop k) t := by
 induction l with
 | nil => intro k _; rw [List.drop_nil]
 | cons o l ih =>
   intro k h
   rcases k with _ | k
   ·rfl
   ·have h0 := h 0 (by simp) (by omega)
    simp only [List.getElem_cons_zero] at h0
    rw [getR, if_neg h0, List.drop_succ_cons]
    exact ih k (fun j hj hjk => h (j + 1) (by simp; omega) (by omega))
theorem getR_found {l : List OneD} {t k : Nat} (hk : k < l.length) (h : ∀ j (hj : j < l.length), j < k → l[j].trace ≠ t) (e : l[k].trace = t) : getR l t = l[k].r := by
 rw [getR_drop k h, List.drop_eq_getElem_cons hk, getR, if_pos e]
theorem getR_end {l : List OneD} {t : Nat} (h : ∀ j (hj : j < l.length), l[j].trace ≠ t) : getR l t = zeroR := by
 rw [getR_drop l.length (fun j hj _ => h j hj), List.drop_length]
 rfl
theorem putR_at {t : Nat} {r : RegD} : ∀ {l : List OneD} (k : Nat), k ≤ l.length → (∀ j (hj : j < l.length), j < k → l[j].trace < t) → (∀ hk : k < l.length, ¬ l[k].trace < t) →
  putR l t r = l.take k ++ [⟨t, r⟩] ++ (match (l.drop k) with | [] => [] | o :: rest => if o.trace = t then rest else o :: rest)
 | [], k, hk, _, _ => by simp [putR]
 | o :: l, 0, _, _, h => by
   have h0 : ¬ o.trace < t := h (by simp)
   unfold putR
   rw [if_neg h0]
   simp only [List.take_zero, List.drop_zero, List.nil_append]
   split <;> rfl
 | o :: l, k + 1, hk, h1, h2 => by
   have h0 : o.trace < t := h1 0 (by simp) (by omega)
   unfold putR
   rw [if_pos h0, putR_at (l := l) k (by simpa using hk) (fun j hj hjk => by have := h1 (j + 1) (by simp; omega) (by omega); simpa using this) (fun hk2 => by have := h2 (by simp; omega); simpa using this)]
   simp
set_option maxRecDepth 20000 in
set_option maxHeartbeats 4000000 in
theorem rget_any (A : Option Addr) (n c : Nat) (l : List OneD) (t : Nat) (w : World) (h : oneE.Row w A n c l) : Calls Tryz.prog 42 #[.slice A n c, .int .u64 (t : Nat)] w (RetB w.heap.size w (regVal (getR l t))) := by
 obtain rfl := h.len
 have hle := Nat.le_trans h.cap h.max
 have HL := hid_ h
 have HBa := hid_ (show Below w.heap.size w (w.alloc (.cells #[.int .u64 0, .int .u64 0, .int .u64 0, .int .u64 0, .int .i64 0] 64)) from (Below.refl _ _).alloc (Nat.le_refl _) _)
 have HWa := hid_ (whole_new w 64 #[.int .u64 0, .int .u64 0, .int .u64 0, .int .u64 0, .int .i64 0])
 have HSz := hid_ (show w.heap.size < (w.alloc (.cells #[.int .u64 0, .int .u64 0, .int .u64 0, .int .u64 0, .int .i64 0] 64)).heap.size by simp)
 obtain ⟨wa, hwa⟩ : ∃ wa : World, wa = w.alloc (.cells #[.int .u64 0, .int .u64 0, .int .u64 0, .int .u64 0, .int .i64 0] 64) := ⟨_, rfl⟩
 rw [← hwa] at HBa HWa HSz
 have HWw := hid_ hwa
 clear h hwa
 go_enter Tryz.func42, Tryz.ntmps42
 go_wp2_with fail
 try rw [← HWw.out]
 go_loopw [5] (fun vi wr => ∃ k : Nat, k ≤ l.length ∧ vi = .int .i64 (k : Nat) ∧ Hid (∀ j (hj : j < l.length), j < k → l[j].trace ≠ t) ∧ Hid (wa = wr)) (fun vi _ => l.length - (intOf vi).toNat)
 case atStart => exact ⟨0, Nat.zero_le _, rfl, hid_ (fun j hj h => absurd h (by omega)), hid_ rfl⟩
 case round =>
  obtain ⟨k, hk, rfl, Hg, Hw⟩ := hrel
  obtain rfl := Hw.out
  by_cases hlt : k < l.length
  ·obtain ⟨b, off, rfl, a0, a1, a2, a3, a4, a5⟩ := one_at (HL.out.below HBa.out) hlt
   have x1 : (k : Int) < (l.length : Int) := by omega
   have x2 : (0 : Int) ≤ (k : Int) := by omega
   have HK := hid_ hlt
   by_cases he : l[k].trace = t
   ·have Hf := hid_ (getR_found hlt Hg.out he)
    generalize l[k] = o at *
    have e1 : (o.trace == t) = true := beq_iff_eq.2 he
    have e2 : ((o.trace : Int) == (t : Int)) = true := beq_iff_eq.2 (by omega)
    rw [Hf.out]
    have f1 := fun i => HWa.out.free i
    have u0 := HWa.out.cell 0 (.int .u64 0) rfl
    have u1 := HWa.out.cell 1 (.int .u64 0) rfl
    have u2 := HWa.out.cell 2 (.int .u64 0) rfl
    have u3 := HWa.out.cell 3 (.int .u64 0) rfl
    have u4 := HWa.out.cell 4 (.int .i64 0) rfl
    clear he hlt
    go_wp2_with fail
    have HW2 := hid_ (whole_set5 HWa.out (.int .u64 (o.r.p.pos : Nat)) (.int .u64 (o.r.p.id : Nat)) (.int .u64 (o.r.t.pos : Nat)) (.int .u64 (o.r.t.id : Nat)) (.int .i64 o.r.v))
    have k0 := HW2.out.cell 0 (.int .u64 (o.r.p.pos : Nat)) rfl
    have k1 := HW2.out.cell 1 (.int .u64 (o.r.p.id : Nat)) rfl
    have k2 := HW2.out.cell 2 (.int .u64 (o.r.t.pos : Nat)) rfl
    have k3 := HW2.out.cell 3 (.int .u64 (o.r.t.id : Nat)) rfl
    have k4 := HW2.out.cell 4 (.int .i64 o.r.v) rfl
    exact bodyPost_ret (v := regVal o.r) (by simp [results, Tryz.results42, go_sem, k0, k1, k2, k3, k4]) rfl (retB_mk rfl (below_set5 HBa.out (Nat.le_refl _) _ _ _ _ _))
   ·have Hn := hid_ (show ∀ j (hj : j < l.length), j < k + 1 → l[j].trace ≠ t from fun j hj h2 => by
     by_cases e : j = k
     ·subst e; exact he
     ·exact Hg.out j hj (by omega))
    generalize l[k] = o at *
    have e1 : (o.trace == t) = false := beq_eq_false_iff_ne.2 he
    have e2 : ((o.trace : Int) == (t : Int)) = false := beq_eq_false_iff_ne.2 (by omega)
    clear he hlt
    go_wp2_with fail
    go_roundw
    case rel => exact ⟨k + 1, by have := HK.out; omega, by go_num, Hn, hid_ (by first | rfl | trivial)⟩
    case measure => have := HK.out; simp [intOf] <;> omega
  ·obtain rfl : k = l.length := by omega
   have Hf := hid_ (getR_end (fun j hj => Hg.out j hj hj))
   have f1 := fun i => HWa.out.free i
   have u0 := HWa.out.cell 0 (.int .u64 0) rfl
   have u1 := HWa.out.cell 1 (.int .u64 0) rfl
   have u2 := HWa.out.cell 2 (.int .u64 0) rfl
   have u3 := HWa.out.cell 3 (.int .u64 0) rfl
   have u4 := HWa.out.cell 4 (.int .i64 0) rfl
   clear hlt
   go_wp2_with fail
   have HW2 := hid_ (whole_set5 HWa.out (.int .u64 0) (.int .u64 0) (.int .u64 0) (.int .u64 0) (.int .i64 0))
   have k0 := HW2.out.cell 0 (.int .u64 0) rfl
   have k1 := HW2.out.cell 1 (.int .u64 0) rfl
   have k2 := HW2.out.cell 2 (.int .u64 0) rfl
   have k3 := HW2.out.cell 3 (.int .u64 0) rfl
   have k4 := HW2.out.cell 4 (.int .i64 0) rfl
   exact bodyPost_ret (v := regVal zeroR) (by simp [results, Tryz.results42, go_sem, k0, k1, k2, k3, k4, zeroR]) rfl (retB_mk (by rw [Hf.out]) (below_set5 HBa.out (Nat.le_refl _) _ _ _ _ _))
abbrev RIn (w1 : World) (g : Nat) (r : RegD) (W : World) : Prop := Below w1.heap.size w1 W ∧ R5 W g r
theorem one_new_at' (w : World) (g : Nat) (t : Nat) (r : RegD) (T : TypeId) (h : g = w.heap.size) : oneE.Row (w.alloc (.cells #[.int .u64 (t : Nat), .int .u64 (r.p.pos : Nat), .int .u64 (r.p.id : Nat), .int .u64 (r.t.pos : Nat), .int .u64 (r.t.id : Nat), .int .i64 r.v] T)) (some ⟨g, 0, none⟩) 1 1 [⟨t, r⟩] := one_new_at w g ⟨t, r⟩ T h
def PutPost (w : World) (R : List OneD) (e : Ending) (w' : World) : Prop := ∃ A c, e = .returned (.slice A R.length c) ∧ OwnO w.heap.size w' A R.length c R ∧ Below w.heap.size w w'
theorem place_add (b off k : Nat) : Option.map (fun x : Addr => x.add (k * oneE.K)) (some ⟨b, off, none⟩) = some ⟨b, off + k * 6, none⟩ := by
 show some (Addr.add ⟨b, off, none⟩ (k * 6)) = _
 rw [add_plain]
theorem rowTo {w : World} {A A' : Option Addr} {n n' c c' : Nat} {ss : List OneD} (h : oneE.Row w A n c ss) (eA : A = A') (en : n = n') (ec : c = c') : oneE.Row w A' n' c' ss := by subst eA en ec; exact h
theorem rIn_keep {w1 W W' : World} {g : Nat} {r : RegD} (h : RIn w1 g r W) (hb : Below W.heap.size W W') : RIn w1 g r W' := ⟨h.1.trans (hb.mono h.1.size), r5_below h.2 hb⟩
theorem r5_low {W W' : World} {g B : Nat} {r : RegD} (h : R5 W g r) (hg : g < B) (hb : Below B W W') : R5 W' g r := by
 obtain ⟨a, b, c, d, e⟩ := h
 exact ⟨(hb.cell (p := ⟨g, 0, none⟩) hg).trans a, (hb.cell (p := ⟨g, 1, none⟩) hg).trans b, (hb.cell (p := ⟨g, 2, none⟩) hg).trans c, (hb.cell (p := ⟨g, 3, none⟩) hg).trans d, (hb.cell (p := ⟨g, 4, none⟩) hg).trans e⟩
theorem rIn_keepB {w1 W W' : World} {g : Nat} {r : RegD} (hg : g < w1.heap.size) (h : RIn w1 g r W) (hb : Below w1.heap.size W W') : RIn w1 g r W' := ⟨h.1.trans hb, r5_low h.2 hg hb⟩
set_option maxRecDepth 20000 in
set_option maxHeartbeats 8000000 in
theorem rput_any (A : Option Addr) (n c : Nat) (l : List OneD) (t : Nat) (r : RegD) (w : World) (h : oneE.Row w A n c l) (hpl : ∀ a, A = some a → a.spot = none) (hn : n ≤ 1000000) : Calls Tryz.prog 45 #[.slice A n c, .int .u64 (t : Nat), regVal r] w (PutPost w (putR l t r)) := by
 obtain rfl := h.len
 have hcap := h.cap
 have hmax := h.max
 have HBa := hid_ (show Below w.heap.size w (w.alloc (.cells (regCells r) 64)) from (Below.refl _ _).alloc (Nat.le_refl _) _)
 have HL := hid_ (h.below HBa.out)
 have HR := hid_ (r5_of (whole_new w 64 (regCells r)))
 have HSz := hid_ (show w.heap.size < (w.alloc (.cells (regCells r) 64)).heap.size by simp)
 obtain ⟨wa, hwa⟩ : ∃ wa : World, wa = w.alloc (.cells (regCells r) 64) := ⟨_, rfl⟩
 rw [← hwa] at HBa HL HR HSz
 have HWw := hid_ hwa
 have HPl := hid_ hpl
 clear h hwa hpl
 go_enter Tryz.func45, Tryz.ntmps45
 go_wp2_with fail
 try rw [← HWw.out]
 go_loopw [7] (fun vi wr => ∃ k : Nat, k ≤ l.length ∧ vi = .int .i64 (k : Nat) ∧ Hid (∀ j (hj : j < l.length), j < k → l[j].trace < t) ∧ Hid (wa = wr)) (fun vi _ => l.length - (intOf vi).toNat)
 case atStart => exact ⟨0, Nat.zero_le _, rfl, hid_ (fun j hj h => absurd h (by omega)), hid_ rfl⟩
 case round =>
  obtain ⟨k, hk, rfl, Hg, Hw⟩ := hrel
  obtain rfl := Hw.out
  by_cases hmore : ∃ hlt : k < l.length, l[k].trace < t
  ·obtain ⟨hlt, he⟩ := hmore
   obtain ⟨b, off, rfl, a0, a1, a2, a3, a4, a5⟩ := one_at HL.out hlt
   have x1 : (k : Int) < (l.length : Int) := by omega
   have x2 : (0 : Int) ≤ (k : Int) := by omega
   have HK := hid_ hlt
   have Hn := hid_ (show ∀ j (hj : j < l.length), j < k + 1 → l[j].trace < t from fun j hj h2 => by
    by_cases e : j = k
    ·subst e; exact he
    ·exact Hg.out j hj (by omega))
   generalize l[k] = o at *
   have e0 : decide (k < l.length) = true := decide_eq_true (by omega)
   have e1 : decide (o.trace < t) = true := decide_eq_true he
   have e2 : decide ((o.trace : Int) < (t : Int)) = true := decide_eq_true (by omega)
   clear he hlt
   go_wp2_with fail
   go_roundw
   case rel => exact ⟨k + 1, by have := HK.out; omega, by go_num, Hn, hid_ (by first | rfl | trivial)⟩
   case measure => have := HK.out; simp [intOf] <;> omega
  ·have HPut := hid_ (putR_at (r := r) k hk Hg.out (fun hlt he => hmore ⟨hlt, he⟩))
   have HSl := hid_ (HL.out.from_ k hk)
   have xk : (0 : Int) ≤ (k : Int) := by omega
   have xl : (k : Int) ≤ (l.length : Int) := by omega
   have xc : (l.length : Int) ≤ (c : Int) := by omega
   have xkc : (k : Int) ≤ (c : Int) := by omega
   have HR0 : RIn wa w.heap.size r wa := ⟨Below.refl _ _, HR.out⟩
   have HBz := hid_ HBa.out
   by_cases hlt : k < l.length
   · -- something is behind
    obtain ⟨b, off, rfl, a0, a1, a2, a3, a4, a5⟩ := one_at HL.out hlt
    have HDr := hid_ (List.drop_eq_getElem_cons hlt)
    have HNl := hid_ (show ¬ l[k].trace < t from fun he => hmore ⟨hlt, he⟩)
    generalize l[k] = o at *
    rw [HDr.out] at HPut
    simp only at HPut
    have e0 : decide (k < l.length) = true := decide_eq_true hlt
    have e1 : decide (o.trace < t) = false := decide_eq_false HNl.out
    have e2 : decide ((o.trace : Int) < (t : Int)) = false := decide_eq_false (by have := HNl.out; omega)
    have x1 : (k : Int) < (l.length : Int) := by omega
    have xnc : ¬ c = k := by omega
    have xp : (0 : Int) < (l.length : Int) - (k : Int) := by omega
    have xq : decide (0 < l.length - k) = true := decide_eq_true (by omega)
    have xr : (0 : Int) ≤ (1 : Int) := by omega
    have xs : (1 : Int) ≤ (l.length : Int) - (k : Int) := by omega
    have hsl := HSl.out
    unfold Enc.cutAtK at hsl
    rw [if_neg xnc] at hsl
    have HS2 := hid_ hsl
    clear hsl hmore
    obtain ⟨wq, rfl⟩ : ∃ wq : World, wq = wa := ⟨_, rfl⟩
    have HLq := hid_ HL.out
    have S0 : RIn wq w.heap.size r wq := HR0
    have hno : ∀ x : Nat, x + 1 ≤ 1000001 → x * 48 ≤ 140737488355328 := fun x h => by omega
    by_cases he : o.trace = t
    · -- it is this one
     have e3 : (o.trace == t) = true := beq_iff_eq.2 he
     have e4 : ((o.trace : Int) == (t : Int)) = true := beq_iff_eq.2 (by omega)
     rw [if_pos he] at HPut
     have HLen := hid_ (show l.length = (putR l t r).length by rw [HPut.out]; simp <;> omega)
     have HDr2 := hid_ (show (l.drop k).drop 1 = l.drop (k + 1) by rw [List.drop_drop])
     have HF1 := hid_ (HS2.out.from_ 1 (by omega))
     rw [HDr2.out] at HF1
     clear he
     by_cases hc1 : c - k = 1
     ·have HRs := hid_ (show oneE.Row wq (some ⟨b, off + k * 6, none⟩) (l.length - k - 1) (c - k - 1) (l.drop (k + 1)) by
       have h9 := HF1.out
       unfold Enc.cutAtK at h9
       rw [if_pos hc1] at h9
       exact h9.place (place_add b off k) rfl)
      go_wp2_with fail
      go_region_held3 (RIn wq w.heap.size r) (first | assumption | (refine rIn_keepB HSz.out (by assumption) (by assumption)) | (refine rIn_keep (by assumption) ((Below.refl _ _).alloc (Nat.le_refl _) _)) | (refine rIn_keep (by assumption) (Below.drew (Below.refl _ _))))
       (first
        | (refine Enc.step_rows (E := oneE) (e := 118) (by rfl) (.tmp 40) (.tmp 43) 32 (by rfl) _ 48 Tryz.underlying32 info_one rfl wq.heap.size _ 0 0 [] (by rfl) ?_ _ k _ (l.take k) (by rfl) ?_ k (l.take k) (by omega) (by rfl) (by omega) (by omega) ?_ ?_; (first | exact (Enc.own_empty _ _ rfl _ (by simp)) | exact Enc.Own.alloc (Enc.own_empty _ _ rfl _ (by simp)) _ | exact (Enc.own_empty_at _ _ _ rfl _ (by simp) (by simp)) | exact Enc.Own.alloc (Enc.own_empty_at _ _ _ rfl _ (by simp) (by simp)) _); (exact rowTo ((HLq.out.below (And.left (by assumption))).upto k (by omega)) rfl rfl (by omega)); (exact Below.size (And.left (by assumption))); (intro A1 c1 w1 ho1 hb1 hg1); (try (have hlit := Enc.lit_kept (E := oneE) (gl := wq.heap.size + 1) (s := ⟨t, r⟩) (hg := hg1) (h := by first | exact one_new_at' _ _ t r 118 (by simp) | exact (one_new_at' _ _ t r 118 (by simp)).below (Below.drew (Below.refl _ _))) (hne := by simp [Value.ownBlock]))); (try (have hlit := Enc.lit_kept (E := oneE) (gl := wq.heap.size) (s := ⟨t, r⟩) (hg := hg1) (h := by first | exact (one_new_at' _ _ t r 118 (by simp)).below ((Below.refl _ _).alloc (Nat.le_refl _) _) | exact (one_new_at' _ _ t r 118 (by simp)).below (Below.drew ((Below.refl _ _).alloc (Nat.le_refl _) _))) (hne := by simp [Value.ownBlock]))))
        | (refine Enc.step_rows (E := oneE) (e := 118) (by rfl) (.tmp 44) (.tmp 48) 32 (by rfl) _ 48 Tryz.underlying32 info_one rfl wq.heap.size A1 k c1 (l.take k) (by rfl) ?_ _ 1 1 [⟨t, r⟩] (by rfl) ?_ (k + 1) (l.take k ++ [⟨t, r⟩]) (by rfl) (by rfl) (by omega) (by omega) ?_ ?_; (first | exact ho1 | exact Enc.Own.alloc ho1 _); (first | exact hlit | exact one_new_at' _ _ t r 118 (by simp)); (exact Below.size (And.left (by assumption))); (intro A2 c2 w2 ho2 hb2 hg2))
        | (refine Enc.step_rows (E := oneE) (e := 118) (by rfl) (.tmp 49) (.tmp 50) 32 (by rfl) _ 48 Tryz.underlying32 info_one rfl wq.heap.size A2 (k + 1) c2 (l.take k ++ [⟨t, r⟩]) (by rfl) ho2 _ _ _ (l.drop (k + 1)) (by rfl) ?_ l.length (l.take k ++ [⟨t, r⟩] ++ l.drop (k + 1)) (by omega) (by rfl) (by omega) (by omega) ?_ ?_; (exact rowTo (HRs.out.below (And.left (by assumption))) rfl (by omega) (by omega)); (exact Below.size (And.left (by assumption))); (intro A3 c3 w3 ho3 hb3 hg3))
        | fail)
      all_goals
       have HO3 := hid_ (ho3.at_ (l' := putR l t r) HLen.out (by rw [HPut.out]))
       have HB3 := hid_ (HBz.out.trans (Below.mono (And.left (by assumption)) HBz.out.size))
       clear ho1 ho2 ho3 hb1 hb2 hb3 hg1 hg2 hg3
       go_wp2_with fail
       go_ret
       exact ⟨_, _, congrArg (fun m => Ending.returned (Value.slice _ m _)) HLen.out, HO3.out.mono HBz.out.size, HB3.out⟩
     ·have HRs := hid_ (show oneE.Row wq (some ⟨b, off + k * 6 + 6, none⟩) (l.length - k - 1) (c - k - 1) (l.drop (k + 1)) by
       have h9 := HF1.out
       unfold Enc.cutAtK at h9
       rw [if_neg hc1] at h9
       exact h9.place (by rw [place_add b off k, place_add b (off + k * 6) 1]) rfl)
      go_wp2_with fail
      go_region_held3 (RIn wq w.heap.size r) (first | assumption | (refine rIn_keepB HSz.out (by assumption) (by assumption)) | (refine rIn_keep (by assumption) ((Below.refl _ _).alloc (Nat.le_refl _) _)) | (refine rIn_keep (by assumption) (Below.drew (Below.refl _ _))))
       (first
        | (refine Enc.step_rows (E := oneE) (e := 118) (by rfl) (.tmp 40) (.tmp 43) 32 (by rfl) _ 48 Tryz.underlying32 info_one rfl wq.heap.size _ 0 0 [] (by rfl) ?_ _ k _ (l.take k) (by rfl) ?_ k (l.take k) (by omega) (by rfl) (by omega) (by omega) ?_ ?_; (first | exact (Enc.own_empty _ _ rfl _ (by simp)) | exact Enc.Own.alloc (Enc.own_empty _ _ rfl _ (by simp)) _ | exact (Enc.own_empty_at _ _ _ rfl _ (by simp) (by simp)) | exact Enc.Own.alloc (Enc.own_empty_at _ _ _ rfl _ (by simp) (by simp)) _); (exact rowTo ((HLq.out.below (And.left (by assumption))).upto k (by omega)) rfl rfl (by omega)); (exact Below.size (And.left (by assumption))); (intro A1 c1 w1 ho1 hb1 hg1); (try (have hlit := Enc.lit_kept (E := oneE) (gl := wq.heap.size + 1) (s := ⟨t, r⟩) (hg := hg1) (h := by first | exact one_new_at' _ _ t r 118 (by simp) | exact (one_new_at' _ _ t r 118 (by simp)).below (Below.drew (Below.refl _ _))) (hne := by simp [Value.ownBlock]))); (try (have hlit := Enc.lit_kept (E := oneE) (gl := wq.heap.size) (s := ⟨t, r⟩) (hg := hg1) (h := by first | exact (one_new_at' _ _ t r 118 (by simp)).below ((Below.refl _ _).alloc (Nat.le_refl _) _) | exact (one_new_at' _ _ t r 118 (by simp)).below (Below.drew ((Below.refl _ _).alloc (Nat.le_refl _) _))) (hne := by simp [Value.ownBlock]))))
        | (refine Enc.step_rows (E := oneE) (e := 118) (by rfl) (.tmp 44) (.tmp 48) 32 (by rfl) _ 48 Tryz.underlying32 info_one rfl wq.heap.size A1 k c1 (l.take k) (by rfl) ?_ _ 1 1 [⟨t, r⟩] (by rfl) ?_ (k + 1) (l.take k ++ [⟨t, r⟩]) (by rfl) (by rfl) (by omega) (by omega) ?_ ?_; (first | exact ho1 | exact Enc.Own.alloc ho1 _); (first | exact hlit | exact one_new_at' _ _ t r 118 (by simp)); (exact Below.size (And.left (by assumption))); (intro A2 c2 w2 ho2 hb2 hg2))
        | (refine Enc.step_rows (E := oneE) (e := 118) (by rfl) (.tmp 49) (.tmp 50) 32 (by rfl) _ 48 Tryz.underlying32 info_one rfl wq.heap.size A2 (k + 1) c2 (l.take k ++ [⟨t, r⟩]) (by rfl) ho2 _ _ _ (l.drop (k + 1)) (by rfl) ?_ l.length (l.take k ++ [⟨t, r⟩] ++ l.drop (k + 1)) (by omega) (by rfl) (by omega) (by omega) ?_ ?_; (exact rowTo (HRs.out.below (And.left (by assumption))) rfl (by omega) (by omega)); (exact Below.size (And.left (by assumption))); (intro A3 c3 w3 ho3 hb3 hg3))
        | fail)
      all_goals
       have HO3 := hid_ (ho3.at_ (l' := putR l t r) HLen.out (by rw [HPut.out]))
       have HB3 := hid_ (HBz.out.trans (Below.mono (And.left (by assumption)) HBz.out.size))
       clear ho1 ho2 ho3 hb1 hb2 hb3 hg1 hg2 hg3
       go_wp2_with fail
       go_ret
       exact ⟨_, _, congrArg (fun m => Ending.returned (Value.slice _ m _)) HLen.out, HO3.out.mono HBz.out.size, HB3.out⟩
    ·have e3 : (o.trace == t) = false := beq_eq_false_iff_ne.2 he
     have e4 : ((o.trace : Int) == (t : Int)) = false := beq_eq_false_iff_ne.2 (by omega)
     rw [if_neg he, ← HDr.out] at HPut
     have HRs := hid_ (show oneE.Row wq (some ⟨b, off + k * 6, none⟩) (l.length - k) (c - k) (l.drop k) from HS2.out.place (place_add b off k) rfl)
     have HLen := hid_ (show l.length + 1 = (putR l t r).length by rw [HPut.out]; simp <;> omega)
     clear he
     go_wp2_with fail
     go_region_held3 (RIn wq w.heap.size r) (first | assumption | (refine rIn_keepB HSz.out (by assumption) (by assumption)) | (refine rIn_keep (by assumption) ((Below.refl _ _).alloc (Nat.le_refl _) _)) | (refine rIn_keep (by assumption) (Below.drew (Below.refl _ _))))
      (first
       | (refine Enc.step_rows (E := oneE) (e := 118) (by rfl) (.tmp 40) (.tmp 43) 32 (by rfl) _ 48 Tryz.underlying32 info_one rfl wq.heap.size _ 0 0 [] (by rfl) ?_ _ k _ (l.take k) (by rfl) ?_ k (l.take k) (by omega) (by rfl) (by omega) (by omega) ?_ ?_; (first | exact (Enc.own_empty _ _ rfl _ (by simp)) | exact Enc.Own.alloc (Enc.own_empty _ _ rfl _ (by simp)) _ | exact (Enc.own_empty_at _ _ _ rfl _ (by simp) (by simp)) | exact Enc.Own.alloc (Enc.own_empty_at _ _ _ rfl _ (by simp) (by simp)) _); (exact rowTo ((HLq.out.below (And.left (by assumption))).upto k (by omega)) rfl rfl (by omega)); (exact Below.size (And.left (by assumption))); (intro A1 c1 w1 ho1 hb1 hg1); (try (have hlit := Enc.lit_kept (E := oneE) (gl := wq.heap.size + 1) (s := ⟨t, r⟩) (hg := hg1) (h := by first | exact one_new_at' _ _ t r 118 (by simp) | exact (one_new_at' _ _ t r 118 (by simp)).below (Below.drew (Below.refl _ _))) (hne := by simp [Value.ownBlock]))); (try (have hlit := Enc.lit_kept (E := oneE) (gl := wq.heap.size) (s := ⟨t, r⟩) (hg := hg1) (h := by first | exact (one_new_at' _ _ t r 118 (by simp)).below ((Below.refl _ _).alloc (Nat.le_refl _) _) | exact (one_new_at' _ _ t r 118 (by simp)).below (Below.drew ((Below.refl _ _).alloc (Nat.le_refl _) _))) (hne := by simp [Value.ownBlock]))))
       | (refine Enc.step_rows (E := oneE) (e := 118) (by rfl) (.tmp 44) (.tmp 48) 32 (by rfl) _ 48 Tryz.underlying32 info_one rfl wq.heap.size A1 k c1 (l.take k) (by rfl) ?_ _ 1 1 [⟨t, r⟩] (by rfl) ?_ (k + 1) (l.take k ++ [⟨t, r⟩]) (by rfl) (by rfl) (by omega) (by omega) ?_ ?_; (first | exact ho1 | exact Enc.Own.alloc ho1 _); (first | exact hlit | exact one_new_at' _ _ t r 118 (by simp)); (exact Below.size (And.left (by assumption))); (intro A2 c2 w2 ho2 hb2 hg2))
       | (refine Enc.step_rows (E := oneE) (e := 118) (by rfl) (.tmp 49) (.tmp 50) 32 (by rfl) _ 48 Tryz.underlying32 info_one rfl wq.heap.size A2 (k + 1) c2 (l.take k ++ [⟨t, r⟩]) (by rfl) ho2 _ _ _ (l.drop k) (by rfl) ?_ (l.length + 1) (l.take k ++ [⟨t, r⟩] ++ l.drop k) (by omega) (by rfl) (by omega) (by omega) ?_ ?_; (exact rowTo (HRs.out.below (And.left (by assumption))) rfl (by omega) (by omega)); (exact Below.size (And.left (by assumption))); (intro A3 c3 w3 ho3 hb3 hg3))
       | fail)
     all_goals
      have HO3 := hid_ (ho3.at_ (l' := putR l t r) HLen.out (by rw [HPut.out]))
      have HB3 := hid_ (HBz.out.trans (Below.mono (And.left (by assumption)) HBz.out.size))
      clear ho1 ho2 ho3 hb1 hb2 hb3 hg1 hg2 hg3
      go_wp2_with fail
      go_ret
      exact ⟨_, _, congrArg (fun m => Ending.returned (Value.slice _ m _)) HLen.out, HO3.out.mono HBz.out.size, HB3.out⟩
   · -- nothing is behind
    have HPut := hid_ (show putR l t r = l.take k ++ [⟨t, r⟩] ++ l.drop k by
     have h9 := HPut.out
     rw [show l.drop k = [] from List.drop_eq_nil_of_le (by omega)] at h9 ⊢
     exact h9)
    obtain ⟨wq, rfl⟩ : ∃ wq : World, wq = wa := ⟨_, rfl⟩
    have HLq := hid_ HL.out
    have S0 : RIn wq w.heap.size r wq := HR0
    have e0 : decide (k < l.length) = false := decide_eq_false hlt
    have x1 : ¬ (k : Int) < (l.length : Int) := by omega
    have xq : decide (0 < l.length - k) = false := decide_eq_false (by omega)
    have HLen := hid_ (show l.length + 1 = (putR l t r).length by rw [HPut.out]; simp <;> omega)
    have hk9 : l.length ≤ k := by omega
    clear hmore hlt
    by_cases hc1 : c = k
    ·have HRs := hid_ (show oneE.Row wq A (l.length - k) (c - k) (l.drop k) by
      have h9 := HSl.out
      unfold Enc.cutAtK at h9
      rw [if_pos hc1] at h9
      exact h9.place (by first | rfl | exact place_add _ _ _) rfl)
     go_wp2_with fail
     go_region_held3 (RIn wq w.heap.size r) (first | assumption | (refine rIn_keepB HSz.out (by assumption) (by assumption)) | (refine rIn_keep (by assumption) ((Below.refl _ _).alloc (Nat.le_refl _) _)) | (refine rIn_keep (by assumption) (Below.drew (Below.refl _ _))))
      (first
       | (refine Enc.step_rows (E := oneE) (e := 118) (by rfl) (.tmp 40) (.tmp 43) 32 (by rfl) _ 48 Tryz.underlying32 info_one rfl wq.heap.size _ 0 0 [] (by rfl) ?_ _ k _ (l.take k) (by rfl) ?_ k (l.take k) (by omega) (by rfl) (by omega) (by omega) ?_ ?_; (first | exact (Enc.own_empty _ _ rfl _ (by simp)) | exact Enc.Own.alloc (Enc.own_empty _ _ rfl _ (by simp)) _ | exact (Enc.own_empty_at _ _ _ rfl _ (by simp) (by simp)) | exact Enc.Own.alloc (Enc.own_empty_at _ _ _ rfl _ (by simp) (by simp)) _); (exact rowTo ((HLq.out.below (And.left (by assumption))).upto k (by omega)) rfl rfl (by omega)); (exact Below.size (And.left (by assumption))); (intro A1 c1 w1 ho1 hb1 hg1); (try (have hlit := Enc.lit_kept (E := oneE) (gl := wq.heap.size + 1) (s := ⟨t, r⟩) (hg := hg1) (h := by first | exact one_new_at' _ _ t r 118 (by simp) | exact (one_new_at' _ _ t r 118 (by simp)).below (Below.drew (Below.refl _ _))) (hne := by simp [Value.ownBlock]))); (try (have hlit := Enc.lit_kept (E := oneE) (gl := wq.heap.size) (s := ⟨t, r⟩) (hg := hg1) (h := by first | exact (one_new_at' _ _ t r 118 (by simp)).below ((Below.refl _ _).alloc (Nat.le_refl _) _) | exact (one_new_at' _ _ t r 118 (by simp)).below (Below.drew ((Below.refl _ _).alloc (Nat.le_refl _) _))) (hne := by simp [Value.ownBlock]))))
       | (refine Enc.step_rows (E := oneE) (e := 118) (by rfl) (.tmp 44) (.tmp 48) 32 (by rfl) _ 48 Tryz.underlying32 info_one rfl wq.heap.size A1 k c1 (l.take k) (by rfl) ?_ _ 1 1 [⟨t, r⟩] (by rfl) ?_ (k + 1) (l.take k ++ [⟨t, r⟩]) (by rfl) (by rfl) (by omega) (by omega) ?_ ?_; (first | exact ho1 | exact Enc.Own.alloc ho1 _); (first | exact hlit | exact one_new_at' _ _ t r 118 (by simp)); (exact Below.size (And.left (by assumption))); (intro A2 c2 w2 ho2 hb2 hg2))
       | (refine Enc.step_rows (E := oneE) (e := 118) (by rfl) (.tmp 49) (.tmp 50) 32 (by rfl) _ 48 Tryz.underlying32 info_one rfl wq.heap.size A2 (k + 1) c2 (l.take k ++ [⟨t, r⟩]) (by rfl) ho2 _ _ _ (l.drop k) (by rfl) ?_ (l.length + 1) (l.take k ++ [⟨t, r⟩] ++ l.drop k) (by omega) (by rfl) (by omega) (by omega) ?_ ?_; (exact rowTo (HRs.out.below (And.left (by assumption))) rfl (by omega) (by omega)); (exact Below.size (And.left (by assumption))); (intro A3 c3 w3 ho3 hb3 hg3))
       | fail)
     all_goals
      have HO3 := hid_ (ho3.at_ (l' := putR l t r) HLen.out (by rw [HPut.out]))
      have HB3 := hid_ (HBz.out.trans (Below.mono (And.left (by assumption)) HBz.out.size))
      clear ho1 ho2 ho3 hb1 hb2 hb3 hg1 hg2 hg3
      go_wp2_with fail
      go_ret
      exact ⟨_, _, congrArg (fun m => Ending.returned (Value.slice _ m _)) HLen.out, HO3.out.mono HBz.out.size, HB3.out⟩
    ·rcases A with _ | ⟨b, off, spot⟩
     ·exact absurd (HL.out.nil rfl) (by omega)
     obtain rfl : spot = none := HPl.out _ rfl
     have HRs := hid_ (show oneE.Row wq (some ⟨b, off + k * 6, none⟩) (l.length - k) (c - k) (l.drop k) by
      have h9 := HSl.out
      unfold Enc.cutAtK at h9
      rw [if_neg hc1] at h9
      exact h9.place (by first | rfl | exact place_add _ _ _) rfl)
     go_wp2_with fail
     go_region_held3 (RIn wq w.heap.size r) (first | assumption | (refine rIn_keepB HSz.out (by assumption) (by assumption)) | (refine rIn_keep (by assumption) ((Below.refl _ _).alloc (Nat.le_refl _) _)) | (refine rIn_keep (by assumption) (Below.drew (Below.refl _ _))))
      (first
       | (refine Enc.step_rows (E := oneE) (e := 118) (by rfl) (.tmp 40) (.tmp 43) 32 (by rfl) _ 48 Tryz.underlying32 info_one rfl wq.heap.size _ 0 0 [] (by rfl) ?_ _ k _ (l.take k) (by rfl) ?_ k (l.take k) (by omega) (by rfl) (by omega) (by omega) ?_ ?_; (first | exact (Enc.own_empty _ _ rfl _ (by simp)) | exact Enc.Own.alloc (Enc.own_empty _ _ rfl _ (by simp)) _ | exact (Enc.own_empty_at _ _ _ rfl _ (by simp) (by simp)) | exact Enc.Own.alloc (Enc.own_empty_at _ _ _ rfl _ (by simp) (by simp)) _); (exact rowTo ((HLq.out.below (And.left (by assumption))).upto k (by omega)) rfl rfl (by omega)); (exact Below.size (And.left (by assumption))); (intro A1 c1 w1 ho1 hb1 hg1); (try (have hlit := Enc.lit_kept (E := oneE) (gl := wq.heap.size + 1) (s := ⟨t, r⟩) (hg := hg1) (h := by first | exact one_new_at' _ _ t r 118 (by simp) | exact (one_new_at' _ _ t r 118 (by simp)).below (Below.drew (Below.refl _ _))) (hne := by simp [Value.ownBlock]))); (try (have hlit := Enc.lit_kept (E := oneE) (gl := wq.heap.size) (s := ⟨t, r⟩) (hg := hg1) (h := by first | exact (one_new_at' _ _ t r 118 (by simp)).below ((Below.refl _ _).alloc (Nat.le_refl _) _) | exact (one_new_at' _ _ t r 118 (by simp)).below (Below.drew ((Below.refl _ _).alloc (Nat.le_refl _) _))) (hne := by simp [Value.ownBlock]))))
       | (refine Enc.step_rows (E := oneE) (e := 118) (by rfl) (.tmp 44) (.tmp 48) 32 (by rfl) _ 48 Tryz.underlying32 info_one rfl wq.heap.size A1 k c1 (l.take k) (by rfl) ?_ _ 1 1 [⟨t, r⟩] (by rfl) ?_ (k + 1) (l.take k ++ [⟨t, r⟩]) (by rfl) (by rfl) (by omega) (by omega) ?_ ?_; (first | exact ho1 | exact Enc.Own.alloc ho1 _); (first | exact hlit | exact one_new_at' _ _ t r 118 (by simp)); (exact Below.size (And.left (by assumption))); (intro A2 c2 w2 ho2 hb2 hg2))
       | (refine Enc.step_rows (E := oneE) (e := 118) (by rfl) (.tmp 49) (.tmp 50) 32 (by rfl) _ 48 Tryz.underlying32 info_one rfl wq.heap.size A2 (k + 1) c2 (l.take k ++ [⟨t, r⟩]) (by rfl) ho2 _ _ _ (l.drop k) (by rfl) ?_ (l.length + 1) (l.take k ++ [⟨t, r⟩] ++ l.drop k) (by omega) (by rfl) (by omega) (by omega) ?_ ?_; (exact rowTo (HRs.out.below (And.left (by assumption))) rfl (by omega) (by omega)); (exact Below.size (And.left (by assumption))); (intro A3 c3 w3 ho3 hb3 hg3))
       | fail)
     all_goals
      have HO3 := hid_ (ho3.at_ (l' := putR l t r) HLen.out (by rw [HPut.out]))
      have HB3 := hid_ (HBz.out.trans (Below.mono (And.left (by assumption)) HBz.out.size))
      clear ho1 ho2 ho3 hb1 hb2 hb3 hg1 hg2 hg3
      go_wp2_with fail
      go_ret
      exact ⟨_, _, congrArg (fun m => Ending.returned (Value.slice _ m _)) HLen.out, HO3.out.mono HBz.out.size, HB3.out⟩
end Rp
end Go.Proofs.YthjhofmjhmnddaaGreat
/-
 The document's Handle.
-/
namespace Go.Proofs.YthjhofmjhmnddaaGreat
open Go.RowKit Rg Bl Re Wl Dsk Fm Vw
namespace Rp
theorem put_same {R : List OneD} (h : Rise R) (hz : NonZ R) {t : Nat} (hn : getR R t ≠ zeroR) : putR R t (getR R t) = R := by
 refine rise_ext (h.put t _) h (hz.put t hn) hz (fun u => ?_)
 rw [get_put h]
 split
 ·rename_i e; rw [e]
 ·rfl
theorem grant_nz {r : RegD} {b : BalD} {v : Int} (hb : b.pos ≠ 0) (hg : grantD r b v = true) : afterD r b v ≠ zeroR := by
 have key : ∀ x : RegD, x.p = b → x ≠ zeroR := fun x hx e => hb (by rw [← hx, e])
 unfold grantD at hg
 unfold afterD
 by_cases hv : v = 0
 ·rw [if_pos hv] at hg ⊢
  have hl : lateB r b = false := by simpa using hg
  rw [prep_yes hl]
  exact key _ rfl
 ·rw [if_neg hv] at hg ⊢
  rw [acc_yes hg]
  exact key _ rfl
theorem refuse_same {r : RegD} {b : BalD} {v : Int} (hg : grantD r b v = false) : afterD r b v = r := by
 unfold grantD at hg
 unfold afterD
 by_cases hv : v = 0
 ·rw [if_pos hv] at hg ⊢
  exact prep_no (by simpa using hg)
 ·rw [if_neg hv] at hg ⊢
  exact acc_no hg
def nextR (R : List OneD) (p : PackD) : List OneD := keepR R p.trace (handX R p)
def ansR (R : List OneD) (p : PackD) : PackD := ansP (handX R p) p.trace (balP p) (handG R p) (decide (p.v ≠ 0))
theorem next_ref {R : List OneD} (h : Rise R) (hz : NonZ R) {p : PackD} (k : askP p = true) : (if handG R p = true then putR R p.trace (handX R p) else R) = nextR R p := by
 obtain ⟨-, h2, -⟩ := ask_has k
 have hb : (balP p).pos ≠ 0 := h2
 unfold nextR keepR
 rcases hg : handG R p with _ | _
 ·have e : handX R p = getR R p.trace := refuse_same hg
  rw [if_neg (by decide), e, sameR_self, if_pos rfl]
 ·rw [if_pos rfl]
  have hnz : handX R p ≠ zeroR := grant_nz hb hg
  rcases hs : sameR (handX R p) (getR R p.trace) with _ | _
  ·rfl
  ·have e := (sameR_iff _ _).1 hs
   rw [e] at hnz
   rw [if_pos rfl, e, put_same h hz hnz]
theorem tn_set5 (w : World) (g : Nat) (v0 v1 v2 v3 v4 : Value) : Tn (fun q => q = g) w (((((w.setCell ⟨g, 0, none⟩ v0).setCell ⟨g, 1, none⟩ v1).setCell ⟨g, 2, none⟩ v2).setCell ⟨g, 3, none⟩ v3).setCell ⟨g, 4, none⟩ v4) :=
 ((((((Tn.refl (fun q => q = g) w).set (g := g) (.inl rfl) 0 v0).set (g := g) (.inl rfl) 1 v1).set (g := g) (.inl rfl) 2 v2).set (g := g) (.inl rfl) 3 v3).set (g := g) (.inl rfl) 4 v4)
def RHandPost (w : World) (A : Option Addr) (m : List OneD) (p : PackD) (e : Ending) (w' : World) : Prop :=
 ∃ A' c' m' q, e = .returned (.tuple #[.slice A' m'.length c', packVal q noS, .bool (askP p)]) ∧ oneE.Row w' A' m'.length c' m' ∧ (askP p = true → m' = nextR m p ∧ q = ansR m p) ∧ (askP p = false → m' = m ∧ q = zeroP) ∧ ((A' = A ∧ m' = m) ∨ ∃ g, A' = some ⟨g, 0, none⟩ ∧ w.heap.size ≤ g) ∧ Below w.heap.size w w'
theorem rhand_no {w w' : World} {A : Option Addr} {c : Nat} {m : List OneD} {p : PackD} (h : oneE.Row w A m.length c m) (k : askP p = false) (hb : Below w.heap.size w w') : RHandPost w A m p (.returned (.tuple #[.slice A m.length c, packVal zeroP noS, .bool false])) w' :=
 ⟨A, c, m, zeroP, by rw [k], h.below hb, fun e => absurd (k.symm.trans e) (by decide), fun _ => ⟨rfl, rfl⟩, .inl ⟨rfl, rfl⟩, hb⟩
theorem rhand_same {w w' : World} {A : Option Addr} {c : Nat} {m : List OneD} {p q : PackD} (h : oneE.Row w A m.length c m) (k : askP p = true) (hm : m = nextR m p) (hq : q = ansR m p) (hb : Below w.heap.size w w') : RHandPost w A m p (.returned (.tuple #[.slice A m.length c, packVal q noS, .bool true])) w' :=
 ⟨A, c, m, q, by rw [k], h.below hb, fun _ => ⟨hm, hq⟩, fun e => absurd (k.symm.trans e) (by decide), .inl ⟨rfl, rfl⟩, hb⟩
theorem rhand_put {w w1 w1' w9 w' : World} {A A' : Option Addr} {c' : Nat} {m m' : List OneD} {p q : PackD} (h : OwnO w1.heap.size w1' A' m'.length c' m') (h1 : Below w.heap.size w w1) (k : askP p = true) (hm : m' = nextR m p) (hne : m' ≠ []) (hq : q = ansR m p) (hb1 : Below w1'.heap.size w1' w9) {g0 : Nat} (t : Tn (fun q => q = g0) w9 w') (hg0 : g0 < w1.heap.size) (hb : Below w.heap.size w w') : RHandPost w A m p (.returned (.tuple #[.slice A' m'.length c', packVal q noS, .bool true])) w' := by
 obtain ⟨g, e, hg, -⟩ := h.place (List.length_pos_iff.2 hne)
 have hr := row_tn (h.row.below hb1) t (fun a ea _ hq => by rw [e] at ea; injection ea with ea; rw [← ea] at hq; have h9 : g = g0 := hq; omega)
 exact ⟨A', c', m', q, by rw [k], hr, fun _ => ⟨hm, hq⟩, fun e => absurd (k.symm.trans e) (by decide), .inr ⟨g, e, Nat.le_trans h1.size hg⟩, hb⟩
theorem put_ne {R : List OneD} {t : Nat} {r : RegD} : putR R t r ≠ [] := by
 rcases R with _ | ⟨o, l⟩
 ·simp [putR]
 ·unfold putR
  split
  ·simp
  ·split <;> simp
set_option maxRecDepth 100000 in
set_option maxHeartbeats 2000000 in
theorem rhandle_kind (A : Option Addr) (c : Nat) (m : List OneD) (kd : Int) (tr bn bd sn sd : Nat) (v : Int) (ok : Bool) (l1 : List SpanD) (l2 : List MemberD) (l3 : List Nat) (a1 : Option Addr) (e1 : Nat) (a2 : Option Addr) (e2 : Nat) (a3 : Option Addr) (e3 : Nat) (w : World) (h : oneE.Row w A m.length c m) (h4 : kd ≠ 4) (h6 : kd ≠ 6) :
  Calls Tryz.prog 14 #[.slice A m.length c, packVal ⟨kd, tr, bn, bd, sn, sd, v, ok, l1, l2, l3⟩ ⟨a1, e1, a2, e2, a3, e3⟩] w (RHandPost w A m ⟨kd, tr, bn, bd, sn, sd, v, ok, l1, l2, l3⟩) := by
 have HAsk := hid_ (show askP ⟨kd, tr, bn, bd, sn, sd, v, ok, l1, l2, l3⟩ = false by unfold askP; rw [decide_eq_false h4, decide_eq_false h6]; simp)
 have HRow := hid_ h
 have e9 : (kd != 4) = true := bne_iff_ne.2 h4
 have e8 : (kd != 6) = true := bne_iff_ne.2 h6
 obtain ⟨hb, hw1, hw2, hsz⟩ := two_new w (⟨kd, tr, bn, bd, sn, sd, v, ok, l1, l2, l3⟩ : PackD) (⟨a1, e1, a2, e2, a3, e3⟩ : PackS)
 obtain ⟨wa, hwa⟩ : ∃ wa : World, wa = ((w.alloc (.cells #[.int .i64 kd, .int .u64 (tr : Nat), .int .u64 (bn : Nat), .int .u64 (bd : Nat), .int .u64 (sn : Nat), .int .u64 (sd : Nat), .int .i64 v, .bool ok, .slice a1 l1.length e1, .slice a2 l2.length e2, .slice a3 l3.length e3] 41)).alloc (.cells #[.int .i64 0, .int .u64 0, .int .u64 0, .int .u64 0, .int .u64 0, .int .u64 0, .int .i64 0, .bool false, .slice none 0 0, .slice none 0 0, .slice none 0 0] 41)) := ⟨_, rfl⟩
 rw [← hwa] at hb hw1 hw2 hsz
 have HWa := hid_ hwa
 have HB := hid_ hb
 have H1 := hid_ hw1
 have H2 := hid_ hw2
 have HSz := hid_ hsz
 clear hwa
 obtain ⟨x0, x1, x2, x3, x4, x5, x6, x7, x8, x9, x10⟩ := cells11 H1.out
 have f1 := fun i => H2.out.free i
 obtain ⟨u0, u1, u2, u3, u4, u5, u6, u7, u8, u9, u10⟩ := cells11 H2.out
 clear h h4 h6 hb hw1 hw2 hsz
 go_enter Tryz.func14, Tryz.ntmps14
 go_wp2_with fail
 try rw [← HWa.out]
 obtain ⟨k0, k1, k2, k3, k4, k5, k6, k7, k8, k9, k10⟩ := cells11 H2.out
 exact bodyPost_ret (v := .tuple #[.slice A m.length c, packVal zeroP noS, .bool false]) (by simp [results, Tryz.results14, go_sem, k0, k1, k2, k3, k4, k5, k6, k7, k8, k9, k10]) rfl (rhand_no HRow.out HAsk.out HB.out)
set_option maxRecDepth 100000 in
set_option maxHeartbeats 2000000 in
theorem rhandle_bad4 (A : Option Addr) (c : Nat) (m : List OneD) (tr bn bd sn sd : Nat) (v : Int) (ok : Bool) (l1 : List SpanD) (l2 : List MemberD) (l3 : List Nat) (a1 : Option Addr) (e1 : Nat) (a2 : Option Addr) (e2 : Nat) (a3 : Option Addr) (e3 : Nat) (w : World) (h : oneE.Row w A m.length c m) (hp : PackIn w ⟨4, tr, bn, bd, sn, sd, v, ok, l1, l2, l3⟩ ⟨a1, e1, a2, e2, a3, e3⟩) (hw : PackD.Wf ⟨4, tr, bn, bd, sn, sd, v, ok, l1, l2, l3⟩) (hr : rightP ⟨4, tr, bn, bd, sn, sd, v, ok, l1, l2, l3⟩ = false) :
  Calls Tryz.prog 14 #[.slice A m.length c, packVal ⟨4, tr, bn, bd, sn, sd, v, ok, l1, l2, l3⟩ ⟨a1, e1, a2, e2, a3, e3⟩] w (RHandPost w A m ⟨4, tr, bn, bd, sn, sd, v, ok, l1, l2, l3⟩) := by
 have HRow := hid_ h
 have HRi := hid_ (fun (W : World) (hb : Below w.heap.size w W) => refpack_any _ _ W (hp.below hb) hw)
 obtain ⟨hb, hw1, hw2, hsz⟩ := two_new w (⟨4, tr, bn, bd, sn, sd, v, ok, l1, l2, l3⟩ : PackD) (⟨a1, e1, a2, e2, a3, e3⟩ : PackS)
 obtain ⟨wa, hwa⟩ : ∃ wa : World, wa = ((w.alloc (.cells #[.int .i64 4, .int .u64 (tr : Nat), .int .u64 (bn : Nat), .int .u64 (bd : Nat), .int .u64 (sn : Nat), .int .u64 (sd : Nat), .int .i64 v, .bool ok, .slice a1 l1.length e1, .slice a2 l2.length e2, .slice a3 l3.length e3] 41)).alloc (.cells #[.int .i64 0, .int .u64 0, .int .u64 0, .int .u64 0, .int .u64 0, .int .u64 0, .int .i64 0, .bool false, .slice none 0 0, .slice none 0 0, .slice none 0 0] 41)) := ⟨_, rfl⟩
 rw [← hwa] at hb hw1 hw2 hsz
 have HWa := hid_ hwa
 have HB := hid_ hb
 have H1 := hid_ hw1
 have H2 := hid_ hw2
 have HSz := hid_ hsz
 clear hwa
 obtain ⟨x0, x1, x2, x3, x4, x5, x6, x7, x8, x9, x10⟩ := cells11 H1.out
 clear hb hw1 hw2 hsz
 have HAsk := hid_ (show askP ⟨4, tr, bn, bd, sn, sd, v, ok, l1, l2, l3⟩ = false by unfold askP; rw [hr]; rfl)
 rw [hr, show kindP false = 6 from rfl] at HRi
 clear h hp hw hr
 go_enter Tryz.func14, Tryz.ntmps14
 go_wp2_with fail
 try rw [← HWa.out]
 (with_reducible refine Calls.mono (HRi.out _ HB.out) ?_)
 rintro e w1 ⟨rfl, hb1⟩
 have H2x := hid_ (H2.out.below hb1 H2.out.lt)
 have HBx := hid_ (HB.out.trans (hb1.mono HB.out.size))
 have f1 := fun i => H2x.out.free i
 obtain ⟨u0, u1, u2, u3, u4, u5, u6, u7, u8, u9, u10⟩ := cells11 H2x.out
 clear hb1 x0 x1 x2 x3 x4 x5 x6 x7 x8 x9 x10
 go_wp2_with fail
 obtain ⟨wz, hz, hwz, hbz⟩ := fin11 H2x.out HBx.out (Nat.le_succ _) (.int .i64 0) (.int .u64 0) (.int .u64 0) (.int .u64 0) (.int .u64 0) (.int .u64 0) (.int .i64 0) (.bool false) (.slice none 0 0) (.slice none 0 0) (.slice none 0 0)
 rw [← hz]
 obtain ⟨k0, k1, k2, k3, k4, k5, k6, k7, k8, k9, k10⟩ := cells11 hwz
 have HZ := hid_ hbz.1
 clear hz hwz hbz
 exact bodyPost_ret (v := .tuple #[.slice A m.length c, packVal zeroP noS, .bool false]) (by simp [results, Tryz.results14, go_sem, k0, k1, k2, k3, k4, k5, k6, k7, k8, k9, k10]) rfl (rhand_no HRow.out HAsk.out HZ.out)
set_option maxRecDepth 100000 in
set_option maxHeartbeats 2000000 in
theorem rhandle_bad6 (A : Option Addr) (c : Nat) (m : List OneD) (tr bn bd sn sd : Nat) (v : Int) (ok : Bool) (l1 : List SpanD) (l2 : List MemberD) (l3 : List Nat) (a1 : Option Addr) (e1 : Nat) (a2 : Option Addr) (e2 : Nat) (a3 : Option Addr) (e3 : Nat) (w : World) (h : oneE.Row w A m.length c m) (hp : PackIn w ⟨6, tr, bn, bd, sn, sd, v, ok, l1, l2, l3⟩ ⟨a1, e1, a2, e2, a3, e3⟩) (hw : PackD.Wf ⟨6, tr, bn, bd, sn, sd, v, ok, l1, l2, l3⟩) (hr : rightP ⟨6, tr, bn, bd, sn, sd, v, ok, l1, l2, l3⟩ = false) :
  Calls Tryz.prog 14 #[.slice A m.length c, packVal ⟨6, tr, bn, bd, sn, sd, v, ok, l1, l2, l3⟩ ⟨a1, e1, a2, e2, a3, e3⟩] w (RHandPost w A m ⟨6, tr, bn, bd, sn, sd, v, ok, l1, l2, l3⟩) := by
 have HRow := hid_ h
 have HRi := hid_ (fun (W : World) (hb : Below w.heap.size w W) => refpack_any _ _ W (hp.below hb) hw)
 obtain ⟨hb, hw1, hw2, hsz⟩ := two_new w (⟨6, tr, bn, bd, sn, sd, v, ok, l1, l2, l3⟩ : PackD) (⟨a1, e1, a2, e2, a3, e3⟩ : PackS)
 obtain ⟨wa, hwa⟩ : ∃ wa : World, wa = ((w.alloc (.cells #[.int .i64 6, .int .u64 (tr : Nat), .int .u64 (bn : Nat), .int .u64 (bd : Nat), .int .u64 (sn : Nat), .int .u64 (sd : Nat), .int .i64 v, .bool ok, .slice a1 l1.length e1, .slice a2 l2.length e2, .slice a3 l3.length e3] 41)).alloc (.cells #[.int .i64 0, .int .u64 0, .int .u64 0, .int .u64 0, .int .u64 0, .int .u64 0, .int .i64 0, .bool false, .slice none 0 0, .slice none 0 0, .slice none 0 0] 41)) := ⟨_, rfl⟩
 rw [← hwa] at hb hw1 hw2 hsz
 have HWa := hid_ hwa
 have HB := hid_ hb
 have H1 := hid_ hw1
 have H2 := hid_ hw2
 have HSz := hid_ hsz
 clear hwa
 obtain ⟨x0, x1, x2, x3, x4, x5, x6, x7, x8, x9, x10⟩ := cells11 H1.out
 clear hb hw1 hw2 hsz
 have HAsk := hid_ (show askP ⟨6, tr, bn, bd, sn, sd, v, ok, l1, l2, l3⟩ = false by unfold askP; rw [hr]; rfl)
 rw [hr, show kindP false = 6 from rfl] at HRi
 clear h hp hw hr
 go_enter Tryz.func14, Tryz.ntmps14
 go_wp2_with fail
 try rw [← HWa.out]
 (with_reducible refine Calls.mono (HRi.out _ HB.out) ?_)
 rintro e w1 ⟨rfl, hb1⟩
 have H2x := hid_ (H2.out.below hb1 H2.out.lt)
 have HBx := hid_ (HB.out.trans (hb1.mono HB.out.size))
 have f1 := fun i => H2x.out.free i
 obtain ⟨u0, u1, u2, u3, u4, u5, u6, u7, u8, u9, u10⟩ := cells11 H2x.out
 clear hb1 x0 x1 x2 x3 x4 x5 x6 x7 x8 x9 x10
 go_wp2_with fail
 obtain ⟨wz, hz, hwz, hbz⟩ := fin11 H2x.out HBx.out (Nat.le_succ _) (.int .i64 0) (.int .u64 0) (.int .u64 0) (.int .u64 0) (.int .u64 0) (.int .u64 0) (.int .i64 0) (.bool false) (.slice none 0 0) (.slice none 0 0) (.slice none 0 0)
 rw [← hz]
 obtain ⟨k0, k1, k2, k3, k4, k5, k6, k7, k8, k9, k10⟩ := cells11 hwz
 have HZ := hid_ hbz.1
 clear hz hwz hbz
 exact bodyPost_ret (v := .tuple #[.slice A m.length c, packVal zeroP noS, .bool false]) (by simp [results, Tryz.results14, go_sem, k0, k1, k2, k3, k4, k5, k6, k7, k8, k9, k10]) rfl (rhand_no HRow.out HAsk.out HZ.out)
set_option maxRecDepth 100000 in
set_option maxHeartbeats 2000000 in
theorem rhandle_prep (A : Option Addr) (c : Nat) (m : List OneD) (tr bn bd sn sd : Nat) (ok : Bool) (l1 : List SpanD) (l2 : List MemberD) (l3 : List Nat) (a1 : Option Addr) (e1 : Nat) (a2 : Option Addr) (e2 : Nat) (a3 : Option Addr) (e3 : Nat) (w : World) (h : oneE.Row w A m.length c m) (hp : PackIn w ⟨4, tr, bn, bd, sn, sd, 0, ok, l1, l2, l3⟩ ⟨a1, e1, a2, e2, a3, e3⟩) (hw : PackD.Wf ⟨4, tr, bn, bd, sn, sd, 0, ok, l1, l2, l3⟩) (hr : rightP ⟨4, tr, bn, bd, sn, sd, 0, ok, l1, l2, l3⟩ = true) (hask : askP ⟨4, tr, bn, bd, sn, sd, 0, ok, l1, l2, l3⟩ = true) (hpl : ∀ a, A = some a → a.spot = none) (hlen : m.length ≤ 1000000) (hri : Rise m) (hnz : NonZ m) :
  Calls Tryz.prog 14 #[.slice A m.length c, packVal ⟨4, tr, bn, bd, sn, sd, 0, ok, l1, l2, l3⟩ ⟨a1, e1, a2, e2, a3, e3⟩] w (RHandPost w A m ⟨4, tr, bn, bd, sn, sd, 0, ok, l1, l2, l3⟩) := by
 have HRow := hid_ h
 have HRi := hid_ (fun (W : World) (hb : Below w.heap.size w W) => refpack_any _ _ W (hp.below hb) hw)
 obtain ⟨hb, hw1, hw2, hsz⟩ := two_new w (⟨4, tr, bn, bd, sn, sd, 0, ok, l1, l2, l3⟩ : PackD) (⟨a1, e1, a2, e2, a3, e3⟩ : PackS)
 obtain ⟨wa, hwa⟩ : ∃ wa : World, wa = ((w.alloc (.cells #[.int .i64 4, .int .u64 (tr : Nat), .int .u64 (bn : Nat), .int .u64 (bd : Nat), .int .u64 (sn : Nat), .int .u64 (sd : Nat), .int .i64 0, .bool ok, .slice a1 l1.length e1, .slice a2 l2.length e2, .slice a3 l3.length e3] 41)).alloc (.cells #[.int .i64 0, .int .u64 0, .int .u64 0, .int .u64 0, .int .u64 0, .int .u64 0, .int .i64 0, .bool false, .slice none 0 0, .slice none 0 0, .slice none 0 0] 41)) := ⟨_, rfl⟩
 rw [← hwa] at hb hw1 hw2 hsz
 have HWa := hid_ hwa
 have HB := hid_ hb
 have H1 := hid_ hw1
 have H2 := hid_ hw2
 have HSz := hid_ hsz
 clear hwa
 obtain ⟨x0, x1, x2, x3, x4, x5, x6, x7, x8, x9, x10⟩ := cells11 H1.out
 clear hb hw1 hw2 hsz
 have HAsk := hid_ hask
 rw [hr, show kindP true = 0 from rfl] at HRi
 have hkv := ask_has hask
 have HTr := hid_ (show tr < 18446744073709551616 from hw.trace)
 have HGe := hid_ (fun (W : World) (hb : Below w.heap.size w W) => rget_any A m.length c m tr W (h.below hb))
 have HPu := hid_ (fun (r : RegD) (W : World) (hb : Below w.heap.size w W) => rput_any A m.length c m tr r W (h.below hb) hpl hlen)
 have HNx := hid_ (next_ref hri hnz hask)
 have HX := hid_ (show handX m (⟨4, tr, bn, bd, sn, sd, 0, ok, l1, l2, l3⟩ : PackD) = (prepD (getR m tr) ⟨bn, bd⟩) from by
  show afterD (getR m tr) ⟨bn, bd⟩ 0 = _
  unfold afterD
  rw [if_pos rfl])
 have HG := hid_ (show handG m (⟨4, tr, bn, bd, sn, sd, 0, ok, l1, l2, l3⟩ : PackD) = (!lateB (getR m tr) ⟨bn, bd⟩) from by
  show grantD (getR m tr) ⟨bn, bd⟩ 0 = _
  unfold grantD
  rw [if_pos rfl])
 have HAn := hid_ (show ansR m (⟨4, tr, bn, bd, sn, sd, 0, ok, l1, l2, l3⟩ : PackD) = ansP (handX m (⟨4, tr, bn, bd, sn, sd, 0, ok, l1, l2, l3⟩ : PackD)) tr ⟨bn, bd⟩ (handG m (⟨4, tr, bn, bd, sn, sd, 0, ok, l1, l2, l3⟩ : PackD)) false from by
  show ansP (handX m (⟨4, tr, bn, bd, sn, sd, 0, ok, l1, l2, l3⟩ : PackD)) tr ⟨bn, bd⟩ (handG m (⟨4, tr, bn, bd, sn, sd, 0, ok, l1, l2, l3⟩ : PackD)) (decide (0 ≠ 0)) = _
  rfl)
 have HCo := hid_ (fun (W : World) => rprepare_any (getR m tr) ⟨bn, bd⟩  W)
 clear h hp hw hr hask hkv hpl hlen hri hnz
 rw [← HX.out, ← HG.out] at HCo
 generalize hqa : ansR m (⟨4, tr, bn, bd, sn, sd, 0, ok, l1, l2, l3⟩ : PackD) = qa at *
 generalize hm9 : nextR m (⟨4, tr, bn, bd, sn, sd, 0, ok, l1, l2, l3⟩ : PackD) = m9 at *
 have HQ := hid_ (And.intro hqa hm9)
 clear hqa hm9
 generalize handX m (⟨4, tr, bn, bd, sn, sd, 0, ok, l1, l2, l3⟩ : PackD) = x at *
 generalize handG m (⟨4, tr, bn, bd, sn, sd, 0, ok, l1, l2, l3⟩ : PackD) = gr at *
 generalize getR m tr = old at *
 clear HX HG
 go_enter Tryz.func14, Tryz.ntmps14
 go_wp2_with fail
 try rw [← HWa.out]
 (with_reducible refine Calls.mono (HRi.out _ HB.out) ?_)
 rintro e w1 ⟨rfl, hb1⟩
 have H11 := hid_ (H1.out.below hb1 H1.out.lt)
 have H21 := hid_ (H2.out.below hb1 H2.out.lt)
 have HB1 := hid_ (HB.out.trans (hb1.mono HB.out.size))
 have HS1 := hid_ (show w.heap.size + 2 ≤ w1.heap.size by have := hb1.size; rw [HSz.out] at this; exact this)
 clear x0 x1 x2 x3 x4 x5 x6 x7 x8 x9 x10
 obtain ⟨x0, x1, x2, x3, x4, x5, x6, x7, x8, x9, x10⟩ := cells11 H11.out
 clear hb1
 go_wp2_with fail
 (with_reducible refine Calls.mono (HGe.out _ HB1.out) ?_)
 rintro e w2 ⟨rfl, hb2⟩
 have h22 : Below w1.heap.size w1 (w2.alloc (.cells (regCells old) 64)) := hb2.alloc hb2.size _
 have H12 := hid_ (H11.out.below h22 H11.out.lt)
 have H22 := hid_ (H21.out.below h22 H21.out.lt)
 have HB2 := hid_ (HB1.out.trans (h22.mono HB1.out.size))
 have H72 := hid_ (whole_new w2 64 (regCells old))
 have HS2 := hid_ (show w.heap.size + 2 ≤ w2.heap.size by have := HS1.out; have := hb2.size; omega)
 clear x0 x1 x2 x3 x4 x5 x6 x7 x8 x9 x10
 obtain ⟨x0, x1, x2, x3, x4, x5, x6, x7, x8, x9, x10⟩ := cells11 H12.out
 obtain ⟨y0, y1, y2, y3, y4⟩ := r5_of H72.out
 clear hb2 h22
 go_wp2_with fail
 (with_reducible refine Calls.mono (HCo.out _) ?_)
 rintro e w3 ⟨rfl, hb3⟩
 have H13 := hid_ (H12.out.below hb3 H12.out.lt)
 have H23 := hid_ (H22.out.below hb3 H22.out.lt)
 have H73 := hid_ (H72.out.below hb3 H72.out.lt)
 have HB3 := hid_ (HB2.out.trans (hb3.mono HB2.out.size))
 clear x0 x1 x2 x3 x4 x5 x6 x7 x8 x9 x10
 clear y0 y1 y2 y3 y4
 obtain ⟨x0, x1, x2, x3, x4, x5, x6, x7, x8, x9, x10⟩ := cells11 H13.out
 obtain ⟨y0, y1, y2, y3, y4⟩ := r5_of H73.out
 have f7 := fun i => H73.out.free i
 clear hb3
 generalize w2.heap.size = g7 at *
 have hn1 : ¬ w.heap.size = g7 := by have := HS2.out; omega
 have hn2 : ¬ g7 = w.heap.size := by have := HS2.out; omega
 have HAw := hid_ (fun (W : World) => ranswer_any x tr ⟨bn, bd⟩ gr false W)
 rw [← HAn.out] at HAw
 cases gr
 ·have HM9 := hid_ (show m = m9 from by have := HNx.out; rwa [if_neg (by decide)] at this)
  go_wp2_with fail
  have t4 := tn_set5 w3 g7 (.int .u64 (x.p.pos : Nat)) (.int .u64 (x.p.id : Nat)) (.int .u64 (x.t.pos : Nat)) (.int .u64 (x.t.id : Nat)) (.int .i64 x.v)
  have H14 := hid_ (H13.out.tn t4 (by have := HS2.out; omega))
  have H24 := hid_ (H23.out.tn t4 (by have := HS2.out; omega))
  have H74 := hid_ (whole_set5 H73.out (.int .u64 (x.p.pos : Nat)) (.int .u64 (x.p.id : Nat)) (.int .u64 (x.t.pos : Nat)) (.int .u64 (x.t.id : Nat)) (.int .i64 x.v))
  have HB4 := hid_ (below_set5 HB3.out (show w.heap.size ≤ g7 by have := HS2.out; omega) (.int .u64 (x.p.pos : Nat)) (.int .u64 (x.p.id : Nat)) (.int .u64 (x.t.pos : Nat)) (.int .u64 (x.t.id : Nat)) (.int .i64 x.v))
  have HG7 := hid_ H74.out.lt
  obtain ⟨w4, hw4⟩ : ∃ w4 : World, w4 = (((((w3.setCell ⟨g7, 0, none⟩ (.int .u64 (x.p.pos : Nat))).setCell ⟨g7, 1, none⟩ (.int .u64 (x.p.id : Nat))).setCell ⟨g7, 2, none⟩ (.int .u64 (x.t.pos : Nat))).setCell ⟨g7, 3, none⟩ (.int .u64 (x.t.id : Nat))).setCell ⟨g7, 4, none⟩ (.int .i64 x.v)) := ⟨_, rfl⟩
  rw [← hw4] at H14 H24 H74 HB4 HG7
  try rw [← hw4]
  clear t4 f7 hw4
  clear x0 x1 x2 x3 x4 x5 x6 x7 x8 x9 x10
  clear y0 y1 y2 y3 y4
  obtain ⟨x0, x1, x2, x3, x4, x5, x6, x7, x8, x9, x10⟩ := cells11 H14.out
  obtain ⟨y0, y1, y2, y3, y4⟩ := r5_of H74.out
  (with_reducible refine Calls.mono (HAw.out _) ?_)
  rintro e w9 ⟨rfl, hb9⟩
  have H29 := hid_ (H24.out.below hb9 H24.out.lt)
  have HB9 := hid_ (HB4.out.trans (hb9.mono HB4.out.size))
  have HBL := hid_ hb9
  clear x0 x1 x2 x3 x4 x5 x6 x7 x8 x9 x10
  clear y0 y1 y2 y3 y4
  have f1 := fun i => H29.out.free i
  obtain ⟨u0, u1, u2, u3, u4, u5, u6, u7, u8, u9, u10⟩ := cells11 H29.out
  clear hb9
  go_wp2_with fail
  obtain ⟨wz, hz, hwz, hbz⟩ := fin11 H29.out HB9.out (Nat.le_succ _) (.int .i64 qa.kind) (.int .u64 (qa.trace : Nat)) (.int .u64 (qa.bn : Nat)) (.int .u64 (qa.bnode : Nat)) (.int .u64 (qa.sn : Nat)) (.int .u64 (qa.snode : Nat)) (.int .i64 qa.v) (.bool qa.ok) (.slice none qa.spans.length 0) (.slice none qa.members.length 0) (.slice none qa.ids.length 0)
  rw [← hz]
  obtain ⟨k0, k1, k2, k3, k4, k5, k6, k7, k8, k9, k10⟩ := cells11 hwz
  have HZ := hid_ hbz
  clear hz hwz hbz
  exact bodyPost_ret (v := .tuple #[.slice A m.length c, packVal qa noS, .bool true]) (by simp [results, Tryz.results14, go_sem, k0, k1, k2, k3, k4, k5, k6, k7, k8, k9, k10]) rfl (rhand_same HRow.out HAsk.out (HM9.out.trans HQ.out.2.symm) HQ.out.1.symm HZ.out.1)
 ·have HM9 := hid_ (show putR m tr x = m9 from by have := HNx.out; rwa [if_pos rfl] at this)
  have HNe := hid_ (show putR m tr x ≠ [] from put_ne)
  go_wp2_with fail
  have t4 := tn_set5 w3 g7 (.int .u64 (x.p.pos : Nat)) (.int .u64 (x.p.id : Nat)) (.int .u64 (x.t.pos : Nat)) (.int .u64 (x.t.id : Nat)) (.int .i64 x.v)
  have H14 := hid_ (H13.out.tn t4 (by have := HS2.out; omega))
  have H24 := hid_ (H23.out.tn t4 (by have := HS2.out; omega))
  have H74 := hid_ (whole_set5 H73.out (.int .u64 (x.p.pos : Nat)) (.int .u64 (x.p.id : Nat)) (.int .u64 (x.t.pos : Nat)) (.int .u64 (x.t.id : Nat)) (.int .i64 x.v))
  have HB4 := hid_ (below_set5 HB3.out (show w.heap.size ≤ g7 by have := HS2.out; omega) (.int .u64 (x.p.pos : Nat)) (.int .u64 (x.p.id : Nat)) (.int .u64 (x.t.pos : Nat)) (.int .u64 (x.t.id : Nat)) (.int .i64 x.v))
  have HG7 := hid_ H74.out.lt
  obtain ⟨w4, hw4⟩ : ∃ w4 : World, w4 = (((((w3.setCell ⟨g7, 0, none⟩ (.int .u64 (x.p.pos : Nat))).setCell ⟨g7, 1, none⟩ (.int .u64 (x.p.id : Nat))).setCell ⟨g7, 2, none⟩ (.int .u64 (x.t.pos : Nat))).setCell ⟨g7, 3, none⟩ (.int .u64 (x.t.id : Nat))).setCell ⟨g7, 4, none⟩ (.int .i64 x.v)) := ⟨_, rfl⟩
  rw [← hw4] at H14 H24 H74 HB4 HG7
  try rw [← hw4]
  clear t4 f7 hw4
  clear x0 x1 x2 x3 x4 x5 x6 x7 x8 x9 x10
  clear y0 y1 y2 y3 y4
  obtain ⟨x0, x1, x2, x3, x4, x5, x6, x7, x8, x9, x10⟩ := cells11 H14.out
  obtain ⟨y0, y1, y2, y3, y4⟩ := r5_of H74.out
  (with_reducible refine Calls.mono (HPu.out _ _ HB4.out) ?_)
  rintro e w5 ⟨A5, c5, rfl, ho5, hb5⟩
  have HO5 := hid_ ho5
  generalize putR m tr x = m5 at *
  have H15 := hid_ (H14.out.below hb5 H14.out.lt)
  have H25 := hid_ (H24.out.below hb5 H24.out.lt)
  have H75 := hid_ (H74.out.below hb5 H74.out.lt)
  have HB5 := hid_ (HB4.out.trans (hb5.mono HB4.out.size))
  clear x0 x1 x2 x3 x4 x5 x6 x7 x8 x9 x10
  clear y0 y1 y2 y3 y4
  obtain ⟨x0, x1, x2, x3, x4, x5, x6, x7, x8, x9, x10⟩ := cells11 H15.out
  obtain ⟨y0, y1, y2, y3, y4⟩ := r5_of H75.out
  clear hb5 ho5
  go_wp2_with fail
  (with_reducible refine Calls.mono (HAw.out _) ?_)
  rintro e w9 ⟨rfl, hb9⟩
  have H29 := hid_ (H25.out.below hb9 H25.out.lt)
  have HB9 := hid_ (HB5.out.trans (hb9.mono HB5.out.size))
  have HBL := hid_ hb9
  clear x0 x1 x2 x3 x4 x5 x6 x7 x8 x9 x10
  clear y0 y1 y2 y3 y4
  have f1 := fun i => H29.out.free i
  obtain ⟨u0, u1, u2, u3, u4, u5, u6, u7, u8, u9, u10⟩ := cells11 H29.out
  clear hb9
  go_wp2_with fail
  obtain ⟨wz, hz, hwz, hbz⟩ := fin11 H29.out HB9.out (Nat.le_succ _) (.int .i64 qa.kind) (.int .u64 (qa.trace : Nat)) (.int .u64 (qa.bn : Nat)) (.int .u64 (qa.bnode : Nat)) (.int .u64 (qa.sn : Nat)) (.int .u64 (qa.snode : Nat)) (.int .i64 qa.v) (.bool qa.ok) (.slice none qa.spans.length 0) (.slice none qa.members.length 0) (.slice none qa.ids.length 0)
  rw [← hz]
  obtain ⟨k0, k1, k2, k3, k4, k5, k6, k7, k8, k9, k10⟩ := cells11 hwz
  have HZ := hid_ hbz
  clear hz hwz hbz
  exact bodyPost_ret (v := .tuple #[.slice A5 m5.length c5, packVal qa noS, .bool true]) (by simp [results, Tryz.results14, go_sem, k0, k1, k2, k3, k4, k5, k6, k7, k8, k9, k10]) rfl (rhand_put HO5.out HB4.out HAsk.out (HM9.out.trans HQ.out.2.symm) HNe.out HQ.out.1.symm HBL.out HZ.out.2 (by have := HS2.out; have := HG7.out; omega) HZ.out.1)
set_option maxRecDepth 100000 in
set_option maxHeartbeats 2000000 in
theorem rhandle_acc (A : Option Addr) (c : Nat) (m : List OneD) (tr bn bd sn sd : Nat) (v : Int) (ok : Bool) (l1 : List SpanD) (l2 : List MemberD) (l3 : List Nat) (a1 : Option Addr) (e1 : Nat) (a2 : Option Addr) (e2 : Nat) (a3 : Option Addr) (e3 : Nat) (w : World) (h : oneE.Row w A m.length c m) (hp : PackIn w ⟨6, tr, bn, bd, sn, sd, v, ok, l1, l2, l3⟩ ⟨a1, e1, a2, e2, a3, e3⟩) (hw : PackD.Wf ⟨6, tr, bn, bd, sn, sd, v, ok, l1, l2, l3⟩) (hr : rightP ⟨6, tr, bn, bd, sn, sd, v, ok, l1, l2, l3⟩ = true) (hask : askP ⟨6, tr, bn, bd, sn, sd, v, ok, l1, l2, l3⟩ = true) (hpl : ∀ a, A = some a → a.spot = none) (hlen : m.length ≤ 1000000) (hri : Rise m) (hnz : NonZ m) (hv0 : v ≠ 0) :
  Calls Tryz.prog 14 #[.slice A m.length c, packVal ⟨6, tr, bn, bd, sn, sd, v, ok, l1, l2, l3⟩ ⟨a1, e1, a2, e2, a3, e3⟩] w (RHandPost w A m ⟨6, tr, bn, bd, sn, sd, v, ok, l1, l2, l3⟩) := by
 have HRow := hid_ h
 have HRi := hid_ (fun (W : World) (hb : Below w.heap.size w W) => refpack_any _ _ W (hp.below hb) hw)
 obtain ⟨hb, hw1, hw2, hsz⟩ := two_new w (⟨6, tr, bn, bd, sn, sd, v, ok, l1, l2, l3⟩ : PackD) (⟨a1, e1, a2, e2, a3, e3⟩ : PackS)
 obtain ⟨wa, hwa⟩ : ∃ wa : World, wa = ((w.alloc (.cells #[.int .i64 6, .int .u64 (tr : Nat), .int .u64 (bn : Nat), .int .u64 (bd : Nat), .int .u64 (sn : Nat), .int .u64 (sd : Nat), .int .i64 v, .bool ok, .slice a1 l1.length e1, .slice a2 l2.length e2, .slice a3 l3.length e3] 41)).alloc (.cells #[.int .i64 0, .int .u64 0, .int .u64 0, .int .u64 0, .int .u64 0, .int .u64 0, .int .i64 0, .bool false, .slice none 0 0, .slice none 0 0, .slice none 0 0] 41)) := ⟨_, rfl⟩
 rw [← hwa] at hb hw1 hw2 hsz
 have HWa := hid_ hwa
 have HB := hid_ hb
 have H1 := hid_ hw1
 have H2 := hid_ hw2
 have HSz := hid_ hsz
 clear hwa
 obtain ⟨x0, x1, x2, x3, x4, x5, x6, x7, x8, x9, x10⟩ := cells11 H1.out
 clear hb hw1 hw2 hsz
 have HAsk := hid_ hask
 rw [hr, show kindP true = 0 from rfl] at HRi
 have hkv := ask_has hask
 have HTr := hid_ (show tr < 18446744073709551616 from hw.trace)
 have HGe := hid_ (fun (W : World) (hb : Below w.heap.size w W) => rget_any A m.length c m tr W (h.below hb))
 have HPu := hid_ (fun (r : RegD) (W : World) (hb : Below w.heap.size w W) => rput_any A m.length c m tr r W (h.below hb) hpl hlen)
 have HNx := hid_ (next_ref hri hnz hask)
 have HX := hid_ (show handX m (⟨6, tr, bn, bd, sn, sd, v, ok, l1, l2, l3⟩ : PackD) = (accD (getR m tr) ⟨bn, bd⟩ v) from by
  show afterD (getR m tr) ⟨bn, bd⟩ v = _
  unfold afterD
  rw [if_neg hv0])
 have HG := hid_ (show handG m (⟨6, tr, bn, bd, sn, sd, v, ok, l1, l2, l3⟩ : PackD) = (takesB (getR m tr) ⟨bn, bd⟩ v) from by
  show grantD (getR m tr) ⟨bn, bd⟩ v = _
  unfold grantD
  rw [if_neg hv0])
 have HAn := hid_ (show ansR m (⟨6, tr, bn, bd, sn, sd, v, ok, l1, l2, l3⟩ : PackD) = ansP (handX m (⟨6, tr, bn, bd, sn, sd, v, ok, l1, l2, l3⟩ : PackD)) tr ⟨bn, bd⟩ (handG m (⟨6, tr, bn, bd, sn, sd, v, ok, l1, l2, l3⟩ : PackD)) true from by
  show ansP (handX m (⟨6, tr, bn, bd, sn, sd, v, ok, l1, l2, l3⟩ : PackD)) tr ⟨bn, bd⟩ (handG m (⟨6, tr, bn, bd, sn, sd, v, ok, l1, l2, l3⟩ : PackD)) (decide (v ≠ 0)) = _
  rw [decide_eq_true hv0])
 have HCo := hid_ (fun (W : World) => raccept_any (getR m tr) ⟨bn, bd⟩ v W)
 clear h hp hw hr hask hkv hpl hlen hri hnz
 rw [← HX.out, ← HG.out] at HCo
 generalize hqa : ansR m (⟨6, tr, bn, bd, sn, sd, v, ok, l1, l2, l3⟩ : PackD) = qa at *
 generalize hm9 : nextR m (⟨6, tr, bn, bd, sn, sd, v, ok, l1, l2, l3⟩ : PackD) = m9 at *
 have HQ := hid_ (And.intro hqa hm9)
 clear hqa hm9
 generalize handX m (⟨6, tr, bn, bd, sn, sd, v, ok, l1, l2, l3⟩ : PackD) = x at *
 generalize handG m (⟨6, tr, bn, bd, sn, sd, v, ok, l1, l2, l3⟩ : PackD) = gr at *
 generalize getR m tr = old at *
 clear HX HG
 go_enter Tryz.func14, Tryz.ntmps14
 go_wp2_with fail
 try rw [← HWa.out]
 (with_reducible refine Calls.mono (HRi.out _ HB.out) ?_)
 rintro e w1 ⟨rfl, hb1⟩
 have H11 := hid_ (H1.out.below hb1 H1.out.lt)
 have H21 := hid_ (H2.out.below hb1 H2.out.lt)
 have HB1 := hid_ (HB.out.trans (hb1.mono HB.out.size))
 have HS1 := hid_ (show w.heap.size + 2 ≤ w1.heap.size by have := hb1.size; rw [HSz.out] at this; exact this)
 clear x0 x1 x2 x3 x4 x5 x6 x7 x8 x9 x10
 obtain ⟨x0, x1, x2, x3, x4, x5, x6, x7, x8, x9, x10⟩ := cells11 H11.out
 clear hb1
 go_wp2_with fail
 (with_reducible refine Calls.mono (HGe.out _ HB1.out) ?_)
 rintro e w2 ⟨rfl, hb2⟩
 have h22 : Below w1.heap.size w1 (w2.alloc (.cells (regCells old) 64)) := hb2.alloc hb2.size _
 have H12 := hid_ (H11.out.below h22 H11.out.lt)
 have H22 := hid_ (H21.out.below h22 H21.out.lt)
 have HB2 := hid_ (HB1.out.trans (h22.mono HB1.out.size))
 have H72 := hid_ (whole_new w2 64 (regCells old))
 have HS2 := hid_ (show w.heap.size + 2 ≤ w2.heap.size by have := HS1.out; have := hb2.size; omega)
 clear x0 x1 x2 x3 x4 x5 x6 x7 x8 x9 x10
 obtain ⟨x0, x1, x2, x3, x4, x5, x6, x7, x8, x9, x10⟩ := cells11 H12.out
 obtain ⟨y0, y1, y2, y3, y4⟩ := r5_of H72.out
 clear hb2 h22
 go_wp2_with fail
 (with_reducible refine Calls.mono (HCo.out _) ?_)
 rintro e w3 ⟨rfl, hb3⟩
 have H13 := hid_ (H12.out.below hb3 H12.out.lt)
 have H23 := hid_ (H22.out.below hb3 H22.out.lt)
 have H73 := hid_ (H72.out.below hb3 H72.out.lt)
 have HB3 := hid_ (HB2.out.trans (hb3.mono HB2.out.size))
 clear x0 x1 x2 x3 x4 x5 x6 x7 x8 x9 x10
 clear y0 y1 y2 y3 y4
 obtain ⟨x0, x1, x2, x3, x4, x5, x6, x7, x8, x9, x10⟩ := cells11 H13.out
 obtain ⟨y0, y1, y2, y3, y4⟩ := r5_of H73.out
 have f7 := fun i => H73.out.free i
 clear hb3
 generalize w2.heap.size = g7 at *
 have hn1 : ¬ w.heap.size = g7 := by have := HS2.out; omega
 have hn2 : ¬ g7 = w.heap.size := by have := HS2.out; omega
 have HAw := hid_ (fun (W : World) => ranswer_any x tr ⟨bn, bd⟩ gr true W)
 rw [← HAn.out] at HAw
 cases gr
 ·have HM9 := hid_ (show m = m9 from by have := HNx.out; rwa [if_neg (by decide)] at this)
  go_wp2_with fail
  have t4 := tn_set5 w3 g7 (.int .u64 (x.p.pos : Nat)) (.int .u64 (x.p.id : Nat)) (.int .u64 (x.t.pos : Nat)) (.int .u64 (x.t.id : Nat)) (.int .i64 x.v)
  have H14 := hid_ (H13.out.tn t4 (by have := HS2.out; omega))
  have H24 := hid_ (H23.out.tn t4 (by have := HS2.out; omega))
  have H74 := hid_ (whole_set5 H73.out (.int .u64 (x.p.pos : Nat)) (.int .u64 (x.p.id : Nat)) (.int .u64 (x.t.pos : Nat)) (.int .u64 (x.t.id : Nat)) (.int .i64 x.v))
  have HB4 := hid_ (below_set5 HB3.out (show w.heap.size ≤ g7 by have := HS2.out; omega) (.int .u64 (x.p.pos : Nat)) (.int .u64 (x.p.id : Nat)) (.int .u64 (x.t.pos : Nat)) (.int .u64 (x.t.id : Nat)) (.int .i64 x.v))
  have HG7 := hid_ H74.out.lt
  obtain ⟨w4, hw4⟩ : ∃ w4 : World, w4 = (((((w3.setCell ⟨g7, 0, none⟩ (.int .u64 (x.p.pos : Nat))).setCell ⟨g7, 1, none⟩ (.int .u64 (x.p.id : Nat))).setCell ⟨g7, 2, none⟩ (.int .u64 (x.t.pos : Nat))).setCell ⟨g7, 3, none⟩ (.int .u64 (x.t.id : Nat))).setCell ⟨g7, 4, none⟩ (.int .i64 x.v)) := ⟨_, rfl⟩
  rw [← hw4] at H14 H24 H74 HB4 HG7
  try rw [← hw4]
  clear t4 f7 hw4
  clear x0 x1 x2 x3 x4 x5 x6 x7 x8 x9 x10
  clear y0 y1 y2 y3 y4
  obtain ⟨x0, x1, x2, x3, x4, x5, x6, x7, x8, x9, x10⟩ := cells11 H14.out
  obtain ⟨y0, y1, y2, y3, y4⟩ := r5_of H74.out
  (with_reducible refine Calls.mono (HAw.out _) ?_)
  rintro e w9 ⟨rfl, hb9⟩
  have H29 := hid_ (H24.out.below hb9 H24.out.lt)
  have HB9 := hid_ (HB4.out.trans (hb9.mono HB4.out.size))
  have HBL := hid_ hb9
  clear x0 x1 x2 x3 x4 x5 x6 x7 x8 x9 x10
  clear y0 y1 y2 y3 y4
  have f1 := fun i => H29.out.free i
  obtain ⟨u0, u1, u2, u3, u4, u5, u6, u7, u8, u9, u10⟩ := cells11 H29.out
  clear hb9
  go_wp2_with fail
  obtain ⟨wz, hz, hwz, hbz⟩ := fin11 H29.out HB9.out (Nat.le_succ _) (.int .i64 qa.kind) (.int .u64 (qa.trace : Nat)) (.int .u64 (qa.bn : Nat)) (.int .u64 (qa.bnode : Nat)) (.int .u64 (qa.sn : Nat)) (.int .u64 (qa.snode : Nat)) (.int .i64 qa.v) (.bool qa.ok) (.slice none qa.spans.length 0) (.slice none qa.members.length 0) (.slice none qa.ids.length 0)
  rw [← hz]
  obtain ⟨k0, k1, k2, k3, k4, k5, k6, k7, k8, k9, k10⟩ := cells11 hwz
  have HZ := hid_ hbz
  clear hz hwz hbz
  exact bodyPost_ret (v := .tuple #[.slice A m.length c, packVal qa noS, .bool true]) (by simp [results, Tryz.results14, go_sem, k0, k1, k2, k3, k4, k5, k6, k7, k8, k9, k10]) rfl (rhand_same HRow.out HAsk.out (HM9.out.trans HQ.out.2.symm) HQ.out.1.symm HZ.out.1)
 ·have HM9 := hid_ (show putR m tr x = m9 from by have := HNx.out; rwa [if_pos rfl] at this)
  have HNe := hid_ (show putR m tr x ≠ [] from put_ne)
  go_wp2_with fail
  have t4 := tn_set5 w3 g7 (.int .u64 (x.p.pos : Nat)) (.int .u64 (x.p.id : Nat)) (.int .u64 (x.t.pos : Nat)) (.int .u64 (x.t.id : Nat)) (.int .i64 x.v)
  have H14 := hid_ (H13.out.tn t4 (by have := HS2.out; omega))
  have H24 := hid_ (H23.out.tn t4 (by have := HS2.out; omega))
  have H74 := hid_ (whole_set5 H73.out (.int .u64 (x.p.pos : Nat)) (.int .u64 (x.p.id : Nat)) (.int .u64 (x.t.pos : Nat)) (.int .u64 (x.t.id : Nat)) (.int .i64 x.v))
  have HB4 := hid_ (below_set5 HB3.out (show w.heap.size ≤ g7 by have := HS2.out; omega) (.int .u64 (x.p.pos : Nat)) (.int .u64 (x.p.id : Nat)) (.int .u64 (x.t.pos : Nat)) (.int .u64 (x.t.id : Nat)) (.int .i64 x.v))
  have HG7 := hid_ H74.out.lt
  obtain ⟨w4, hw4⟩ : ∃ w4 : World, w4 = (((((w3.setCell ⟨g7, 0, none⟩ (.int .u64 (x.p.pos : Nat))).setCell ⟨g7, 1, none⟩ (.int .u64 (x.p.id : Nat))).setCell ⟨g7, 2, none⟩ (.int .u64 (x.t.pos : Nat))).setCell ⟨g7, 3, none⟩ (.int .u64 (x.t.id : Nat))).setCell ⟨g7, 4, none⟩ (.int .i64 x.v)) := ⟨_, rfl⟩
  rw [← hw4] at H14 H24 H74 HB4 HG7
  try rw [← hw4]
  clear t4 f7 hw4
  clear x0 x1 x2 x3 x4 x5 x6 x7 x8 x9 x10
  clear y0 y1 y2 y3 y4
  obtain ⟨x0, x1, x2, x3, x4, x5, x6, x7, x8, x9, x10⟩ := cells11 H14.out
  obtain ⟨y0, y1, y2, y3, y4⟩ := r5_of H74.out
  (with_reducible refine Calls.mono (HPu.out _ _ HB4.out) ?_)
  rintro e w5 ⟨A5, c5, rfl, ho5, hb5⟩
  have HO5 := hid_ ho5
  generalize putR m tr x = m5 at *
  have H15 := hid_ (H14.out.below hb5 H14.out.lt)
  have H25 := hid_ (H24.out.below hb5 H24.out.lt)
  have H75 := hid_ (H74.out.below hb5 H74.out.lt)
  have HB5 := hid_ (HB4.out.trans (hb5.mono HB4.out.size))
  clear x0 x1 x2 x3 x4 x5 x6 x7 x8 x9 x10
  clear y0 y1 y2 y3 y4
  obtain ⟨x0, x1, x2, x3, x4, x5, x6, x7, x8, x9, x10⟩ := cells11 H15.out
  obtain ⟨y0, y1, y2, y3, y4⟩ := r5_of H75.out
  clear hb5 ho5
  go_wp2_with fail
  (with_reducible refine Calls.mono (HAw.out _) ?_)
  rintro e w9 ⟨rfl, hb9⟩
  have H29 := hid_ (H25.out.below hb9 H25.out.lt)
  have HB9 := hid_ (HB5.out.trans (hb9.mono HB5.out.size))
  have HBL := hid_ hb9
  clear x0 x1 x2 x3 x4 x5 x6 x7 x8 x9 x10
  clear y0 y1 y2 y3 y4
  have f1 := fun i => H29.out.free i
  obtain ⟨u0, u1, u2, u3, u4, u5, u6, u7, u8, u9, u10⟩ := cells11 H29.out
  clear hb9
  go_wp2_with fail
  obtain ⟨wz, hz, hwz, hbz⟩ := fin11 H29.out HB9.out (Nat.le_succ _) (.int .i64 qa.kind) (.int .u64 (qa.trace : Nat)) (.int .u64 (qa.bn : Nat)) (.int .u64 (qa.bnode : Nat)) (.int .u64 (qa.sn : Nat)) (.int .u64 (qa.snode : Nat)) (.int .i64 qa.v) (.bool qa.ok) (.slice none qa.spans.length 0) (.slice none qa.members.length 0) (.slice none qa.ids.length 0)
  rw [← hz]
  obtain ⟨k0, k1, k2, k3, k4, k5, k6, k7, k8, k9, k10⟩ := cells11 hwz
  have HZ := hid_ hbz
  clear hz hwz hbz
  exact bodyPost_ret (v := .tuple #[.slice A5 m5.length c5, packVal qa noS, .bool true]) (by simp [results, Tryz.results14, go_sem, k0, k1, k2, k3, k4, k5, k6, k7, k8, k9, k10]) rfl (rhand_put HO5.out HB4.out HAsk.out (HM9.out.trans HQ.out.2.symm) HNe.out HQ.out.1.symm HBL.out HZ.out.2 (by have := HS2.out; have := HG7.out; omega) HZ.out.1)
theorem rhandle_any (A : Option Addr) (n c : Nat) (m : List OneD) (p : PackD) (s : PackS) (w : World) (h : oneE.Row w A n c m) (hp : PackIn w p s) (hw : p.Wf) (hpl : ∀ a, A = some a → a.spot = none) (hlen : m.length ≤ 1000000) (hri : Rise m) (hnz : NonZ m) :
  Calls Tryz.prog 14 #[.slice A n c, packVal p s] w (RHandPost w A m p) := by
 obtain rfl := h.len
 obtain ⟨kd, tr, bn, bd, sn, sd, v, ok, l1, l2, l3⟩ := p
 obtain ⟨a1, e1, a2, e2, a3, e3⟩ := s
 by_cases h4 : kd = 4
 ·subst h4
  rcases hr : rightP ⟨4, tr, bn, bd, sn, sd, v, ok, l1, l2, l3⟩ with _ | _
  ·exact rhandle_bad4 A c m tr bn bd sn sd v ok l1 l2 l3 a1 e1 a2 e2 a3 e3 w h hp hw hr
  ·have hask : askP ⟨4, tr, bn, bd, sn, sd, v, ok, l1, l2, l3⟩ = true := by unfold askP; rw [hr]; rfl
   obtain ⟨-, -, h9⟩ := ask_has hask
   have hv : v = 0 := by
    rcases h9 with h9 | h9
    ·exact h9.2
    ·exact absurd (show (4 : Int) = 6 from h9.1) (by decide)
   subst hv
   exact rhandle_prep A c m tr bn bd sn sd ok l1 l2 l3 a1 e1 a2 e2 a3 e3 w h hp hw hr hask hpl hlen hri hnz
 ·by_cases h6 : kd = 6
  ·subst h6
   rcases hr : rightP ⟨6, tr, bn, bd, sn, sd, v, ok, l1, l2, l3⟩ with _ | _
   ·exact rhandle_bad6 A c m tr bn bd sn sd v ok l1 l2 l3 a1 e1 a2 e2 a3 e3 w h hp hw hr
   ·have hask : askP ⟨6, tr, bn, bd, sn, sd, v, ok, l1, l2, l3⟩ = true := by unfold askP; rw [hr]; rfl
    obtain ⟨-, -, h9⟩ := ask_has hask
    have hv : v ≠ 0 := by
     rcases h9 with h9 | h9
     ·exact absurd (show (6 : Int) = 4 from h9.1) (by decide)
     ·have h8 : 1 ≤ v := h9.2.1
      omega
    exact rhandle_acc A c m tr bn bd sn sd v ok l1 l2 l3 a1 e1 a2 e2 a3 e3 w h hp hw hr hask hpl hlen hri hnz hv
  ·exact rhandle_kind A c m kd tr bn bd sn sd v ok l1 l2 l3 a1 e1 a2 e2 a3 e3 w h h4 h6
end Rp
end Go.Proofs.YthjhofmjhmnddaaGreat
