/-
  The document's ring, made by insertion.
-/
import Derived.Test.YteoeghljoaiiiaaZGRD
import Derived.Test.YteoeghljoaiiiaaZGRE
import Derived.Lib.QuietBelow
namespace Go.Proofs.Yteoeghljoaiiiaa
set_option linter.unusedSimpArgs false
set_option linter.unusedVariables false
open Go.RowKit
attribute [local go_sem ↓] Go.wp_at_zero Go.wp_at_succ
namespace Rg
set_option linter.unusedSimpArgs false
set_option linter.unusedVariables false
theorem ins_sorted {a b : List PtD} {x : PtD} (h : Sorted (a ++ b)) (h1 : ∀ y ∈ a, y.Le x) (h2 : ∀ y ∈ b, x.Le y) : Sorted (a ++ [x] ++ b) := by
  obtain ⟨ha, hb, hab⟩ := List.pairwise_append.1 h
  rw [List.append_assoc]
  refine List.pairwise_append.2 ⟨ha, ?_, ?_⟩
  · rw [List.singleton_append]
    exact List.pairwise_cons.2 ⟨h2, hb⟩
  · intro y hy z hz
    rw [List.singleton_append] at hz
    rcases List.mem_cons.1 hz with rfl | hz
    · exact h1 y hy
    · exact hab y hy z hz
theorem sorted_le_last {l : List PtD} (hs : Sorted l) {k : Nat} (hk : k < l.length) : ∀ y ∈ l.take (k + 1), y.Le l[k] := by
  intro y hy
  obtain ⟨i, hi, rfl⟩ := List.getElem_of_mem hy
  rw [List.length_take] at hi
  rw [List.getElem_take]
  rcases Nat.lt_or_ge i k with h | h
  · exact List.pairwise_iff_getElem.1 hs i k (by omega) hk h
  · have : i = k := by omega
    subst this
    exact PtD.Le.refl _
theorem ins_perm {s L : List PtD} (K : Nat) (x : PtD) (h : s.Perm L) : (s.take K ++ [x] ++ s.drop K).Perm (L ++ [x]) := by
  have h1 : (s.take K ++ [x] ++ s.drop K).Perm (s.take K ++ s.drop K ++ [x]) := by
    rw [List.append_assoc, List.append_assoc]
    exact List.Perm.append_left _ List.perm_append_comm
  rw [List.take_append_drop] at h1
  exact h1.trans (h.append_right _)
theorem info_rpt : (Try.prog.info? 122).map (fun i => (i.zero, i.size, i.bytes)) = some (some (.agg #[.int .u64 0, .int .u64 0]), ptE.K, 16) := by kernel_rfl
abbrev OwnRp := ptE.Own 122
def RMakePost (w : World) (ids : List Nat) (p : Nat) (e : Ending) (w' : World) : Prop :=
  ∃ A' N c' r, e = .returned (.tuple #[.slice A' N c', .int .i64 0]) ∧ ptE.Row w' A' N c' r ∧ Sorted r ∧ r.Perm (ptsOf atN ids p) ∧ Below w.heap.size w w'
set_option maxHeartbeats 8000000 in
theorem rmake_any (A : Option Addr) (n c : Nat) (ids : List Nat) (p : Nat) (w : World) (h : numE.Row w A n c ids) (hb : riseF 0 ids = true) (h1 : 1 ≤ p) (h2 : p ≤ 64) (hn : n ≤ 16) :
    Calls Try.prog 34 #[.slice A n c, .int .i64 p] w (RMakePost w ids p) := by
  have Hr := hid_ (right_any A n c ids w h)
  rw [hb] at Hr
  have HL := hid_ h.len
  have HR := hid_ h
  have e1 : decide (p < 1) = false := decide_eq_false (by omega)
  have e2 : decide ((p : Int) > 64) = false := decide_eq_false (by omega)
  have e3 : decide ((64 : Int) < (p : Int)) = false := decide_eq_false (by omega)
  have e4 : decide ((n : Int) > 16) = false := decide_eq_false (by omega)
  have e5 : decide ((16 : Int) < (n : Int)) = false := decide_eq_false (by omega)
  have e6 : decide ((p : Int) < 1) = false := decide_eq_false (by omega)
  have HP := hid_ h1
  clear hb h
  go_enter Try.func34, Try.ntmps34
  go_wp2_with fail
  refine Calls.mono Hr.out ?_
  rintro e w' ⟨rfl, q0, rfl⟩
  have HB0 := hid_ (below_drewN (Below.refl w.heap.size w) q0)
  generalize w.drewN q0 = w0 at *
  go_wp2_with fail
  go_loopw [6, 7] (fun v6 v7 wr => ∃ (k m : Nat) (A' : Option Addr) (c' : Nat) (r : List PtD), k ≤ n ∧ v7 = .int .i64 k ∧ v6 = .slice A' m c' ∧ Hid (OwnRp w.heap.size wr A' m c' r) ∧ Hid (Sorted r) ∧ Hid (r.Perm (ptsOf atN (ids.take k) p)) ∧ Hid (Below w.heap.size w wr)) (fun _ v7 _ => n - (intOf v7).toNat)
  case atStart => exact ⟨0, 0, none, 0, [], by omega, rfl, rfl, hid_ (Enc.Own.none _ _), hid_ List.Pairwise.nil, hid_ (by simp [ptsOf]), HB0⟩
  case round =>
    obtain ⟨k, m, A', c', r, hk, rfl, rfl, HO, HS, HPm, HB⟩ := hrel
    by_cases hlt : k < n
    · have hkl : k < ids.length := by rw [HL.out]; exact hlt
      have hnum := fun (W : World) (hw : Below w.heap.size w W) => num_at (HR.out.below hw) hkl
      have HPS := hid_ (pts_snoc hkl p)
      generalize ids[k] = x at *
      have HX := hid_ hnum
      clear hnum
      have HLT := hid_ hlt
      go_wp2_with fail
      obtain ⟨wo, hwo⟩ : ∃ wo : World, wo = wr := ⟨_, rfl⟩
      subst hwo
      go_loopw [6, 8] (fun v6 v8 wi => ∃ (i m' : Nat) (A'' : Option Addr) (c'' : Nat) (s : List PtD), i ≤ p ∧ v8 = .int .i64 i ∧ v6 = .slice A'' m' c'' ∧ Hid (OwnRp w.heap.size wi A'' m' c'' s) ∧ Hid (Sorted s) ∧ Hid (s.Perm (ptsOf atN (ids.take k) p ++ memPts x i)) ∧ Hid (Below w.heap.size w wi)) (fun _ v8 _ => p - (intOf v8).toNat)
      case atStart => exact ⟨0, m, A', c', r, by omega, rfl, rfl, HO, HS, hid_ (by simpa [memPts] using HPm.out), HB⟩
      case round =>
        obtain ⟨i, m', A'', c'', s, hi, rfl, rfl, HO2, HS2, HP2, HB2⟩ := hrel
        have hm' : m' ≤ 1024 := by
          rw [← HO2.out.len, HP2.out.length_eq, List.length_append, pts_length, memPts_length, List.length_take]
          have : min k ids.length * p ≤ 15 * 64 := Nat.mul_le_mul (by omega) (by omega)
          omega
        by_cases hip : i < p
        · obtain ⟨b, off, rfl, hblk, hc⟩ := HX.out wr HB2.out
          have j1 : (0 : Int) ≤ (k : Int) := by omega
          have j2 : (k : Int) < (n : Int) := by omega
          have HIP := hid_ hip
          have Hat := hid_ (fun (W : World) => refat_any x i (by have := HIP.out; omega) W)
          have HATN := hid_ (memPts_snoc x i)
          have S0 : NumIn wr b (off + k) x wr := ⟨Below.refl _ _, hc⟩
          generalize atN x i = y at *
          have HSf := hid_ (fun (o : Obj) => (show NumIn wr b (off + k) x (wr.alloc o).drew from numIn_keep S0 (Below.drew (Below.alloc (Below.refl _ _) (Nat.le_refl _) _))))
          go_wp2_with fail
          go_region_held3 (NumIn wr b (off + k) x) (first | assumption | exact HSf.out _ | refine numIn_keep (by assumption) (by assumption) | refine numIn_keep (by assumption) (Below.drew (Below.refl _ _)) | refine numIn_keep (by assumption) (Below.alloc (Below.refl _ _) (Nat.le_refl _) _))
            (first | (go_at_call 37; (with_reducible refine Calls.mono (Hat.out _) ?_); rintro e w' ⟨rfl, rfl⟩) | fail)
          all_goals
            obtain ⟨wm, hwm⟩ : ∃ wm : World, wm = wr := ⟨_, rfl⟩
            subst hwm
            have Hpt : ∀ j u, (#[Value.int .u64 (y : Nat), Value.int .u64 (x : Nat)])[j]? = some u → ((wm.alloc (.cells #[.int .u64 (y : Nat), .int .u64 (x : Nat)] 122)).drew).cell? ⟨wm.heap.size, j, none⟩ = some u := fun j u hu => new_at _ _ _ _ rfl j u hu
            have hpq : PtOne (wm.alloc (.cells #[.int .u64 (y : Nat), .int .u64 (x : Nat)] 122)).drew wm.heap.size 0 ⟨y, x⟩ (wm.alloc (.cells #[.int .u64 (y : Nat), .int .u64 (x : Nat)] 122)).drew := ⟨Below.refl _ _, Hpt 0 _ rfl, Hpt 1 _ rfl⟩
            have HPQ := hid_ hpq
            have HB3 := hid_ (show Below wm.heap.size wm (wm.alloc (.cells #[.int .u64 (y : Nat), .int .u64 (x : Nat)] 122)).drew from Below.drew (Below.alloc (Below.refl _ _) (Nat.le_refl _) _))
            have hglt : wm.heap.size < ((wm.alloc (.cells #[.int .u64 (y : Nat), .int .u64 (x : Nat)] 122)).drew).heap.size := by show wm.heap.size < (wm.alloc _).heap.size; rw [World.size_alloc]; omega
            have HG := hid_ hglt
            clear Hpt hpq hglt S0 hc hblk
            generalize ((wm.alloc (.cells #[.int .u64 (y : Nat), .int .u64 (x : Nat)] 122)).drew) = wp at *
            have HOp := hid_ (show OwnRp w.heap.size wp A'' m' c'' s from HO2.out.later HB3.out)
            have hmc := HOp.out.row.cap
            have hcmx := HOp.out.row.max
            have HSL := hid_ (HOp.out.len)
            go_wp2_with fail
            go_loopw [10] (fun v10 wr => ∃ j : Nat, j ≤ m' ∧ v10 = .int .i64 j ∧ Hid (∀ z ∈ s.drop j, PtD.Le ⟨y, x⟩ z) ∧ Hid (Below wp.heap.size wp wr)) (fun v10 _ => (intOf v10).toNat)
            case atStart => exact ⟨m', Nat.le_refl _, rfl, hid_ (by rw [List.drop_eq_nil_of_le (by rw [HSL.out]; omega)]; intro z hz; cases hz), hid_ (Below.refl _ _)⟩
            case round =>
              obtain ⟨j, hj, rfl, HD, HBj⟩ := hrel
              have HOj := hid_ (show OwnRp w.heap.size wr A'' m' c'' s from HOp.out.later HBj.out)
              have HPj := hid_ (show PtOne wp wm.heap.size 0 ⟨y, x⟩ wr from ptOne_keep HPQ.out HBj.out)
              rcases Nat.eq_zero_or_pos j with h0 | h0
              · subst h0
                have hgd : decide ((0 : Int) < ((0 : Nat) : Int)) = false := decide_eq_false (by omega)
                have hgd2 : decide (((0 : Nat) : Int) > 0) = false := decide_eq_false (by omega)
                go_wp2_with fail
                go_quiet (fail)
                have HBrq := hid_ (below_drewN (Below.refl wr.heap.size wr) nq)
                generalize wr.drewN nq = wq at *
                rcases A'' with _ | ⟨g2, o2, sp2⟩
                · have HOq := hid_ (show OwnRp w.heap.size wq none m' c'' s from HOj.out.later HBrq.out)
                  have S0 : PtOne wq wm.heap.size 0 ⟨y, x⟩ wq := by
                    have h := ptOne_keep HPj.out HBrq.out
                    exact ⟨Below.refl _ _, h.2.1, h.2.2⟩
                  have hbl : wm.heap.size < wq.heap.size := lt_of_cell S0.2.1
                  have HBq := hid_ (show Below wm.heap.size wm wq from HB3.out.trans (Below.mono (HBj.out.trans (Below.mono HBrq.out HBj.out.size)) HB3.out.size))
                  have i1 : (0 : Int) ≤ (m' : Int) := by omega
                  have i2 : (m' : Int) ≤ (c'' : Int) := by omega
                  have i3 : (0 : Int) ≤ (0 : Int) := by omega
                  have i4 : (0 : Int) ≤ (c'' : Int) := by omega
                  have HPn := hid_ (show (s.take 0 ++ [(⟨y, x⟩ : PtD)] ++ s.drop 0).Perm (ptsOf atN (ids.take k) p ++ memPts x (i + 1)) by rw [HATN.out, ← List.append_assoc]; exact ins_perm 0 _ HP2.out)
                  have Hins := hid_ (ins_sorted (a := s.take 0) (b := s.drop 0) (x := ⟨y, x⟩) (by rw [List.take_append_drop]; exact HS2.out) (fun z hz => by simp at hz) HD.out)
                  have Hpl := hid_ (show Enc.cutAtK none c'' 0 ptE.K = none by unfold Enc.cutAtK; split <;> rfl)
                  go_wp2_with fail
                  go_region_held3 (PtOne wq wm.heap.size 0 ⟨y, x⟩) (first | assumption | (refine ptOne_keep (by assumption) (by assumption)) | (refine ptOne_keep (by assumption) (Below.drew (Below.refl _ _))) | (refine ptOne_keep (by assumption) (Below.alloc (Below.refl _ _) (Nat.le_refl _) _)) | (refine ptOne_keepB hbl (by assumption) (by assumption)))
                    (first
                      | (refine Enc.step_rows (E := ptE) (e := 122) (by rfl) (.tmp 62) (.tmp 65) 56 (by rfl) _ 16 Try.underlying56 info_rpt rfl wq.heap.size _ 0 0 [] (by rfl) ?_ _ 0 _ (s.take 0) (by rfl) ?_ 0 (s.take 0) (by omega) (by rfl) (by omega) (by omega) ?_ ?_; (first | exact Enc.own_empty _ _ rfl _ (by simp) | exact Enc.Own.alloc (Enc.own_empty _ _ rfl _ (by simp)) _ | exact Enc.own_empty_at _ _ _ rfl _ (by simp) (by simp) | exact Enc.Own.alloc (Enc.own_empty_at _ _ _ rfl _ (by simp) (by simp)) _); (exact ((HOq.out.later (And.left (by assumption))).row.upto 0 (by omega)).place rfl (by omega)); (exact Below.size (And.left (by assumption))); (intro A1 c1 w1 ho1 hb1 hg1); (try (have hlit := Enc.lit_kept (E := ptE) (gl := wq.heap.size + 1) (s := ⟨y, x⟩) (hg := hg1) (h := by first | exact pt_new_at _ _ _ _ _ (by simp) | exact (pt_new_at _ _ _ _ _ (by simp)).below (Below.drew (Below.refl _ _))) (hne := by simp [Value.ownBlock]))); (try (have hlit := Enc.lit_kept (E := ptE) (gl := wq.heap.size) (s := ⟨y, x⟩) (hg := hg1) (h := by first | exact (pt_new_at _ _ _ _ _ (by simp)).below ((Below.refl _ _).alloc (Nat.le_refl _) _) | exact (pt_new_at _ _ _ _ _ (by simp)).below (Below.drew ((Below.refl _ _).alloc (Nat.le_refl _) _))) (hne := by simp [Value.ownBlock]))))
                      | (refine Enc.step_rows (E := ptE) (e := 122) (by rfl) (.tmp 66) (.tmp 68) 56 (by rfl) _ 16 Try.underlying56 info_rpt rfl wq.heap.size A1 0 c1 (s.take 0) (by rfl) ?_ _ 1 1 [⟨y, x⟩] (by rfl) ?_ (0 + 1) (s.take 0 ++ [⟨y, x⟩]) (by rfl) (by rfl) (by omega) (by omega) ?_ ?_; (first | exact ho1 | exact Enc.Own.alloc ho1 _); (first | exact hlit | exact pt_new_at _ _ _ _ _ (by simp)); (exact Below.size (And.left (by assumption))); (intro A2 c2 w2 ho2 hb2 hg2))
                      | (refine Enc.step_rows (E := ptE) (e := 122) (by rfl) (.tmp 69) (.tmp 72) 56 (by rfl) _ 16 Try.underlying56 info_rpt rfl wq.heap.size A2 (0 + 1) c2 (s.take 0 ++ [⟨y, x⟩]) (by rfl) ho2 _ _ _ (s.drop 0) (by rfl) ?_ (m' + 1) (s.take 0 ++ [⟨y, x⟩] ++ s.drop 0) (by omega) (by rfl) (by omega) (by omega) ?_ ?_; (exact ((HOq.out.later (And.left (by assumption))).row.from_ 0 (by omega)).place Hpl.out (by omega)); (exact Below.size (And.left (by assumption))); (intro A3 c3 w3 ho3 hb3 hg3))
                      | fail)
                  all_goals
                    go_wp2_with fail
                    go_roundw
                    case rel => exact ⟨i + 1, m' + 1, A3, c3, s.take 0 ++ [(⟨y, x⟩ : PtD)] ++ s.drop 0, by have := HIP.out; omega, by go_num, rfl, hid_ (ho3.mono (HB2.out.trans (HBq.out.mono HB2.out.size)).size), Hins, HPn, hid_ ((HB2.out.trans (HBq.out.mono HB2.out.size)).trans (Below.mono (And.left (by assumption)) (HB2.out.trans (HBq.out.mono HB2.out.size)).size))⟩
                    case measure => have := HIP.out; simp [intOf]; omega
                · have hsp : sp2 = none ∧ o2 = 0 := by
                    obtain ⟨_, ⟨e, _⟩ | ⟨g, cap, cur, e, _⟩⟩ := HOj.out
                    · cases e
                    · cases e; exact ⟨rfl, rfl⟩
                  obtain ⟨rfl, rfl⟩ := hsp
                  have HOq := hid_ (show OwnRp w.heap.size wq (some ⟨g2, 0, none⟩) m' c'' s from HOj.out.later HBrq.out)
                  have S0 : PtOne wq wm.heap.size 0 ⟨y, x⟩ wq := by
                    have h := ptOne_keep HPj.out HBrq.out
                    exact ⟨Below.refl _ _, h.2.1, h.2.2⟩
                  have hbl : wm.heap.size < wq.heap.size := lt_of_cell S0.2.1
                  have HBq := hid_ (show Below wm.heap.size wm wq from HB3.out.trans (Below.mono (HBj.out.trans (Below.mono HBrq.out HBj.out.size)) HB3.out.size))
                  have i1 : (0 : Int) ≤ (m' : Int) := by omega
                  have i2 : (m' : Int) ≤ (c'' : Int) := by omega
                  have i3 : (0 : Int) ≤ (0 : Int) := by omega
                  have i4 : (0 : Int) ≤ (c'' : Int) := by omega
                  have HPn := hid_ (show (s.take 0 ++ [(⟨y, x⟩ : PtD)] ++ s.drop 0).Perm (ptsOf atN (ids.take k) p ++ memPts x (i + 1)) by rw [HATN.out, ← List.append_assoc]; exact ins_perm 0 _ HP2.out)
                  have Hins := hid_ (ins_sorted (a := s.take 0) (b := s.drop 0) (x := ⟨y, x⟩) (by rw [List.take_append_drop]; exact HS2.out) (fun z hz => by simp at hz) HD.out)
                  have Hpl := hid_ (show Enc.cutAtK (some ⟨g2, 0, none⟩) c'' 0 ptE.K = some ⟨g2, 0, none⟩ by unfold Enc.cutAtK; split <;> rfl)
                  go_wp2_with fail
                  go_region_held3 (PtOne wq wm.heap.size 0 ⟨y, x⟩) (first | assumption | (refine ptOne_keep (by assumption) (by assumption)) | (refine ptOne_keep (by assumption) (Below.drew (Below.refl _ _))) | (refine ptOne_keep (by assumption) (Below.alloc (Below.refl _ _) (Nat.le_refl _) _)) | (refine ptOne_keepB hbl (by assumption) (by assumption)))
                    (first
                      | (refine Enc.step_rows (E := ptE) (e := 122) (by rfl) (.tmp 62) (.tmp 65) 56 (by rfl) _ 16 Try.underlying56 info_rpt rfl wq.heap.size _ 0 0 [] (by rfl) ?_ _ 0 _ (s.take 0) (by rfl) ?_ 0 (s.take 0) (by omega) (by rfl) (by omega) (by omega) ?_ ?_; (first | exact Enc.own_empty _ _ rfl _ (by simp) | exact Enc.Own.alloc (Enc.own_empty _ _ rfl _ (by simp)) _ | exact Enc.own_empty_at _ _ _ rfl _ (by simp) (by simp) | exact Enc.Own.alloc (Enc.own_empty_at _ _ _ rfl _ (by simp) (by simp)) _); (exact ((HOq.out.later (And.left (by assumption))).row.upto 0 (by omega)).place rfl (by omega)); (exact Below.size (And.left (by assumption))); (intro A1 c1 w1 ho1 hb1 hg1); (try (have hlit := Enc.lit_kept (E := ptE) (gl := wq.heap.size + 1) (s := ⟨y, x⟩) (hg := hg1) (h := by first | exact pt_new_at _ _ _ _ _ (by simp) | exact (pt_new_at _ _ _ _ _ (by simp)).below (Below.drew (Below.refl _ _))) (hne := by simp [Value.ownBlock]))); (try (have hlit := Enc.lit_kept (E := ptE) (gl := wq.heap.size) (s := ⟨y, x⟩) (hg := hg1) (h := by first | exact (pt_new_at _ _ _ _ _ (by simp)).below ((Below.refl _ _).alloc (Nat.le_refl _) _) | exact (pt_new_at _ _ _ _ _ (by simp)).below (Below.drew ((Below.refl _ _).alloc (Nat.le_refl _) _))) (hne := by simp [Value.ownBlock]))))
                      | (refine Enc.step_rows (E := ptE) (e := 122) (by rfl) (.tmp 66) (.tmp 68) 56 (by rfl) _ 16 Try.underlying56 info_rpt rfl wq.heap.size A1 0 c1 (s.take 0) (by rfl) ?_ _ 1 1 [⟨y, x⟩] (by rfl) ?_ (0 + 1) (s.take 0 ++ [⟨y, x⟩]) (by rfl) (by rfl) (by omega) (by omega) ?_ ?_; (first | exact ho1 | exact Enc.Own.alloc ho1 _); (first | exact hlit | exact pt_new_at _ _ _ _ _ (by simp)); (exact Below.size (And.left (by assumption))); (intro A2 c2 w2 ho2 hb2 hg2))
                      | (refine Enc.step_rows (E := ptE) (e := 122) (by rfl) (.tmp 69) (.tmp 72) 56 (by rfl) _ 16 Try.underlying56 info_rpt rfl wq.heap.size A2 (0 + 1) c2 (s.take 0 ++ [⟨y, x⟩]) (by rfl) ho2 _ _ _ (s.drop 0) (by rfl) ?_ (m' + 1) (s.take 0 ++ [⟨y, x⟩] ++ s.drop 0) (by omega) (by rfl) (by omega) (by omega) ?_ ?_; (exact ((HOq.out.later (And.left (by assumption))).row.from_ 0 (by omega)).place Hpl.out (by omega)); (exact Below.size (And.left (by assumption))); (intro A3 c3 w3 ho3 hb3 hg3))
                      | fail)
                  all_goals
                    go_wp2_with fail
                    go_roundw
                    case rel => exact ⟨i + 1, m' + 1, A3, c3, s.take 0 ++ [(⟨y, x⟩ : PtD)] ++ s.drop 0, by have := HIP.out; omega, by go_num, rfl, hid_ (ho3.mono (HB2.out.trans (HBq.out.mono HB2.out.size)).size), Hins, HPn, hid_ ((HB2.out.trans (HBq.out.mono HB2.out.size)).trans (Below.mono (And.left (by assumption)) (HB2.out.trans (HBq.out.mono HB2.out.size)).size))⟩
                    case measure => have := HIP.out; simp [intOf]; omega
              · obtain ⟨jp, rfl⟩ : ∃ jp, j = jp + 1 := ⟨j - 1, by omega⟩
                have hjl : jp < s.length := by rw [HSL.out]; omega
                obtain ⟨g2, o2, rfl, hg2, a1, a2⟩ := pt_at HOj.out.row hjl
                have S2 : PtTwo wr wm.heap.size 0 g2 (o2 + jp * 2) ⟨y, x⟩ s[jp] wr := ⟨Below.refl _ _, HPj.out.2.1, HPj.out.2.2, a1, a2⟩
                have HDR := hid_ (List.drop_eq_getElem_cons hjl)
                have HLA := hid_ (sorted_le_last HS2.out hjl)
                generalize s[jp] = z0 at *
                have Hbl := hid_ (fun W => refbelow_any ⟨y, x⟩ z0 W)
                have hgd : decide ((0 : Int) < (jp : Int) + 1) = true := decide_eq_true (by omega)
                have hgd2 : decide ((jp : Int) + 1 > 0) = true := decide_eq_true (by omega)
                have hwp : IntKind.i64.wrap (jp : Int) = (jp : Int) := IntWalk.i64_in _ (by omega)
                have n1 : (jp : Int) < (m' : Int) := by omega
                have n2 : (0 : Int) ≤ (jp : Int) := by omega
                have HA := hid_ (And.intro a1 a2)
                clear a1 a2
                cases hlv : ltB ⟨y, x⟩ z0
                · rw [hlv] at Hbl
                  have HNO := hid_ (ltB_no hlv)
                  clear hlv
                  go_wp2_with fail
                  go_region_held3 (PtTwo wr wm.heap.size 0 g2 (o2 + jp * 2) ⟨y, x⟩ z0) (first | assumption | (refine ptTwo_keep (by assumption) (by assumption)) | (refine ptTwo_keep (by assumption) (Below.drew (Below.refl _ _))))
                    (first | (go_at_call 84; (with_reducible refine Calls.mono (Hbl.out _) ?_); rintro e w' ⟨rfl, hb'⟩) | fail)
                  have hS2 : PtTwo wr wm.heap.size 0 g2 (o2 + jp * 2) ⟨y, x⟩ z0 w' := by assumption
                  have HBrq := hid_ hS2.1
                  obtain ⟨wq, hwq⟩ : ∃ wq : World, wq = w' := ⟨_, rfl⟩
                  subst hwq
                  clear hS2
                  have HOq := hid_ (show OwnRp w.heap.size wq (some ⟨g2, o2, none⟩) m' c'' s from HOj.out.later HBrq.out)
                  have S0 : PtOne wq wm.heap.size 0 ⟨y, x⟩ wq := by
                    have h := ptOne_keep HPj.out HBrq.out
                    exact ⟨Below.refl _ _, h.2.1, h.2.2⟩
                  have hbl : wm.heap.size < wq.heap.size := lt_of_cell S0.2.1
                  have HBq := hid_ (show Below wm.heap.size wm wq from HB3.out.trans (Below.mono (HBj.out.trans (Below.mono HBrq.out HBj.out.size)) HB3.out.size))
                  have i1 : ((jp : Int) + 1) ≤ (m' : Int) := by omega
                  have i2 : (m' : Int) ≤ (c'' : Int) := by omega
                  have i3 : (0 : Int) ≤ ((jp : Int) + 1) := by omega
                  have i4 : ((jp : Int) + 1) ≤ (c'' : Int) := by omega
                  have HPn := hid_ (show (s.take (jp + 1) ++ [(⟨y, x⟩ : PtD)] ++ s.drop (jp + 1)).Perm (ptsOf atN (ids.take k) p ++ memPts x (i + 1)) by rw [HATN.out, ← List.append_assoc]; exact ins_perm (jp + 1) _ HP2.out)
                  have Hins := hid_ (ins_sorted (a := s.take (jp + 1)) (b := s.drop (jp + 1)) (x := ⟨y, x⟩) (by rw [List.take_append_drop]; exact HS2.out) (fun z hz => (HLA.out z hz).trans HNO.out) HD.out)
                  by_cases hck : c'' = jp + 1
                  · skip
                    have Hpl := hid_ (show Enc.cutAtK (some ⟨g2, o2, none⟩) c'' (jp + 1) ptE.K = some ⟨g2, o2, none⟩ by unfold Enc.cutAtK; rw [if_pos hck])
                    go_wp2_with fail
                    go_region_held3 (PtOne wq wm.heap.size 0 ⟨y, x⟩) (first | assumption | (refine ptOne_keep (by assumption) (by assumption)) | (refine ptOne_keep (by assumption) (Below.drew (Below.refl _ _))) | (refine ptOne_keep (by assumption) (Below.alloc (Below.refl _ _) (Nat.le_refl _) _)) | (refine ptOne_keepB hbl (by assumption) (by assumption)))
                      (first
                        | (refine Enc.step_rows (E := ptE) (e := 122) (by rfl) (.tmp 62) (.tmp 65) 56 (by rfl) _ 16 Try.underlying56 info_rpt rfl wq.heap.size _ 0 0 [] (by rfl) ?_ _ (jp + 1) _ (s.take (jp + 1)) (by rfl) ?_ (jp + 1) (s.take (jp + 1)) (by omega) (by rfl) (by omega) (by omega) ?_ ?_; (first | exact Enc.own_empty _ _ rfl _ (by simp) | exact Enc.Own.alloc (Enc.own_empty _ _ rfl _ (by simp)) _ | exact Enc.own_empty_at _ _ _ rfl _ (by simp) (by simp) | exact Enc.Own.alloc (Enc.own_empty_at _ _ _ rfl _ (by simp) (by simp)) _); (exact ((HOq.out.later (And.left (by assumption))).row.upto (jp + 1) (by omega)).place rfl (by omega)); (exact Below.size (And.left (by assumption))); (intro A1 c1 w1 ho1 hb1 hg1); (try (have hlit := Enc.lit_kept (E := ptE) (gl := wq.heap.size + 1) (s := ⟨y, x⟩) (hg := hg1) (h := by first | exact pt_new_at _ _ _ _ _ (by simp) | exact (pt_new_at _ _ _ _ _ (by simp)).below (Below.drew (Below.refl _ _))) (hne := by simp [Value.ownBlock]))); (try (have hlit := Enc.lit_kept (E := ptE) (gl := wq.heap.size) (s := ⟨y, x⟩) (hg := hg1) (h := by first | exact (pt_new_at _ _ _ _ _ (by simp)).below ((Below.refl _ _).alloc (Nat.le_refl _) _) | exact (pt_new_at _ _ _ _ _ (by simp)).below (Below.drew ((Below.refl _ _).alloc (Nat.le_refl _) _))) (hne := by simp [Value.ownBlock]))))
                        | (refine Enc.step_rows (E := ptE) (e := 122) (by rfl) (.tmp 66) (.tmp 68) 56 (by rfl) _ 16 Try.underlying56 info_rpt rfl wq.heap.size A1 (jp + 1) c1 (s.take (jp + 1)) (by rfl) ?_ _ 1 1 [⟨y, x⟩] (by rfl) ?_ ((jp + 1) + 1) (s.take (jp + 1) ++ [⟨y, x⟩]) (by rfl) (by rfl) (by omega) (by omega) ?_ ?_; (first | exact ho1 | exact Enc.Own.alloc ho1 _); (first | exact hlit | exact pt_new_at _ _ _ _ _ (by simp)); (exact Below.size (And.left (by assumption))); (intro A2 c2 w2 ho2 hb2 hg2))
                        | (refine Enc.step_rows (E := ptE) (e := 122) (by rfl) (.tmp 69) (.tmp 72) 56 (by rfl) _ 16 Try.underlying56 info_rpt rfl wq.heap.size A2 ((jp + 1) + 1) c2 (s.take (jp + 1) ++ [⟨y, x⟩]) (by rfl) ho2 _ _ _ (s.drop (jp + 1)) (by rfl) ?_ (m' + 1) (s.take (jp + 1) ++ [⟨y, x⟩] ++ s.drop (jp + 1)) (by omega) (by rfl) (by omega) (by omega) ?_ ?_; (exact ((HOq.out.later (And.left (by assumption))).row.from_ (jp + 1) (by omega)).place Hpl.out (by omega)); (exact Below.size (And.left (by assumption))); (intro A3 c3 w3 ho3 hb3 hg3))
                        | fail)
                    all_goals
                      go_wp2_with fail
                      go_roundw
                      case rel => exact ⟨i + 1, m' + 1, A3, c3, s.take (jp + 1) ++ [(⟨y, x⟩ : PtD)] ++ s.drop (jp + 1), by have := HIP.out; omega, by go_num, rfl, hid_ (ho3.mono (HB2.out.trans (HBq.out.mono HB2.out.size)).size), Hins, HPn, hid_ ((HB2.out.trans (HBq.out.mono HB2.out.size)).trans (Below.mono (And.left (by assumption)) (HB2.out.trans (HBq.out.mono HB2.out.size)).size))⟩
                      case measure => have := HIP.out; simp [intOf]; omega
                  · skip
                    have Hpl := hid_ (show Enc.cutAtK (some ⟨g2, o2, none⟩) c'' (jp + 1) ptE.K = some ⟨g2, o2 + (jp + 1) * 2, none⟩ by unfold Enc.cutAtK; rw [if_neg hck, Option.map_some, add_plain]; rfl)
                    go_wp2_with fail
                    go_region_held3 (PtOne wq wm.heap.size 0 ⟨y, x⟩) (first | assumption | (refine ptOne_keep (by assumption) (by assumption)) | (refine ptOne_keep (by assumption) (Below.drew (Below.refl _ _))) | (refine ptOne_keep (by assumption) (Below.alloc (Below.refl _ _) (Nat.le_refl _) _)) | (refine ptOne_keepB hbl (by assumption) (by assumption)))
                      (first
                        | (refine Enc.step_rows (E := ptE) (e := 122) (by rfl) (.tmp 62) (.tmp 65) 56 (by rfl) _ 16 Try.underlying56 info_rpt rfl wq.heap.size _ 0 0 [] (by rfl) ?_ _ (jp + 1) _ (s.take (jp + 1)) (by rfl) ?_ (jp + 1) (s.take (jp + 1)) (by omega) (by rfl) (by omega) (by omega) ?_ ?_; (first | exact Enc.own_empty _ _ rfl _ (by simp) | exact Enc.Own.alloc (Enc.own_empty _ _ rfl _ (by simp)) _ | exact Enc.own_empty_at _ _ _ rfl _ (by simp) (by simp) | exact Enc.Own.alloc (Enc.own_empty_at _ _ _ rfl _ (by simp) (by simp)) _); (exact ((HOq.out.later (And.left (by assumption))).row.upto (jp + 1) (by omega)).place rfl (by omega)); (exact Below.size (And.left (by assumption))); (intro A1 c1 w1 ho1 hb1 hg1); (try (have hlit := Enc.lit_kept (E := ptE) (gl := wq.heap.size + 1) (s := ⟨y, x⟩) (hg := hg1) (h := by first | exact pt_new_at _ _ _ _ _ (by simp) | exact (pt_new_at _ _ _ _ _ (by simp)).below (Below.drew (Below.refl _ _))) (hne := by simp [Value.ownBlock]))); (try (have hlit := Enc.lit_kept (E := ptE) (gl := wq.heap.size) (s := ⟨y, x⟩) (hg := hg1) (h := by first | exact (pt_new_at _ _ _ _ _ (by simp)).below ((Below.refl _ _).alloc (Nat.le_refl _) _) | exact (pt_new_at _ _ _ _ _ (by simp)).below (Below.drew ((Below.refl _ _).alloc (Nat.le_refl _) _))) (hne := by simp [Value.ownBlock]))))
                        | (refine Enc.step_rows (E := ptE) (e := 122) (by rfl) (.tmp 66) (.tmp 68) 56 (by rfl) _ 16 Try.underlying56 info_rpt rfl wq.heap.size A1 (jp + 1) c1 (s.take (jp + 1)) (by rfl) ?_ _ 1 1 [⟨y, x⟩] (by rfl) ?_ ((jp + 1) + 1) (s.take (jp + 1) ++ [⟨y, x⟩]) (by rfl) (by rfl) (by omega) (by omega) ?_ ?_; (first | exact ho1 | exact Enc.Own.alloc ho1 _); (first | exact hlit | exact pt_new_at _ _ _ _ _ (by simp)); (exact Below.size (And.left (by assumption))); (intro A2 c2 w2 ho2 hb2 hg2))
                        | (refine Enc.step_rows (E := ptE) (e := 122) (by rfl) (.tmp 69) (.tmp 72) 56 (by rfl) _ 16 Try.underlying56 info_rpt rfl wq.heap.size A2 ((jp + 1) + 1) c2 (s.take (jp + 1) ++ [⟨y, x⟩]) (by rfl) ho2 _ _ _ (s.drop (jp + 1)) (by rfl) ?_ (m' + 1) (s.take (jp + 1) ++ [⟨y, x⟩] ++ s.drop (jp + 1)) (by omega) (by rfl) (by omega) (by omega) ?_ ?_; (exact ((HOq.out.later (And.left (by assumption))).row.from_ (jp + 1) (by omega)).place Hpl.out (by omega)); (exact Below.size (And.left (by assumption))); (intro A3 c3 w3 ho3 hb3 hg3))
                        | fail)
                    all_goals
                      go_wp2_with fail
                      go_roundw
                      case rel => exact ⟨i + 1, m' + 1, A3, c3, s.take (jp + 1) ++ [(⟨y, x⟩ : PtD)] ++ s.drop (jp + 1), by have := HIP.out; omega, by go_num, rfl, hid_ (ho3.mono (HB2.out.trans (HBq.out.mono HB2.out.size)).size), Hins, HPn, hid_ ((HB2.out.trans (HBq.out.mono HB2.out.size)).trans (Below.mono (And.left (by assumption)) (HB2.out.trans (HBq.out.mono HB2.out.size)).size))⟩
                      case measure => have := HIP.out; simp [intOf]; omega
                · rw [hlv] at Hbl
                  have HYES := hid_ (ltB_le hlv)
                  clear hlv
                  go_wp2_with fail
                  go_region_held3 (PtTwo wr wm.heap.size 0 g2 (o2 + jp * 2) ⟨y, x⟩ z0) (first | assumption | (refine ptTwo_keep (by assumption) (by assumption)) | (refine ptTwo_keep (by assumption) (Below.drew (Below.refl _ _))))
                    (first | (go_at_call 84; (with_reducible refine Calls.mono (Hbl.out _) ?_); rintro e w' ⟨rfl, hb'⟩) | fail)
                  go_wp2_with fail
                  go_roundw
                  case rel =>
                    refine ⟨jp, by omega, by go_num, hid_ ?_, hid_ (HBj.out.trans (Below.mono (And.left (by assumption)) HBj.out.size))⟩
                    rw [HDR.out]
                    intro q hq
                    rcases List.mem_cons.1 hq with rfl | hq
                    · exact HYES.out
                    · exact HD.out q hq
                  case measure => simp [intOf]
        · obtain rfl : i = p := by omega
          go_wp2_with fail
          go_roundw
          case rel => exact ⟨k + 1, m', A'', c'', s, by have := HLT.out; omega, by go_num, rfl, HO2, HS2, hid_ (by rw [HPS.out]; exact HP2.out), HB2⟩
          case measure => have := HLT.out; simp [intOf]; omega
    · obtain rfl : k = n := by omega
      have HT := hid_ (show ids.take k = ids from List.take_of_length_le (by rw [HL.out]; omega))
      have Hend := hid_ (show RMakePost w ids p (.returned (.tuple #[.slice A' m c', .int .i64 0])) wr from ⟨A', m, c', r, rfl, HO.out.row, HS.out, by have := HPm.out; rwa [HT.out] at this, HB.out⟩)
      go_wp2_with fail
      go_ret2
      exact Hend.out
end Rg
end Go.Proofs.Yteoeghljoaiiiaa

/-
  Make, the program's and the document's, of whatever members and points.
-/
namespace Go.Proofs.Yteoeghljoaiiiaa
set_option linter.unusedSimpArgs false
set_option linter.unusedVariables false
open Go.RowKit
namespace Rg
set_option linter.unusedSimpArgs false
set_option linter.unusedVariables false
/-- What Make answers: its list and its kind. -/
def MakeIs (ids : List Nat) (p : Int) (r : List PtD) (k : Int) : Prop :=
  ((riseF 0 ids = false ∨ p < 1 ∨ 64 < p) ∧ r = [] ∧ k = 1) ∨ (riseF 0 ids = true ∧ 1 ≤ p ∧ p ≤ 64 ∧ 16 < ids.length ∧ r = [] ∧ k = 4) ∨
    (riseF 0 ids = true ∧ 1 ≤ p ∧ p ≤ 64 ∧ ids.length ≤ 16 ∧ k = 0 ∧ Sorted r ∧ r.Perm (ptsOf atN ids p.toNat))
theorem makeIs_one {ids : List Nat} {p : Int} {r r' : List PtD} {k k' : Int} (h : MakeIs ids p r k) (h' : MakeIs ids p r' k') : r = r' ∧ k = k' := by
  rcases h with ⟨a, b, c⟩ | ⟨a, a1, a2, a3, b, c⟩ | ⟨a, a1, a2, a3, c, b, d⟩ <;> rcases h' with ⟨a', b', c'⟩ | ⟨a', a1', a2', a3', b', c'⟩ | ⟨a', a1', a2', a3', c', b', d'⟩
  · exact ⟨by rw [b, b'], by rw [c, c']⟩
  · rcases a with a | a | a
    · rw [a] at a'; cases a'
    · omega
    · omega
  · rcases a with a | a | a
    · rw [a] at a'; cases a'
    · omega
    · omega
  · rcases a' with a' | a' | a'
    · rw [a] at a'; cases a'
    · omega
    · omega
  · exact ⟨by rw [b, b'], by rw [c, c']⟩
  · omega
  · rcases a' with a' | a' | a'
    · rw [a] at a'; cases a'
    · omega
    · omega
  · omega
  · exact ⟨sorted_uniq b b' (d.trans d'.symm), by rw [c, c']⟩
def MakeAny (w : World) (ids : List Nat) (p : Int) (e : Ending) (w' : World) : Prop :=
  ∃ A N c r k, e = .returned (.tuple #[.slice A N c, .int .i64 k]) ∧ ptE.Row w' A N c r ∧ MakeIs ids p r k ∧ Below w.heap.size w w'
theorem make_all (A : Option Addr) (n c : Nat) (ids : List Nat) (p : Int) (w : World) (h : numE.Row w A n c ids) :
    Calls Try.prog 33 #[.slice A n c, .int .i64 p] w (MakeAny w ids p) := by
  by_cases hb : riseF 0 ids = false ∨ p < 1 ∨ 64 < p
  · refine Calls.mono (make_bad A n c ids p w h hb) ?_
    rintro e w' ⟨rfl, rfl⟩
    exact ⟨_, _, _, [], _, rfl, Enc.Row.none _, .inl ⟨hb, rfl, rfl⟩, Below.refl _ _⟩
  · have h0 : riseF 0 ids = true := by
      cases hx : riseF 0 ids
      · exact absurd (.inl hx) hb
      · rfl
    have h1 : 1 ≤ p := by omega
    have h2 : p ≤ 64 := by omega
    by_cases hn : 16 < n
    · refine Calls.mono (make_large A n c ids p w h h0 h1 h2 hn) ?_
      rintro e w' ⟨rfl, rfl⟩
      exact ⟨_, _, _, [], _, rfl, Enc.Row.none _, .inr (.inl ⟨h0, h1, h2, by rw [h.len]; exact hn, rfl, rfl⟩), Below.refl _ _⟩
    · obtain ⟨q, rfl⟩ : ∃ q : Nat, p = (q : Int) := ⟨p.toNat, by omega⟩
      refine Calls.mono (make_any A n c ids q w h h0 (by omega) (by omega) (by omega)) ?_
      rintro e w' ⟨A', N, c', r, rfl, hr, hs, hp, hb'⟩
      exact ⟨_, _, _, r, _, rfl, hr, .inr (.inr ⟨h0, h1, h2, by rw [h.len]; omega, rfl, hs, hp⟩), hb'⟩
set_option maxHeartbeats 2000000 in
theorem rmake_bad (A : Option Addr) (n c : Nat) (ids : List Nat) (p : Int) (w : World) (h : numE.Row w A n c ids) (hb : riseF 0 ids = false ∨ p < 1 ∨ 64 < p) :
    Calls Try.prog 34 #[.slice A n c, .int .i64 p] w (RetB w.heap.size w (.tuple #[.slice none 0 0, .int .i64 1])) := by
  have Hr := hid_ (right_any A n c ids w h)
  cases hr : riseF 0 ids
  · rw [hr] at Hr
    clear hb hr h
    go_enter Try.func34, Try.ntmps34
    go_wp2_with fail
    refine Calls.mono Hr.out ?_
    rintro e w' ⟨rfl, q, rfl⟩
    go_wp2_with fail
    go_ret2
    exact retB_mk rfl (below_drewN (Below.refl _ _) q)
  · rw [hr] at Hr
    rw [hr] at hb
    by_cases h1 : p < 1
    · have e1 : decide (p < 1) = true := decide_eq_true h1
      clear hb hr h
      go_enter Try.func34, Try.ntmps34
      go_wp2_with fail
      refine Calls.mono Hr.out ?_
      rintro e w' ⟨rfl, q, rfl⟩
      go_wp2_with fail
      go_ret2
      exact retB_mk rfl (below_drewN (Below.refl _ _) q)
    · have h2 : 64 < p := by
        rcases hb with hb | hb | hb
        · cases hb
        · omega
        · exact hb
      have e1 : decide (p < 1) = false := decide_eq_false h1
      have e2 : decide (p > 64) = true := decide_eq_true h2
      have e3 : decide (64 < p) = true := decide_eq_true h2
      clear hb hr h
      go_enter Try.func34, Try.ntmps34
      go_wp2_with fail
      refine Calls.mono Hr.out ?_
      rintro e w' ⟨rfl, q, rfl⟩
      go_wp2_with fail
      go_ret2
      exact retB_mk rfl (below_drewN (Below.refl _ _) q)
set_option maxHeartbeats 2000000 in
theorem rmake_large (A : Option Addr) (n c : Nat) (ids : List Nat) (p : Int) (w : World) (h : numE.Row w A n c ids) (hb : riseF 0 ids = true) (h1 : 1 ≤ p) (h2 : p ≤ 64) (hn : 16 < n) :
    Calls Try.prog 34 #[.slice A n c, .int .i64 p] w (RetB w.heap.size w (.tuple #[.slice none 0 0, .int .i64 4])) := by
  have Hr := hid_ (right_any A n c ids w h)
  rw [hb] at Hr
  have e1 : decide (p < 1) = false := decide_eq_false (by omega)
  have e2 : decide (p > 64) = false := decide_eq_false (by omega)
  have e3 : decide (64 < p) = false := decide_eq_false (by omega)
  have e4 : decide ((n : Int) > 16) = true := decide_eq_true (by omega)
  have e5 : decide ((16 : Int) < (n : Int)) = true := decide_eq_true (by omega)
  clear hb h
  go_enter Try.func34, Try.ntmps34
  go_wp2_with fail
  refine Calls.mono Hr.out ?_
  rintro e w' ⟨rfl, q, rfl⟩
  go_wp2_with fail
  go_ret2
  exact retB_mk rfl (below_drewN (Below.refl _ _) q)
theorem rmake_all (A : Option Addr) (n c : Nat) (ids : List Nat) (p : Int) (w : World) (h : numE.Row w A n c ids) :
    Calls Try.prog 34 #[.slice A n c, .int .i64 p] w (MakeAny w ids p) := by
  by_cases hb : riseF 0 ids = false ∨ p < 1 ∨ 64 < p
  · refine Calls.mono (rmake_bad A n c ids p w h hb) ?_
    rintro e w' ⟨rfl, hb'⟩
    exact ⟨_, _, _, [], _, rfl, Enc.Row.none _, .inl ⟨hb, rfl, rfl⟩, hb'⟩
  · have h0 : riseF 0 ids = true := by
      cases hx : riseF 0 ids
      · exact absurd (.inl hx) hb
      · rfl
    have h1 : 1 ≤ p := by omega
    have h2 : p ≤ 64 := by omega
    by_cases hn : 16 < n
    · refine Calls.mono (rmake_large A n c ids p w h h0 h1 h2 hn) ?_
      rintro e w' ⟨rfl, hb'⟩
      exact ⟨_, _, _, [], _, rfl, Enc.Row.none _, .inr (.inl ⟨h0, h1, h2, by rw [h.len]; exact hn, rfl, rfl⟩), hb'⟩
    · obtain ⟨q, rfl⟩ : ∃ q : Nat, p = (q : Int) := ⟨p.toNat, by omega⟩
      refine Calls.mono (rmake_any A n c ids q w h h0 (by omega) (by omega) (by omega)) ?_
      rintro e w' ⟨A', N, c', r, rfl, hr, hs, hp, hb'⟩
      exact ⟨_, _, _, r, _, rfl, hr, .inr (.inr ⟨h0, h1, h2, by rw [h.len]; omega, rfl, hs, hp⟩), hb'⟩
end Rg
end Go.Proofs.Yteoeghljoaiiiaa

/-
  What RingMakes wants beside MakeAll: a drawn region whose callees leave what was there.
-/
namespace Go.Proofs.Yteoeghljoaiiiaa
set_option linter.unusedSimpArgs false
set_option linter.unusedVariables false
open Go.RowKit Go.Sort
theorem quiet_below_of_draws {P : Program} {f : FuncId} {args : Array Value} {w : World} {d : Nat} {os : Array Obj} {v : Value}
    (h : Calls P f args (grow (redrawn w d) os) fun e w' => e = .returned v ∧ ∃ q, w' = (grow (redrawn w d) os).drewN q) :
    Calls P f args (grow (redrawn w d) os) fun e w'' => e = .returned v ∧ ∃ p : Regrown, w'' = grow (redrawn w p.d) p.os :=
  Calls.regrown_of (h.mono fun _ _ ⟨he, q, hq⟩ => ⟨he, hq ▸ below_drewN (Below.refl _ _) _⟩)
end Go.Proofs.Yteoeghljoaiiiaa
