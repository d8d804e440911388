/-
  The document's arcs that move between two rings.
-/
import Derived.Test.YtgmeggilojcoeaaZGRE
import Derived.Test.YtgmeggilojcoeaaZGRF
import Derived.Test.YtgmeggilojcoeaaZREnds
import Derived.Test.YtgmeggilojcoeaaZRMoved
import Derived.Deep.CutRange
namespace Go.Proofs.Ytgmeggilojcoeaa
set_option linter.unusedSimpArgs false
set_option linter.unusedVariables false
open Go.RowKit
attribute [local go_sem ↓] Go.wp_at_zero Go.wp_at_succ
namespace Rg
set_option linter.unusedSimpArgs false
set_option linter.unusedVariables false
theorem numIn_keepB {wq w1 w2 : World} {b o x : Nat} (hg : b < wq.heap.size) (h : NumIn wq b o x w1) (hb : Below wq.heap.size w1 w2) : NumIn wq b o x w2 := ⟨h.1.trans hb, by rw [hb.cell hg]; exact h.2⟩
/-- The greatest number is there just where it is the last one. -/
theorem last_in {l : List Nat} {x : Nat} (hr : l.Pairwise (· < ·)) (hx : ∀ z ∈ l, z ≤ x) {k : Nat} (hk : k < l.length) (hk2 : k + 1 = l.length) : x ∈ l ↔ l[k] = x := by
  constructor
  · intro h
    obtain ⟨i, hi, e⟩ := List.getElem_of_mem h
    rcases Nat.lt_or_ge i k with h1 | h1
    · have h2 := List.pairwise_iff_getElem.1 hr i k hi hk h1
      have h3 := hx _ (List.getElem_mem hk)
      omega
    · have : i = k := by omega
      subst this
      exact e
  · intro h
    rw [← h]
    exact List.getElem_mem hk
theorem info_rarc : (Try.prog.info? 63).map (fun i => (i.zero, i.size, i.bytes)) = some (some (.agg #[.int .u64 0, .int .u64 0, .int .u64 0, .int .u64 0]), arcE.K, 32) := by kernel_rfl
abbrev OwnRA := arcE.Own 63
theorem OwnRA.turn {B : Nat} {w : World} {g n c k : Nat} {l0 : List ArcD} {y : ArcD} (h : OwnRA B w (some ⟨g, 0, none⟩) n c (l0 ++ [y])) (hk : l0.length = k) (hg : B ≤ g) (v : Nat) :
    w.frozen? ⟨g, k * 4 + 1, none⟩ = false ∧ OwnRA B (w.setCell ⟨g, k * 4 + 1, none⟩ (.int .u64 (v : Nat))) (some ⟨g, 0, none⟩) n c (l0 ++ [⟨y.lo, v, y.old, y.new⟩]) ∧ Below B w (w.setCell ⟨g, k * 4 + 1, none⟩ (.int .u64 (v : Nat))) := by
  subst hk
  have h2 := World.ownsRow.stored h (l0.length * 4 + 1) (.int .u64 (v : Nat))
  rw [arc_set] at h2
  exact ⟨World.ownsRow.frozenAt h _, h2.1, (Below.refl _ _).setCell (p := ⟨g, l0.length * 4 + 1, none⟩) hg _⟩
theorem ends_lt {M : Nat} (hM : 0 < M) {a b : List PtD} {l : List Nat} (hl : Ends M a b l) (ha : ∀ p ∈ a, p.pos < M) (hb : ∀ p ∈ b, p.pos < M) : ∀ t ∈ l, t < M := by
  intro t ht
  rcases (hl.2 t).1 ht with h | ⟨p, hp, h⟩ | ⟨p, hp, h⟩
  · omega
  · rw [← h]; exact ha p hp
  · rw [← h]; exact hb p hp
theorem wrap_back (x : Nat) (h1 : 0 < x) (h2 : x < 18446744073709551616) : IntKind.u64.wrap ((x : Int) - 1) = ((x - 1 : Nat) : Int) := by
  simp [IntKind.wrap, IntKind.bits, IntKind.signed]
  omega
theorem from_next {M : Nat} {l : List Nat} {k : Nat} (hk : k < l.length) : fromF M l (k + 1) = (l[k] + 1) % M := by
  unfold fromF
  rw [if_neg (by omega), Nat.add_sub_cancel, getElem!_pos l k hk]
theorem from_pos {M : Nat} {l : List Nat} (hr : l.Pairwise (· < ·)) (hM : ∀ t ∈ l, t < M) {k : Nat} (hk : k < l.length) : fromF M l k < M ∧ (0 < k → 0 < fromF M l k) := by
  have h0 := hM _ (List.getElem_mem hk)
  unfold fromF
  by_cases h : k = 0
  · rw [if_pos h]; exact ⟨by omega, fun h2 => by omega⟩
  · rw [if_neg h, getElem!_pos l (k - 1) (by omega)]
    have h1 := List.pairwise_iff_getElem.1 hr (k - 1) k (by omega) hk (by omega)
    rw [Nat.mod_eq_of_lt (by omega)]
    exact ⟨by omega, fun _ => by omega⟩
/-- An arc behind others, the last of which is y. -/
theorem joinF_last {M : Nat} {l0 : List ArcD} {y : ArcD} {f t p q : Nat} (hy : y.hi < M) (hf : 0 < f) (hfM : f < M) :
    joinF M (l0 ++ [y]) ⟨f, t, p, q⟩ = if y.hi = f - 1 ∧ y.old = p ∧ y.new = q then l0 ++ [⟨y.lo, t, y.old, y.new⟩] else l0 ++ [y] ++ [⟨f, t, p, q⟩] := by
  unfold joinF
  rw [List.getLast?_append, List.getLast?_singleton]
  simp only [Option.some_or]
  have hb : joinsTo M y ⟨f, t, p, q⟩ = true ↔ (y.hi = f - 1 ∧ y.old = p ∧ y.new = q) := by
    unfold joinsTo
    simp only [Bool.and_eq_true, decide_eq_true_eq]
    have : ((y.hi + 1) % M = f) ↔ y.hi = f - 1 := by
      by_cases e : y.hi + 1 = M
      · rw [e, Nat.mod_self]; omega
      · rw [Nat.mod_eq_of_lt (by omega)]; omega
    rw [this]
  by_cases hc : y.hi = f - 1 ∧ y.old = p ∧ y.new = q
  · rw [if_pos (hb.2 hc), if_pos hc, List.dropLast_concat]
  · rw [if_neg (fun h => hc (hb.1 h)), if_neg hc]
/-- What the document's Moved answers. -/
def RMvPost (w : World) (a b : List PtD) (e : Ending) (w' : World) : Prop :=
  ∃ (l : List Nat) (r : List ArcD) (A : Option Addr) (n c : Nat), e = .returned (.slice A n c) ∧ arcE.Row w' A n c r ∧ Below w.heap.size w w' ∧ Ends 18446744073709551616 a b l ∧ movedF 18446744073709551616 (ownF a) (ownF b) 0 l [] = r
theorem rmvPost_mk {w w' : World} {a b : List PtD} {l : List Nat} {r : List ArcD} {A : Option Addr} {n c : Nat} (hr : arcE.Row w' A n c r) (hb : Below w.heap.size w w') (hl : Ends 18446744073709551616 a b l) (h : movedF 18446744073709551616 (ownF a) (ownF b) 0 l [] = r) :
    RMvPost w a b (.returned (.slice A n c)) w' := ⟨l, r, A, n, c, rfl, hr, hb, hl, h⟩
set_option maxRecDepth 20000 in
set_option maxHeartbeats 16000000 in
theorem rmoved_any (A A' : Option Addr) (n n' c c' : Nat) (a b : List PtD) (w : World) (h1 : ptE.Row w A n c a) (h2 : ptE.Row w A' n' c' b) (hn : n ≤ 100) (hn' : n' ≤ 100) (hwa : ∀ p ∈ a, p.pos < 18446744073709551616) (hwb : ∀ p ∈ b, p.pos < 18446744073709551616) :
    Calls Try.prog 33 #[.slice A n c, .slice A' n' c'] w (RMvPost w a b) := by
  have HE0 := hid_ (endsR_ok hwa hwb)
  have HOa := hid_ (fun (W : World) (hb : Below w.heap.size w W) (t : Nat) => of_any A n c a t W (h1.below hb))
  have HOb := hid_ (fun (W : World) (hb : Below w.heap.size w W) (t : Nat) => of_any A' n' c' b t W (h2.below hb))
  have HAL := hid_ (show (a ++ b).length = n + n' by rw [List.length_append, h1.len, h2.len])
  have HR1 := hid_ h1
  have HR2 := hid_ h2
  have hle1 := h1.le
  have hle2 := h2.le
  have HB0 := hid_ ((Below.refl w.heap.size w).alloc (Nat.le_refl _) (.cells #[] 101))
  have HX0 := hid_ (Enc.own_empty (E := ptE) (e := 101) w 101 rfl w.heap.size (Nat.le_refl _))
  have HA0 := hid_ (h1.below HB0.out)
  obtain ⟨ab, hab⟩ : ∃ ab, ab = a ++ b := ⟨_, rfl⟩
  clear h1 h2
  go_enter Try.func33, Try.ntmps33
  go_wp2_with (first
    | (at_builtin; refine Enc.wpList_rows (E := ptE) (e := 101) rfl (.tmp 14) (.tmp 15) 52 rfl _ 16 Try.underlying52 info_rpt rfl w.heap.size (some ⟨w.heap.size, 0, none⟩) 0 0 [] rfl HX0.out A n c a rfl HA0.out n a (by omega) rfl (by omega) (by omega) HB0.out.size ?_; intro A1 c1 w1 ho1 hb1 hg1 hat1; have HX1 := hid_ (And.intro ho1 (HB0.out.trans hb1)); clear ho1 hb1 hg1 hat1)
    | (at_builtin; refine Enc.wpList_rows (E := ptE) (e := 101) rfl (.tmp 16) (.tmp 17) 52 rfl _ 16 Try.underlying52 info_rpt rfl w.heap.size A1 n c1 a rfl HX1.out.1 A' n' c' b rfl (HR2.out.below HX1.out.2) (n + n') ab rfl hab.symm (by omega) (by omega) HX1.out.2.size ?_; intro A2 c2 w2 ho2 hb2 hg2 hat2; have HX2 := hid_ (And.intro ho2 (HX1.out.2.trans hb2)); clear ho2 hb2 hg2 hat2)
    | fail)
  obtain ⟨ho2, hb2⟩ := HX2.out
  have HO2 := hid_ ho2.row
  have HB2 := hid_ hb2
  have hsz2 := hb2.size
  have hcap2 := ho2.row.cap
  have hmax2 := ho2.row.max
  have HL2 := hid_ ho2.len
  obtain ⟨N, hN⟩ : ∃ N, N = n + n' := ⟨_, rfl⟩
  have hN2 : N ≤ 200 := by omega
  rw [← hN] at HO2 HL2 hcap2 ⊢
  have hNi : (n : Int) + (n' : Int) = (N : Int) := by omega
  clear ho2 hb2 HX2 HX1 HX0 HA0 hN
  go_loopw [5, 7] (fun v5 v7 wr => ∃ (k m : Nat) (A5 : Option Addr) (c5 : Nat), k ≤ N ∧ v7 = .int .i64 (k : Nat) ∧ v5 = .slice A5 m c5 ∧ Hid (OwnV w2.heap.size wr A5 m c5 (placesE (ab.take k))) ∧ Hid (Below w2.heap.size w2 wr)) (fun _ v7 _ => N - (intOf v7).toNat)
  case atStart => exact ⟨0, 0, none, 0, Nat.zero_le _, rfl, rfl, hid_ (Enc.Own.none _ _), hid_ (Below.refl _ _)⟩
  case round =>
    obtain ⟨k, m, A5, c5, hk, rfl, rfl, HO, HB⟩ := hrel
    have HSz := hid_ HB.out.size
    by_cases hlt : k < N
    · have hkl : k < ab.length := by rw [HL2.out]; exact hlt
      obtain ⟨g, off, rfl, hgb, hc, -⟩ := pt_at (HO2.out.below HB.out) hkl
      have HT := hid_ (places_take hkl)
      have hml : m ≤ 200 := by
        rw [← HO.out.len]
        have := placesE_len (ab.take k)
        rw [List.length_take] at this
        omega
      have HRise := hid_ (placesE_ok (ab.take k)).1
      have HK := hid_ hlt
      have hmc := HO.out.row.cap
      have hcmx := HO.out.row.max
      have HSL := hid_ HO.out.len
      generalize hx : ab[k].pos = x at *
      generalize placesE (ab.take k) = s at *
      have x1 : (k : Int) < (N : Int) := by omega
      have x2 : (0 : Int) ≤ (k : Int) := by omega
      have S0 : NumIn wr g (off + k * 2) x wr := ⟨Below.refl _ _, hc⟩
      have HS0 := hid_ S0
      clear hlt hkl hc S0 hx hgb
      go_wp2_with fail
      obtain ⟨wo, hwo⟩ : ∃ wo : World, wo = wr := ⟨_, rfl⟩
      subst hwo
      go_loopw [8] (fun v8 wr => ∃ j : Nat, j ≤ m ∧ v8 = .int .i64 (j : Nat) ∧ Hid (∀ z ∈ s.drop j, x < z) ∧ Hid (Below wo.heap.size wo wr)) (fun v8 _ => (intOf v8).toNat)
      case atStart => exact ⟨m, Nat.le_refl _, rfl, hid_ (by rw [List.drop_eq_nil_of_le (by rw [HSL.out]; omega)]; intro z hz; cases hz), hid_ (Below.refl _ _)⟩
      case round =>
        obtain ⟨j, hj, rfl, HD, HBj⟩ := hrel
        have HOj := hid_ (show OwnV w2.heap.size wr A5 m c5 s from HO.out.later HBj.out)
        have HPj := hid_ (numIn_keep HS0.out HBj.out)
        rcases Nat.eq_zero_or_pos j with h0 | h0
        · subst h0
          have hgd : decide ((0 : Int) < ((0 : Nat) : Int)) = false := decide_eq_false (by omega)
          have hgd2 : decide (((0 : Nat) : Int) > 0) = false := decide_eq_false (by omega)
          go_wp2_with fail
          go_quiet (fail)
          have HBrq := hid_ (below_drewN (Below.refl wr.heap.size wr) nq)
          have HPq1 := hid_ (numIn_keep HPj.out HBrq.out)
          generalize wr.drewN nq = wq1 at *
          go_wp2_with fail
          go_quiet (fail)
          have HBrq2 := hid_ (HBrq.out.trans ((below_drewN (Below.refl wq1.heap.size wq1) nq).mono HBrq.out.size))
          generalize wq1.drewN nq = wq at *
          have HPE := hid_ (show putE s x = s.take 0 ++ [x] ++ s.drop 0 from putE_ins (Nat.zero_le _) (fun z hz => by simp at hz) HD.out)
          rcases A5 with _ | ⟨g2, o2, sp2⟩
          · have HOq := hid_ (show OwnV w2.heap.size wq none m c5 s from HOj.out.later HBrq2.out)
            have S0 : NumIn wq g (off + k * 2) x wq := ⟨Below.refl _ _, (numIn_keep HPj.out HBrq2.out).2⟩
            have hgl : g < wq.heap.size := lt_of_cell S0.2
            have HBq := hid_ (show Below w2.heap.size w2 wq from (HB.out.trans (HBj.out.mono HSz.out)).trans (HBrq2.out.mono ((HB.out.trans (HBj.out.mono HSz.out)).size)))
            have i1 : (0 : Int) ≤ (m : Int) := by omega
            have i2 : (m : Int) ≤ (c5 : Int) := by omega
            have i3 : (0 : Int) ≤ (0 : Int) := by omega
            have i4 : (0 : Int) ≤ (c5 : Int) := by omega
            have Hpl := hid_ (show Enc.cutAtK none c5 0 numE.K = none by unfold Enc.cutAtK; split <;> rfl)
            go_wp2_with fail
            go_region_held3 (NumIn wq g (off + k * 2) x) (first | assumption | (refine numIn_keep (by assumption) (by assumption)) | (refine numIn_keep (by assumption) (Below.drew (Below.refl _ _))) | (refine numIn_keep (by assumption) (Below.alloc (Below.refl _ _) (Nat.le_refl _) _)) | (refine numIn_keepB hgl (by assumption) (by assumption)))
              (first
                | (refine Enc.step_rows (E := numE) (e := 60) (by rfl) (.tmp 59) (.tmp 62) 76 (by rfl) _ 8 Try.underlying76 info_num rfl wq.heap.size _ 0 0 [] (by rfl) ?_ _ 0 _ (s.take 0) (by rfl) ?_ 0 (s.take 0) (by omega) (by rfl) (by omega) (by omega) ?_ ?_; (first | exact Enc.own_empty _ _ rfl _ (by simp) | exact Enc.Own.alloc (Enc.own_empty _ _ rfl _ (by simp)) _ | exact Enc.own_empty_at _ _ _ rfl _ (by simp) (by simp) | exact Enc.Own.alloc (Enc.own_empty_at _ _ _ rfl _ (by simp) (by simp)) _); (exact ((HOq.out.later (And.left (by assumption))).row.upto 0 (by omega)).place rfl (by omega)); (exact Below.size (And.left (by assumption))); (intro A1 c1 w1 ho1 hb1 hg1); (try (have hlit := Enc.lit_kept (E := numE) (gl := wq.heap.size + 1) (s := x) (hg := hg1) (h := by first | exact num_alone _ _ _ _ (by simp) | exact (num_alone _ _ _ _ (by simp)).below (Below.drew (Below.refl _ _))) (hne := by simp [Value.ownBlock]))); (try (have hlit := Enc.lit_kept (E := numE) (gl := wq.heap.size) (s := x) (hg := hg1) (h := by first | exact (num_alone _ _ _ _ (by simp)).below ((Below.refl _ _).alloc (Nat.le_refl _) _) | exact (num_alone _ _ _ _ (by simp)).below (Below.drew ((Below.refl _ _).alloc (Nat.le_refl _) _))) (hne := by simp [Value.ownBlock]))))
                | (refine Enc.step_rows (E := numE) (e := 60) (by rfl) (.tmp 63) (.tmp 69) 76 (by rfl) _ 8 Try.underlying76 info_num rfl wq.heap.size A1 0 c1 (s.take 0) (by rfl) ?_ _ 1 1 [x] (by rfl) ?_ (0 + 1) (s.take 0 ++ [x]) (by rfl) (by rfl) (by omega) (by omega) ?_ ?_; (first | exact ho1 | exact Enc.Own.alloc ho1 _); (first | exact hlit | exact num_alone _ _ _ _ (by simp)); (exact Below.size (And.left (by assumption))); (intro A2 c2 w2 ho2 hb2 hg2))
                | (refine Enc.step_rows (E := numE) (e := 60) (by rfl) (.tmp 70) (.tmp 73) 76 (by rfl) _ 8 Try.underlying76 info_num rfl wq.heap.size A2 (0 + 1) c2 (s.take 0 ++ [x]) (by rfl) ho2 _ _ _ (s.drop 0) (by rfl) ?_ (m + 1) (s.take 0 ++ [x] ++ s.drop 0) (by omega) (by rfl) (by omega) (by omega) ?_ ?_; (exact ((HOq.out.later (And.left (by assumption))).row.from_ 0 (by omega)).place Hpl.out (by omega)); (exact Below.size (And.left (by assumption))); (intro A3 c3 w3 ho3 hb3 hg3))
                | fail)
            all_goals
              go_wp2_with fail
              go_roundw
              case rel => exact ⟨k + 1, m + 1, A3, c3, by have := HK.out; omega, by go_num, rfl, hid_ (by rw [HT.out, HPE.out]; exact ho3.mono HBq.out.size), hid_ (HBq.out.trans (Below.mono (And.left (by assumption)) HBq.out.size))⟩
              case measure => have := HK.out; simp [intOf]; omega
          · have hsp : sp2 = none ∧ o2 = 0 := by
              obtain ⟨_, ⟨e, _⟩ | ⟨gq, cap, cur, e, _⟩⟩ := HOj.out
              · cases e
              · cases e; exact ⟨rfl, rfl⟩
            obtain ⟨rfl, rfl⟩ := hsp
            have HOq := hid_ (show OwnV w2.heap.size wq (some ⟨g2, 0, none⟩) m c5 s from HOj.out.later HBrq2.out)
            have S0 : NumIn wq g (off + k * 2) x wq := ⟨Below.refl _ _, (numIn_keep HPj.out HBrq2.out).2⟩
            have hgl : g < wq.heap.size := lt_of_cell S0.2
            have HBq := hid_ (show Below w2.heap.size w2 wq from (HB.out.trans (HBj.out.mono HSz.out)).trans (HBrq2.out.mono ((HB.out.trans (HBj.out.mono HSz.out)).size)))
            have i1 : (0 : Int) ≤ (m : Int) := by omega
            have i2 : (m : Int) ≤ (c5 : Int) := by omega
            have i3 : (0 : Int) ≤ (0 : Int) := by omega
            have i4 : (0 : Int) ≤ (c5 : Int) := by omega
            have Hpl := hid_ (show Enc.cutAtK (some ⟨g2, 0, none⟩) c5 0 numE.K = some ⟨g2, 0, none⟩ by unfold Enc.cutAtK; split <;> rfl)
            go_wp2_with fail
            go_region_held3 (NumIn wq g (off + k * 2) x) (first | assumption | (refine numIn_keep (by assumption) (by assumption)) | (refine numIn_keep (by assumption) (Below.drew (Below.refl _ _))) | (refine numIn_keep (by assumption) (Below.alloc (Below.refl _ _) (Nat.le_refl _) _)) | (refine numIn_keepB hgl (by assumption) (by assumption)))
              (first
                | (refine Enc.step_rows (E := numE) (e := 60) (by rfl) (.tmp 59) (.tmp 62) 76 (by rfl) _ 8 Try.underlying76 info_num rfl wq.heap.size _ 0 0 [] (by rfl) ?_ _ 0 _ (s.take 0) (by rfl) ?_ 0 (s.take 0) (by omega) (by rfl) (by omega) (by omega) ?_ ?_; (first | exact Enc.own_empty _ _ rfl _ (by simp) | exact Enc.Own.alloc (Enc.own_empty _ _ rfl _ (by simp)) _ | exact Enc.own_empty_at _ _ _ rfl _ (by simp) (by simp) | exact Enc.Own.alloc (Enc.own_empty_at _ _ _ rfl _ (by simp) (by simp)) _); (exact ((HOq.out.later (And.left (by assumption))).row.upto 0 (by omega)).place rfl (by omega)); (exact Below.size (And.left (by assumption))); (intro A1 c1 w1 ho1 hb1 hg1); (try (have hlit := Enc.lit_kept (E := numE) (gl := wq.heap.size + 1) (s := x) (hg := hg1) (h := by first | exact num_alone _ _ _ _ (by simp) | exact (num_alone _ _ _ _ (by simp)).below (Below.drew (Below.refl _ _))) (hne := by simp [Value.ownBlock]))); (try (have hlit := Enc.lit_kept (E := numE) (gl := wq.heap.size) (s := x) (hg := hg1) (h := by first | exact (num_alone _ _ _ _ (by simp)).below ((Below.refl _ _).alloc (Nat.le_refl _) _) | exact (num_alone _ _ _ _ (by simp)).below (Below.drew ((Below.refl _ _).alloc (Nat.le_refl _) _))) (hne := by simp [Value.ownBlock]))))
                | (refine Enc.step_rows (E := numE) (e := 60) (by rfl) (.tmp 63) (.tmp 69) 76 (by rfl) _ 8 Try.underlying76 info_num rfl wq.heap.size A1 0 c1 (s.take 0) (by rfl) ?_ _ 1 1 [x] (by rfl) ?_ (0 + 1) (s.take 0 ++ [x]) (by rfl) (by rfl) (by omega) (by omega) ?_ ?_; (first | exact ho1 | exact Enc.Own.alloc ho1 _); (first | exact hlit | exact num_alone _ _ _ _ (by simp)); (exact Below.size (And.left (by assumption))); (intro A2 c2 w2 ho2 hb2 hg2))
                | (refine Enc.step_rows (E := numE) (e := 60) (by rfl) (.tmp 70) (.tmp 73) 76 (by rfl) _ 8 Try.underlying76 info_num rfl wq.heap.size A2 (0 + 1) c2 (s.take 0 ++ [x]) (by rfl) ho2 _ _ _ (s.drop 0) (by rfl) ?_ (m + 1) (s.take 0 ++ [x] ++ s.drop 0) (by omega) (by rfl) (by omega) (by omega) ?_ ?_; (exact ((HOq.out.later (And.left (by assumption))).row.from_ 0 (by omega)).place Hpl.out (by omega)); (exact Below.size (And.left (by assumption))); (intro A3 c3 w3 ho3 hb3 hg3))
                | fail)
            all_goals
              go_wp2_with fail
              go_roundw
              case rel => exact ⟨k + 1, m + 1, A3, c3, by have := HK.out; omega, by go_num, rfl, hid_ (by rw [HT.out, HPE.out]; exact ho3.mono HBq.out.size), hid_ (HBq.out.trans (Below.mono (And.left (by assumption)) HBq.out.size))⟩
              case measure => have := HK.out; simp [intOf]; omega
        · obtain ⟨jp, rfl⟩ : ∃ jp, j = jp + 1 := ⟨j - 1, by omega⟩
          have hjl : jp < s.length := by rw [HSL.out]; omega
          obtain ⟨g2, o2, rfl, hg2, a1⟩ := num_at HOj.out.row hjl
          have hc := HPj.out.2
          have HDR := hid_ (List.drop_eq_getElem_cons hjl)
          have HLA := hid_ (fun h => rise_take HRise.out hjl (x := x) h)
          have HSM := hid_ (fun h => putE_same HRise.out hjl (x := x) h)
          generalize s[jp] = z0 at *
          have hgd : decide ((0 : Int) < (jp : Int) + 1) = true := decide_eq_true (by omega)
          have hgd2 : decide ((jp : Int) + 1 > 0) = true := decide_eq_true (by omega)
          have hgd3 : ((jp : Int) + 1 == 0) = false := by rw [beq_eq_false_iff_ne]; omega
          have hgd4 : (((jp + 1 : Nat) : Int) == 0) = false := by rw [beq_eq_false_iff_ne]; omega
          have hwp : IntKind.i64.wrap (jp : Int) = (jp : Int) := IntWalk.i64_in _ (by omega)
          have n1 : (jp : Int) < (m : Int) := by omega
          have n2 : (0 : Int) ≤ (jp : Int) := by omega
          rcases Nat.lt_trichotomy x z0 with hlx | hlx | hlx
          · have f1 : decide (x < z0) = true := decide_eq_true hlx
            have f2 : decide ((x : Int) < (z0 : Int)) = true := decide_eq_true (by omega)
            have HX := hid_ hlx
            clear hlx
            go_wp2_with fail
            go_quiet (fail)
            have HBrq := hid_ (below_drewN (Below.refl wr.heap.size wr) nq)
            generalize wr.drewN nq = wq1 at *
            go_wp2_with fail
            go_roundw
            case rel =>
              refine ⟨jp, by omega, by go_num, hid_ ?_, hid_ (HBj.out.trans (HBrq.out.mono HBj.out.size))⟩
              rw [HDR.out]
              intro q hq
              rcases List.mem_cons.1 hq with rfl | hq
              · exact HX.out
              · exact HD.out q hq
            case measure => simp [intOf]; try omega
          · subst hlx
            have HSMr := hid_ (HSM.out rfl)
            clear HSM
            have f1 : decide (x < x) = false := decide_eq_false (by omega)
            have f2 : decide ((x : Int) < (x : Int)) = false := decide_eq_false (by omega)
            have f3 : (x != x) = false := by simp
            have f4 : ((x : Int) != (x : Int)) = false := by simp
            go_wp2_with fail
            go_quiet (fail)
            have HBrq := hid_ (below_drewN (Below.refl wr.heap.size wr) nq)
            have HPq1 := hid_ (numIn_keep HPj.out HBrq.out)
            have a1q : (wr.drewN nq).cell? ⟨g2, o2 + jp, none⟩ = some (.int .u64 (x : Nat)) := a1
            have HA1 := hid_ a1q
            clear a1 hc a1q
            generalize wr.drewN nq = wq1 at *
            have a1 := HA1.out
            have hc := HPq1.out.2
            go_wp2_with fail
            go_quiet (fail)
            have HBrq2 := hid_ (HBrq.out.trans ((below_drewN (Below.refl wq1.heap.size wq1) nq).mono HBrq.out.size))
            generalize wq1.drewN nq = wq at *
            have HBq := hid_ (show Below w2.heap.size w2 wq from (HB.out.trans (HBj.out.mono HSz.out)).trans (HBrq2.out.mono ((HB.out.trans (HBj.out.mono HSz.out)).size)))
            have HPE := HSMr
            have HOq := hid_ (HOj.out.later HBrq2.out)
            go_wp2_with fail
            go_roundw
            case rel => exact ⟨k + 1, m, some ⟨g2, o2, none⟩, c5, by have := HK.out; omega, by go_num, rfl, hid_ (by rw [HT.out, HPE.out]; exact HOq.out), HBq⟩
            case measure => have := HK.out; simp [intOf]; omega
          · have f1 : decide (x < z0) = false := decide_eq_false (by omega)
            have f2 : decide ((x : Int) < (z0 : Int)) = false := decide_eq_false (by omega)
            have f3 : (z0 != x) = true := by rw [bne_iff_ne]; omega
            have f4 : ((z0 : Int) != (x : Int)) = true := by rw [bne_iff_ne]; omega
            have HPE := hid_ (show putE s x = s.take (jp + 1) ++ [x] ++ s.drop (jp + 1) from putE_ins (by rw [HSL.out]; exact hj) (HLA.out hlx) HD.out)
            clear hlx
            go_wp2_with fail
            go_quiet (fail)
            have HBrq := hid_ (below_drewN (Below.refl wr.heap.size wr) nq)
            have HPq1 := hid_ (numIn_keep HPj.out HBrq.out)
            have a1q : (wr.drewN nq).cell? ⟨g2, o2 + jp, none⟩ = some (.int .u64 (z0 : Nat)) := a1
            have HA1 := hid_ a1q
            clear a1 hc a1q
            generalize wr.drewN nq = wq1 at *
            have a1 := HA1.out
            have hc := HPq1.out.2
            go_wp2_with fail
            go_quiet (fail)
            have HBrq2 := hid_ (HBrq.out.trans ((below_drewN (Below.refl wq1.heap.size wq1) nq).mono HBrq.out.size))
            clear a1 hc
            generalize wq1.drewN nq = wq at *
            have HOq := hid_ (show OwnV w2.heap.size wq (some ⟨g2, o2, none⟩) m c5 s from HOj.out.later HBrq2.out)
            by_cases hck : c5 = jp + 1
            · skip
              have S0 : NumIn wq g (off + k * 2) x wq := ⟨Below.refl _ _, (numIn_keep HPj.out HBrq2.out).2⟩
              have hgl : g < wq.heap.size := lt_of_cell S0.2
              have HBq := hid_ (show Below w2.heap.size w2 wq from (HB.out.trans (HBj.out.mono HSz.out)).trans (HBrq2.out.mono ((HB.out.trans (HBj.out.mono HSz.out)).size)))
              have i1 : ((jp : Int) + 1) ≤ (m : Int) := by omega
              have i2 : (m : Int) ≤ (c5 : Int) := by omega
              have i3 : (0 : Int) ≤ ((jp : Int) + 1) := by omega
              have i4 : ((jp : Int) + 1) ≤ (c5 : Int) := by omega
              have Hpl := hid_ (show Enc.cutAtK (some ⟨g2, o2, none⟩) c5 (jp + 1) numE.K = some ⟨g2, o2, none⟩ by unfold Enc.cutAtK; rw [if_pos hck])
              go_wp2_with fail
              go_region_held3 (NumIn wq g (off + k * 2) x) (first | assumption | (refine numIn_keep (by assumption) (by assumption)) | (refine numIn_keep (by assumption) (Below.drew (Below.refl _ _))) | (refine numIn_keep (by assumption) (Below.alloc (Below.refl _ _) (Nat.le_refl _) _)) | (refine numIn_keepB hgl (by assumption) (by assumption)))
                (first
                  | (refine Enc.step_rows (E := numE) (e := 60) (by rfl) (.tmp 59) (.tmp 62) 76 (by rfl) _ 8 Try.underlying76 info_num rfl wq.heap.size _ 0 0 [] (by rfl) ?_ _ (jp + 1) _ (s.take (jp + 1)) (by rfl) ?_ (jp + 1) (s.take (jp + 1)) (by omega) (by rfl) (by omega) (by omega) ?_ ?_; (first | exact Enc.own_empty _ _ rfl _ (by simp) | exact Enc.Own.alloc (Enc.own_empty _ _ rfl _ (by simp)) _ | exact Enc.own_empty_at _ _ _ rfl _ (by simp) (by simp) | exact Enc.Own.alloc (Enc.own_empty_at _ _ _ rfl _ (by simp) (by simp)) _); (exact ((HOq.out.later (And.left (by assumption))).row.upto (jp + 1) (by omega)).place rfl (by omega)); (exact Below.size (And.left (by assumption))); (intro A1 c1 w1 ho1 hb1 hg1); (try (have hlit := Enc.lit_kept (E := numE) (gl := wq.heap.size + 1) (s := x) (hg := hg1) (h := by first | exact num_alone _ _ _ _ (by simp) | exact (num_alone _ _ _ _ (by simp)).below (Below.drew (Below.refl _ _))) (hne := by simp [Value.ownBlock]))); (try (have hlit := Enc.lit_kept (E := numE) (gl := wq.heap.size) (s := x) (hg := hg1) (h := by first | exact (num_alone _ _ _ _ (by simp)).below ((Below.refl _ _).alloc (Nat.le_refl _) _) | exact (num_alone _ _ _ _ (by simp)).below (Below.drew ((Below.refl _ _).alloc (Nat.le_refl _) _))) (hne := by simp [Value.ownBlock]))))
                  | (refine Enc.step_rows (E := numE) (e := 60) (by rfl) (.tmp 63) (.tmp 69) 76 (by rfl) _ 8 Try.underlying76 info_num rfl wq.heap.size A1 (jp + 1) c1 (s.take (jp + 1)) (by rfl) ?_ _ 1 1 [x] (by rfl) ?_ ((jp + 1) + 1) (s.take (jp + 1) ++ [x]) (by rfl) (by rfl) (by omega) (by omega) ?_ ?_; (first | exact ho1 | exact Enc.Own.alloc ho1 _); (first | exact hlit | exact num_alone _ _ _ _ (by simp)); (exact Below.size (And.left (by assumption))); (intro A2 c2 w2 ho2 hb2 hg2))
                  | (refine Enc.step_rows (E := numE) (e := 60) (by rfl) (.tmp 70) (.tmp 73) 76 (by rfl) _ 8 Try.underlying76 info_num rfl wq.heap.size A2 ((jp + 1) + 1) c2 (s.take (jp + 1) ++ [x]) (by rfl) ho2 _ _ _ (s.drop (jp + 1)) (by rfl) ?_ (m + 1) (s.take (jp + 1) ++ [x] ++ s.drop (jp + 1)) (by omega) (by rfl) (by omega) (by omega) ?_ ?_; (exact ((HOq.out.later (And.left (by assumption))).row.from_ (jp + 1) (by omega)).place Hpl.out (by omega)); (exact Below.size (And.left (by assumption))); (intro A3 c3 w3 ho3 hb3 hg3))
                  | fail)
              all_goals
                go_wp2_with fail
                go_roundw
                case rel => exact ⟨k + 1, m + 1, A3, c3, by have := HK.out; omega, by go_num, rfl, hid_ (by rw [HT.out, HPE.out]; exact ho3.mono HBq.out.size), hid_ (HBq.out.trans (Below.mono (And.left (by assumption)) HBq.out.size))⟩
                case measure => have := HK.out; simp [intOf]; omega
            · skip
              have S0 : NumIn wq g (off + k * 2) x wq := ⟨Below.refl _ _, (numIn_keep HPj.out HBrq2.out).2⟩
              have hgl : g < wq.heap.size := lt_of_cell S0.2
              have HBq := hid_ (show Below w2.heap.size w2 wq from (HB.out.trans (HBj.out.mono HSz.out)).trans (HBrq2.out.mono ((HB.out.trans (HBj.out.mono HSz.out)).size)))
              have i1 : ((jp : Int) + 1) ≤ (m : Int) := by omega
              have i2 : (m : Int) ≤ (c5 : Int) := by omega
              have i3 : (0 : Int) ≤ ((jp : Int) + 1) := by omega
              have i4 : ((jp : Int) + 1) ≤ (c5 : Int) := by omega
              have Hpl := hid_ (show Enc.cutAtK (some ⟨g2, o2, none⟩) c5 (jp + 1) numE.K = some ⟨g2, o2 + (jp + 1), none⟩ by unfold Enc.cutAtK; rw [if_neg hck, Option.map_some, add_plain]; show some (Addr.mk g2 (o2 + (jp + 1) * 1) none) = _; rw [Nat.mul_one])
              go_wp2_with fail
              go_region_held3 (NumIn wq g (off + k * 2) x) (first | assumption | (refine numIn_keep (by assumption) (by assumption)) | (refine numIn_keep (by assumption) (Below.drew (Below.refl _ _))) | (refine numIn_keep (by assumption) (Below.alloc (Below.refl _ _) (Nat.le_refl _) _)) | (refine numIn_keepB hgl (by assumption) (by assumption)))
                (first
                  | (refine Enc.step_rows (E := numE) (e := 60) (by rfl) (.tmp 59) (.tmp 62) 76 (by rfl) _ 8 Try.underlying76 info_num rfl wq.heap.size _ 0 0 [] (by rfl) ?_ _ (jp + 1) _ (s.take (jp + 1)) (by rfl) ?_ (jp + 1) (s.take (jp + 1)) (by omega) (by rfl) (by omega) (by omega) ?_ ?_; (first | exact Enc.own_empty _ _ rfl _ (by simp) | exact Enc.Own.alloc (Enc.own_empty _ _ rfl _ (by simp)) _ | exact Enc.own_empty_at _ _ _ rfl _ (by simp) (by simp) | exact Enc.Own.alloc (Enc.own_empty_at _ _ _ rfl _ (by simp) (by simp)) _); (exact ((HOq.out.later (And.left (by assumption))).row.upto (jp + 1) (by omega)).place rfl (by omega)); (exact Below.size (And.left (by assumption))); (intro A1 c1 w1 ho1 hb1 hg1); (try (have hlit := Enc.lit_kept (E := numE) (gl := wq.heap.size + 1) (s := x) (hg := hg1) (h := by first | exact num_alone _ _ _ _ (by simp) | exact (num_alone _ _ _ _ (by simp)).below (Below.drew (Below.refl _ _))) (hne := by simp [Value.ownBlock]))); (try (have hlit := Enc.lit_kept (E := numE) (gl := wq.heap.size) (s := x) (hg := hg1) (h := by first | exact (num_alone _ _ _ _ (by simp)).below ((Below.refl _ _).alloc (Nat.le_refl _) _) | exact (num_alone _ _ _ _ (by simp)).below (Below.drew ((Below.refl _ _).alloc (Nat.le_refl _) _))) (hne := by simp [Value.ownBlock]))))
                  | (refine Enc.step_rows (E := numE) (e := 60) (by rfl) (.tmp 63) (.tmp 69) 76 (by rfl) _ 8 Try.underlying76 info_num rfl wq.heap.size A1 (jp + 1) c1 (s.take (jp + 1)) (by rfl) ?_ _ 1 1 [x] (by rfl) ?_ ((jp + 1) + 1) (s.take (jp + 1) ++ [x]) (by rfl) (by rfl) (by omega) (by omega) ?_ ?_; (first | exact ho1 | exact Enc.Own.alloc ho1 _); (first | exact hlit | exact num_alone _ _ _ _ (by simp)); (exact Below.size (And.left (by assumption))); (intro A2 c2 w2 ho2 hb2 hg2))
                  | (refine Enc.step_rows (E := numE) (e := 60) (by rfl) (.tmp 70) (.tmp 73) 76 (by rfl) _ 8 Try.underlying76 info_num rfl wq.heap.size A2 ((jp + 1) + 1) c2 (s.take (jp + 1) ++ [x]) (by rfl) ho2 _ _ _ (s.drop (jp + 1)) (by rfl) ?_ (m + 1) (s.take (jp + 1) ++ [x] ++ s.drop (jp + 1)) (by omega) (by rfl) (by omega) (by omega) ?_ ?_; (exact ((HOq.out.later (And.left (by assumption))).row.from_ (jp + 1) (by omega)).place Hpl.out (by omega)); (exact Below.size (And.left (by assumption))); (intro A3 c3 w3 ho3 hb3 hg3))
                  | fail)
              all_goals
                go_wp2_with fail
                go_roundw
                case rel => exact ⟨k + 1, m + 1, A3, c3, by have := HK.out; omega, by go_num, rfl, hid_ (by rw [HT.out, HPE.out]; exact ho3.mono HBq.out.size), hid_ (HBq.out.trans (Below.mono (And.left (by assumption)) HBq.out.size))⟩
                case measure => have := HK.out; simp [intOf]; omega
    · obtain rfl : k = N := by omega
      have HT := hid_ (show placesE (ab.take k) = placesE ab by rw [List.take_of_length_le (by rw [HL2.out]; exact Nat.le_refl _)])
      rw [HT.out] at HO
      clear hlt
      generalize hps : placesE ab = s at *
      have HRise := hid_ (show s.Pairwise (· < ·) by rw [← hps]; exact (placesE_ok ab).1)
      have HM1 := hid_ (show ∀ z ∈ s, z ≤ 18446744073709551615 by
        intro z hz
        rw [← hps] at hz
        obtain ⟨p, hp, e⟩ := ((placesE_ok ab).2 z).1 hz
        rw [hab] at hp
        rcases List.mem_append.1 hp with h | h
        · have := hwa p h; omega
        · have := hwb p h; omega)
      have HEs := hid_ (show endsR 18446744073709551616 a b = if 18446744073709551615 ∈ s then s else s ++ [18446744073709551615] by unfold endsR; rw [← hab, hps])
      have hms : m ≤ 200 := by
        rw [← HO.out.len, ← hps]
        have := placesE_len ab
        rw [HL2.out] at this
        omega
      have HSL := hid_ HO.out.len
      have HLast := hid_ (fun (mp : Nat) (h : mp < s.length) (h2 : mp + 1 = s.length) => last_in (x := 18446744073709551615) HRise.out HM1.out h h2)
      obtain ⟨E, hE⟩ : ∃ E, E = endsR 18446744073709551616 a b := ⟨_, rfl⟩
      rw [← hE] at HEs HE0
      clear hps hE
      go_upto_region 11 with (fail)
      go_cut [86] (fun v86 wx => v86 = .bool (decide (¬ 18446744073709551615 ∈ s)) ∧ wx = wr)
      case first =>
        rcases Nat.eq_zero_or_pos m with h0 | h0
        · subst h0
          have hs0 : s = [] := List.eq_nil_of_length_eq_zero HSL.out
          have hB : decide (¬ 18446744073709551615 ∈ s) = true := by rw [hs0]; decide
          have HB' := hid_ hB
          clear hB hs0
          have e1 : ((0 : Nat) == 0) = true := rfl
          have e2 : (((0 : Nat) : Int) == 0) = true := rfl
          go_wp2_with fail
          go_meet
          exact ⟨by rw [HB'.out], rfl⟩
        · obtain ⟨mp, rfl⟩ : ∃ mp, m = mp + 1 := ⟨m - 1, by omega⟩
          have hml : mp < s.length := by rw [HSL.out]; omega
          obtain ⟨g2, o2, rfl, hg2, a1⟩ := num_at HO.out.row hml
          have hin := HLast.out mp hml (by rw [HSL.out])
          generalize s[mp] = z0 at *
          have e1 : ((mp : Int) + 1 == 0) = false := by rw [beq_eq_false_iff_ne]; omega
          have e2 : (((mp + 1 : Nat) : Int) == 0) = false := by rw [beq_eq_false_iff_ne]; omega
          have hwp : IntKind.i64.wrap (mp : Int) = (mp : Int) := IntWalk.i64_in _ (by omega)
          have n1 : (mp : Int) < (mp : Int) + 1 := by omega
          have n2 : (0 : Int) ≤ (mp : Int) := by omega
          by_cases hz : z0 = 18446744073709551615
          · have hB : decide (¬ 18446744073709551615 ∈ s) = false := decide_eq_false (fun h => h (hin.2 hz))
            have HB' := hid_ hB
            have f1 : (z0 != 18446744073709551615) = false := by rw [bne_eq_false_iff_eq]; exact hz
            have f2 : ((z0 : Int) != 18446744073709551615) = false := by rw [bne_eq_false_iff_eq]; omega
            clear hB hz hin
            go_wp2_with fail
            go_meet
            exact ⟨by rw [HB'.out], rfl⟩
          · have hB : decide (¬ 18446744073709551615 ∈ s) = true := decide_eq_true (fun h => hz (hin.1 h))
            have HB' := hid_ hB
            have f1 : (z0 != 18446744073709551615) = true := by rw [bne_iff_ne]; exact hz
            have f2 : ((z0 : Int) != 18446744073709551615) = true := by rw [bne_iff_ne]; omega
            clear hB hz hin
            go_wp2_with fail
            go_meet
            exact ⟨by rw [HB'.out], rfl⟩
      case rest =>
        obtain ⟨rfl, rfl⟩ := hcut
        go_upto_if 86 with (fail)
        go_cut [5] (fun v5 wx => ∃ (A6 : Option Addr) (m6 c6 : Nat), v5 = .slice A6 m6 c6 ∧ m6 ≤ 201 ∧ Hid (OwnV w2.heap.size wx A6 m6 c6 E) ∧ Hid (Below w2.heap.size w2 wx))
        case first =>
          by_cases hbad : 18446744073709551615 ∈ s
          · have HE := hid_ (show E = s by rw [HEs.out, if_pos hbad])
            have hd : decide (¬ 18446744073709551615 ∈ s) = false := decide_eq_false (fun h => h hbad)
            rw [hd]
            clear hbad hd
            go_wp2_with fail
            go_meet
            exact ⟨A5, m, c5, rfl, by omega, hid_ (by rw [HE.out]; exact HO.out), HB⟩
          · have HE := hid_ (show s ++ [18446744073709551615] = E by rw [HEs.out, if_neg hbad])
            have hd : decide (¬ 18446744073709551615 ∈ s) = true := decide_eq_true hbad
            rw [hd]
            clear hbad hd
            have HOX := hid_ (HO.out.later ((Below.refl _ _).alloc (Nat.le_refl _) (.cells #[.int .u64 18446744073709551615] 60)))
            have HBX := hid_ (HB.out.alloc HB.out.size (.cells #[.int .u64 18446744073709551615] 60))
            have HLX := hid_ (show numE.Row (wc.alloc (.cells #[.int .u64 18446744073709551615] 60)) (some ⟨wc.heap.size, 0, none⟩) 1 1 [18446744073709551615] from num_alone wc wc.heap.size 18446744073709551615 _ rfl)
            have HSL2 := hid_ HSL.out
            go_wp2_with (first
              | (at_builtin; refine Enc.wpList_rows (E := numE) (e := 60) rfl (.tmp 87) (.tmp 88) 76 rfl _ 8 Try.underlying76 info_num rfl w2.heap.size A5 m c5 s rfl HOX.out (some ⟨wc.heap.size, 0, none⟩) 1 1 [18446744073709551615] rfl HLX.out (m + 1) E rfl HE.out (by omega) (by omega) HBX.out.size ?_; intro A7 c7 w7 ho7 hb7 hg7 hat7; have HX := hid_ (And.intro ho7 (HBX.out.trans hb7)); clear ho7 hb7 hg7 hat7)
              | fail)
            go_meet
            exact ⟨A7, m + 1, c7, rfl, by omega, hid_ HX.out.1, hid_ HX.out.2⟩
        case rest =>
          obtain ⟨A6, m6, c6, rfl, hm6, HO6, HB6⟩ := hcut
          obtain ⟨w6, hw6⟩ : ∃ w6 : World, w6 = wc := ⟨_, rfl⟩
          subst hw6
          have HE6 := hid_ HO6.out.row
          have HL6 := hid_ HO6.out.len
          have hle6 := HO6.out.row.le
          have HBw := hid_ (HB2.out.trans (HB6.out.mono HB2.out.size))
          have hszw := HBw.out.size
          have Hfin := hid_ (fun (w' : World) (r : List ArcD) (A : Option Addr) (n c : Nat) (hr : arcE.Row w' A n c r) (hb : Below w.heap.size w w') (h : movedF 18446744073709551616 (ownF a) (ownF b) 0 E [] = r) => rmvPost_mk (a := a) (b := b) (l := E) hr hb HE0.out h)
          have HElt := hid_ (show ∀ t ∈ E, t < 18446744073709551616 from ends_lt (by omega) HE0.out hwa hwb)
          have HErs := hid_ HE0.out.1
          generalize ownF a = oa at *
          generalize ownF b = ob at *
          obtain ⟨M, hM⟩ : ∃ M, M = 18446744073709551616 := ⟨_, rfl⟩
          have Hwn := hid_ (fun x : Nat => show IntKind.u64.wrap ((x : Int) + 1) = (((x + 1) % M : Nat) : Int) by rw [hM]; exact wrap_next x)
          have Hwm := hid_ (fun (x : Nat) (h1 : 0 < x) (h2 : x < M) => show IntKind.u64.wrap ((x : Int) - 1) = ((x - 1 : Nat) : Int) by rw [hM] at h2; exact wrap_back x h1 h2)
          rw [← hM] at Hfin HElt
          have HR0 := hid_ (show movedF M oa ob (fromF M E 0) (E.drop 0) [] = movedF M oa ob 0 E [] from rfl)
          obtain ⟨R, hR⟩ : ∃ R, R = movedF M oa ob 0 E [] := ⟨_, rfl⟩
          rw [← hR] at HR0 Hfin
          clear hR hM HE0 HEs HLast HM1 HRise HSL HO HB HO2 HL2 HAL hwa hwb hab
          go_wp2_with fail
          go_loopw [9, 10, 11] (fun v9 v10 v11 wr => ∃ (k m9 f : Nat) (A9 : Option Addr) (c9 : Nat) (acc : List ArcD), k ≤ m6 ∧ v11 = .int .i64 (k : Nat) ∧ v10 = .int .u64 (f : Nat) ∧ v9 = .slice A9 m9 c9 ∧ m9 ≤ k ∧ Hid (f = fromF M E k) ∧ Hid (OwnRA w6.heap.size wr A9 m9 c9 acc) ∧ Hid (Below w6.heap.size w6 wr) ∧ Hid (movedF M oa ob (fromF M E k) (E.drop k) acc = R) ∧ Hid (∀ y ∈ acc, y.hi < M) ∧ Hid (k = 0 → acc = [])) (fun _ _ v11 _ => m6 - (intOf v11).toNat)
          case atStart => exact ⟨0, 0, 0, none, 0, [], Nat.zero_le _, rfl, rfl, rfl, Nat.le_refl _, hid_ rfl, hid_ (Enc.Own.none _ _), hid_ (Below.refl _ _), HR0, hid_ (fun y hy => by cases hy), hid_ (fun _ => rfl)⟩
          case round =>
            obtain ⟨k, m9, f, A9, c9, acc, hk, rfl, rfl, rfl, hmk, HF, HO9, HB9, HR, HY, HZ⟩ := hrel
            have hsz9 := HB9.out.size
            have HBr := hid_ (HBw.out.trans (HB9.out.mono hszw))
            by_cases hlt : k < m6
            · have hkl : k < E.length := by rw [HL6.out]; exact hlt
              obtain ⟨g5, o5, rfl, hg5, hc⟩ := num_at (HE6.out.below HB9.out) hkl
              have HS := hid_ (moved_step (M := M) (oa := oa) (ob := ob) hkl acc)
              have htM := HElt.out _ (List.getElem_mem hkl)
              have HNx := hid_ (from_next (M := M) hkl)
              have HPos := hid_ (from_pos (M := M) HErs.out HElt.out hkl)
              have HK := hid_ hlt
              have x1 : (k : Int) < (m6 : Int) := by omega
              have x2 : (0 : Int) ≤ (k : Int) := by omega
              have HAl := hid_ HO9.out.len
              rw [← HF.out] at HS HR HPos
              generalize E[k] = t at *
              have HoA := hid_ (fun (W : World) (h : Below wr.heap.size wr W) => HOa.out W (HBr.out.trans (h.mono HBr.out.size)) t)
              have HoB := hid_ (fun (W : World) (h : Below wr.heap.size wr W) => HOb.out W (HBr.out.trans (h.mono HBr.out.size)) t)
              generalize oa t = p at *
              generalize ob t = q at *
              have S0 : NumIn wr g5 (o5 + k) t wr := ⟨Below.refl _ _, hc⟩
              have HS0 := hid_ S0
              clear hlt hkl hc hg5
              go_upto_region 18 with (fail)
              go_cut [12] from 90 to 177 (fun v12 wx => v12 = .pointer (some ⟨wr.heap.size, 0, none⟩) ∧ wx = (wr.alloc (.cells #[.int .u64 (f : Nat), .int .u64 (t : Nat), .int .u64 (p : Nat), .int .u64 (q : Nat)] 63)).drew)
              case first =>
                go_region_held3 (NumIn wr g5 (o5 + k) t) (first | assumption | (refine numIn_keep (by assumption) (by assumption)) | (refine numIn_keep (by assumption) (Below.drew (Below.refl _ _))) | (refine numIn_keep HS0.out (Below.drew (Below.alloc (Below.refl _ _) (Nat.le_refl _) _))) | (refine numIn_keep HS0.out (Below.alloc (Below.drew (Below.refl _ _)) (Nat.le_refl _) _)) | (refine numIn_keep (by assumption) (Below.alloc (Below.refl _ _) (Nat.le_refl _) _)))
                  (first
                    | (go_at_call 64; (with_reducible refine Calls.mono (HoA.out _ (And.left (by assumption))) ?_); rintro e w' ⟨rfl, rfl⟩)
                    | (go_at_call 64; (with_reducible refine Calls.mono (HoB.out _ (And.left (by assumption))) ?_); rintro e w' ⟨rfl, rfl⟩)
                    | fail)
                all_goals (go_wp2_with fail; go_meet; exact ⟨rfl, rfl⟩)
              case rest =>
                obtain ⟨rfl, hw7⟩ := hcut
                obtain ⟨w7, rfl⟩ : ∃ w7 : World, w7 = wc := ⟨_, rfl⟩
                have HX7 := hid_ (show Whole w7 wr.heap.size 63 #[.int .u64 (f : Nat), .int .u64 (t : Nat), .int .u64 (p : Nat), .int .u64 (q : Nat)] by rw [hw7]; exact Whole.drew (whole_new wr _ _))
                have HB7 := hid_ (show Below wr.heap.size wr w7 by rw [hw7]; exact Below.drew (Below.alloc (Below.refl _ _) (Nat.le_refl _) _))
                clear hw7
                have hc := (numIn_keep HS0.out HB7.out).2
                have HO7 := hid_ (HO9.out.later HB7.out)
                have HB97 := hid_ (HB9.out.trans (HB7.out.mono hsz9))
                have hsz7 := HB97.out.size
                have b0 : w7.cell? ⟨wr.heap.size, 0, none⟩ = some (.int .u64 (f : Nat)) := HX7.out.cell 0 _ rfl
                have b1 : w7.cell? ⟨wr.heap.size, 1, none⟩ = some (.int .u64 (t : Nat)) := HX7.out.cell 1 _ rfl
                have b2 : w7.cell? ⟨wr.heap.size, 2, none⟩ = some (.int .u64 (p : Nat)) := HX7.out.cell 2 _ rfl
                have b3 : w7.cell? ⟨wr.heap.size, 3, none⟩ = some (.int .u64 (q : Nat)) := HX7.out.cell 3 _ rfl
                have hwn := Hwn.out t
                have HNf := hid_ HNx.out
                by_cases hpq : p = q
                · have HS2 := hid_ (show movedF M oa ob (fromF M E (k + 1)) (E.drop (k + 1)) acc = R by rw [← HR.out, HS.out, if_pos hpq])
                  have e1 : ((p : Int) == (q : Int)) = true := by simp [hpq]
                  have e2 : (p == q) = true := by simp [hpq]
                  have HAcc := hid_ (show k + 1 = 0 → acc = [] from fun h => by omega)
                  clear hpq
                  go_wp2_with fail
                  go_roundw
                  case rel => exact ⟨k + 1, m9, (t + 1) % M, A9, c9, acc, by have := HK.out; omega, by go_num, rfl, rfl, by omega, hid_ HNf.out.symm, HO7, HB97, HS2, HY, HAcc⟩
                  case measure => have := HK.out; simp [intOf]; omega
                · have HS2 := hid_ (show movedF M oa ob (fromF M E (k + 1)) (E.drop (k + 1)) (joinF M acc ⟨f, t, p, q⟩) = R by rw [← HR.out, HS.out, if_neg hpq])
                  have e1 : ((p : Int) == (q : Int)) = false := by simp; omega
                  have e2 : (p == q) = false := by simp; omega
                  clear hpq
                  rcases List.eq_nil_or_concat acc with hnil | ⟨l0, y, hl0⟩
                  · subst hnil
                    obtain rfl : m9 = 0 := by have := HAl.out; simpa using this.symm
                    have HJ := hid_ (show ([] : List ArcD) ++ [⟨f, t, p, q⟩] = joinF M [] ⟨f, t, p, q⟩ from rfl)
                    have HY2 := hid_ (show ∀ y ∈ joinF M [] ⟨f, t, p, q⟩, y.hi < M by intro y hy; rw [← HJ.out] at hy; have h2 : y ∈ [(⟨f, t, p, q⟩ : ArcD)] := hy; rw [List.mem_singleton.1 h2]; exact htM)
                    generalize joinF M [] ⟨f, t, p, q⟩ = acc' at *
                    have n0 : decide (((0 : Nat) : Int) > 0) = false := decide_eq_false (by omega)
                    have n0' : decide ((0 : Int) < ((0 : Nat) : Int)) = false := decide_eq_false (by omega)
                    go_wp2_with fail
                    go_quiet (fail)
                    have HB8 := hid_ (HB97.out.trans ((below_drewN (Below.refl w7.heap.size w7) nq).mono hsz7))
                    have HO8 := hid_ (HO7.out.later (below_drewN (Below.refl w7.heap.size w7) nq))
                    have HX8 := hid_ (HX7.out.below (below_drewN (Below.refl w7.heap.size w7) nq) HX7.out.lt)
                    clear b0 b1 b2 b3 hc 
                    generalize w7.drewN nq = w8 at *
                    have b0 : w8.cell? ⟨wr.heap.size, 0, none⟩ = some (.int .u64 (f : Nat)) := HX8.out.cell 0 _ rfl
                    have b1 : w8.cell? ⟨wr.heap.size, 1, none⟩ = some (.int .u64 (t : Nat)) := HX8.out.cell 1 _ rfl
                    have b2 : w8.cell? ⟨wr.heap.size, 2, none⟩ = some (.int .u64 (p : Nat)) := HX8.out.cell 2 _ rfl
                    have b3 : w8.cell? ⟨wr.heap.size, 3, none⟩ = some (.int .u64 (q : Nat)) := HX8.out.cell 3 _ rfl
                    have HOX := hid_ (HO8.out.later ((Below.refl _ _).alloc (Nat.le_refl _) (.cells #[.int .u64 (f : Nat), .int .u64 (t : Nat), .int .u64 (p : Nat), .int .u64 (q : Nat)] 63)))
                    have HBX := hid_ (HB8.out.alloc HB8.out.size (.cells #[.int .u64 (f : Nat), .int .u64 (t : Nat), .int .u64 (p : Nat), .int .u64 (q : Nat)] 63))
                    have HLX := hid_ (arc_lit w8 w8.heap.size ⟨f, t, p, q⟩ 63 rfl)
                    go_wp2_with (first
                      | (at_builtin; refine Enc.wpList_rows (E := arcE) (e := 63) rfl (.tmp 174) (.tmp 176) 58 rfl _ 32 Try.underlying58 info_rarc rfl w6.heap.size A9 0 c9 _ rfl HOX.out (some ⟨w8.heap.size, 0, none⟩) 1 1 [⟨f, t, p, q⟩] rfl HLX.out (0 + 1) _ rfl HJ.out (by omega) (by omega) HBX.out.size ?_; intro A10 c10 w10 ho10 hb10 hg10 hat10; have HX10 := hid_ (And.intro ho10 (HBX.out.trans hb10)); clear ho10 hb10 hg10 hat10)
                      | fail)
                    go_roundw
                    case rel => exact ⟨k + 1, 0 + 1, (t + 1) % M, A10, c10, _, by have := HK.out; omega, by go_num, rfl, rfl, by omega, hid_ HNf.out.symm, hid_ HX10.out.1, hid_ HX10.out.2, HS2, HY2, hid_ (fun h => by omega)⟩
                    case measure => have := HK.out; simp [intOf]; omega
                  · rw [List.concat_eq_append] at hl0
                    subst hl0
                    obtain ⟨kp, hkp⟩ : ∃ kp, kp = l0.length := ⟨_, rfl⟩
                    have hnk : m9 = kp + 1 := by have := HAl.out; simp at this; omega
                    subst hnk
                    have hk0 : 0 < k := by omega
                    have hf0 := HPos.out.2 hk0
                    have hfM := HPos.out.1
                    have hy0 := HY.out y (by simp)
                    obtain ⟨g9, rfl, hg1, hg2, hg3⟩ := HO7.out.place (by omega)
                    obtain ⟨bq, offq, he, -, c0, c1, c2q, c3⟩ := arc_at HO7.out.row (k := kp) (by simp [hkp])
                    injection he with he
                    injection he with he1 he2
                    subst he1 he2
                    have hyk : (l0 ++ [y])[kp]'(by simp [hkp]) = y := by subst hkp; simp
                    rw [hyk] at c0 c1 c2q c3
                    rw [Nat.zero_add] at c0 c1 c2q c3
                    have HJ := hid_ (joinF_last (l0 := l0) (y := y) (t := t) (p := p) (q := q) hy0 hf0 hfM)
                    have hwm := Hwm.out f hf0 hfM
                    have n1 : (kp : Int) < (kp : Int) + 1 := by omega
                    have n2 : (0 : Int) ≤ (kp : Int) := by omega
                    have n3 : decide ((0 : Int) < (kp : Int) + 1) = true := decide_eq_true (by omega)
                    have n4 : decide ((kp : Int) + 1 > 0) = true := decide_eq_true (by omega)
                    have n5 : decide (0 < f) = true := decide_eq_true hf0
                    have n6 : decide ((0 : Int) < (f : Int)) = true := decide_eq_true (by omega)
                    have hwp : IntKind.i64.wrap (kp : Int) = (kp : Int) := IntWalk.i64_in _ (by omega)
                    have HYA := hid_ HY.out
                    have HY3 := hid_ (show ∀ z ∈ l0 ++ [y] ++ [(⟨f, t, p, q⟩ : ArcD)], z.hi < M by
                      intro z hz
                      rcases List.mem_append.1 hz with hz | hz
                      · exact HYA.out z hz
                      · rw [List.mem_singleton.1 hz]; exact htM)
                    have HY4 := hid_ (show ∀ z ∈ l0 ++ [(⟨y.lo, t, y.old, y.new⟩ : ArcD)], z.hi < M by
                      intro z hz
                      rcases List.mem_append.1 hz with hz | hz
                      · exact HYA.out z (by simp [hz])
                      · rw [List.mem_singleton.1 hz]; exact htM)
                    have HKP := hid_ hkp
                    clear hyk hkp
                    by_cases hj1 : y.hi = f - 1
                    · by_cases hj2 : y.old = p
                      · by_cases hj3 : y.new = q
                        · have hJ2 := HJ.out
                          rw [if_pos ⟨hj1, hj2, hj3⟩] at hJ2
                          have f1 : (y.hi == f - 1) = true := by rw [beq_iff_eq]; exact hj1
                          have f2 : ((y.hi : Int) == ((f - 1 : Nat) : Int)) = true := by rw [beq_iff_eq]; omega
                          have f3 : (y.old == p) = true := by rw [beq_iff_eq]; exact hj2
                          have f4 : ((y.old : Int) == (p : Int)) = true := by rw [beq_iff_eq]; omega
                          have f5 : (y.new == q) = true := by rw [beq_iff_eq]; exact hj3
                          have f6 : ((y.new : Int) == (q : Int)) = true := by rw [beq_iff_eq]; omega
                          have HS3 := hid_ (show movedF M oa ob (fromF M E (k + 1)) (E.drop (k + 1)) (l0 ++ [⟨y.lo, t, y.old, y.new⟩]) = R by rw [← hJ2]; exact HS2.out)
                          clear HJ hJ2 hj1 hj2 hj3 hf0 hfM hy0 HS2
                          go_wp2_with fail
                          go_quiet (fail)
                          have HB8 := hid_ (HB97.out.trans ((below_drewN (Below.refl w7.heap.size w7) nq).mono hsz7))
                          have HO8 := hid_ (HO7.out.later (below_drewN (Below.refl w7.heap.size w7) nq))
                          have HX8 := hid_ (HX7.out.below (below_drewN (Below.refl w7.heap.size w7) nq) HX7.out.lt)
                          clear b0 b1 b2 b3 hc c0 c1 c2q c3
                          generalize w7.drewN nq = w8 at *
                          have b1 : w8.cell? ⟨wr.heap.size, 1, none⟩ = some (.int .u64 (t : Nat)) := HX8.out.cell 1 _ rfl
                          obtain ⟨bq, offq, he, -, -, c1, -, -⟩ := arc_at HO8.out.row (k := kp) (by simp [HKP.out])
                          injection he with he
                          injection he with he1 he2
                          subst he1 he2
                          rw [Nat.zero_add] at c1
                          have HT8 := hid_ (OwnRA.turn HO8.out HKP.out.symm hg1 t)
                          have hfz := HT8.out.1
                          go_wp2_with fail
                          go_roundw
                          case rel => exact ⟨k + 1, kp + 1, (t + 1) % M, some ⟨g9, 0, none⟩, c9, l0 ++ [⟨y.lo, t, y.old, y.new⟩], by have := HK.out; omega, by go_num, rfl, rfl, by omega, hid_ HNf.out.symm, hid_ HT8.out.2.1, hid_ (HB8.out.trans HT8.out.2.2), HS3, HY4, hid_ (fun h => by omega)⟩
                          case measure => have := HK.out; simp [intOf]; omega
                        · skip
                          have f1 : (y.hi == f - 1) = true := by rw [beq_iff_eq]; exact hj1
                          have g1 : ((y.hi : Int) == ((f - 1 : Nat) : Int)) = true := by rw [beq_iff_eq]; omega
                          have f2 : (y.old == p) = true := by rw [beq_iff_eq]; exact hj2
                          have g2 : ((y.old : Int) == (p : Int)) = true := by rw [beq_iff_eq]; omega
                          have f3 : (y.new == q) = false := by rw [beq_eq_false_iff_ne]; exact hj3
                          have g3 : ((y.new : Int) == (q : Int)) = false := by rw [beq_eq_false_iff_ne]; omega
                          have hJ2 := HJ.out
                          rw [if_neg (fun h => hj3 h.2.2)] at hJ2
                          have HS3 := hid_ (show movedF M oa ob (fromF M E (k + 1)) (E.drop (k + 1)) (l0 ++ [y] ++ [⟨f, t, p, q⟩]) = R by rw [← hJ2]; exact HS2.out)
                          clear HJ hJ2 hj1 hj2 hj3 hf0 hfM hy0 HS2
                          go_wp2_with fail
                          go_quiet (fail)
                          have HB8 := hid_ (HB97.out.trans ((below_drewN (Below.refl w7.heap.size w7) nq).mono hsz7))
                          have HO8 := hid_ (HO7.out.later (below_drewN (Below.refl w7.heap.size w7) nq))
                          have HX8 := hid_ (HX7.out.below (below_drewN (Below.refl w7.heap.size w7) nq) HX7.out.lt)
                          clear b0 b1 b2 b3 hc c0 c1 c2q c3
                          generalize w7.drewN nq = w8 at *
                          have b0 : w8.cell? ⟨wr.heap.size, 0, none⟩ = some (.int .u64 (f : Nat)) := HX8.out.cell 0 _ rfl
                          have b1 : w8.cell? ⟨wr.heap.size, 1, none⟩ = some (.int .u64 (t : Nat)) := HX8.out.cell 1 _ rfl
                          have b2 : w8.cell? ⟨wr.heap.size, 2, none⟩ = some (.int .u64 (p : Nat)) := HX8.out.cell 2 _ rfl
                          have b3 : w8.cell? ⟨wr.heap.size, 3, none⟩ = some (.int .u64 (q : Nat)) := HX8.out.cell 3 _ rfl
                          have HOX := hid_ (HO8.out.later ((Below.refl _ _).alloc (Nat.le_refl _) (.cells #[.int .u64 (f : Nat), .int .u64 (t : Nat), .int .u64 (p : Nat), .int .u64 (q : Nat)] 63)))
                          have HBX := hid_ (HB8.out.alloc HB8.out.size (.cells #[.int .u64 (f : Nat), .int .u64 (t : Nat), .int .u64 (p : Nat), .int .u64 (q : Nat)] 63))
                          have HLX := hid_ (arc_lit w8 w8.heap.size ⟨f, t, p, q⟩ 63 rfl)
                          go_wp2_with (first
                            | (at_builtin; refine Enc.wpList_rows (E := arcE) (e := 63) rfl (.tmp 174) (.tmp 176) 58 rfl _ 32 Try.underlying58 info_rarc rfl w6.heap.size (some ⟨g9, 0, none⟩) (kp + 1) c9 _ rfl HOX.out (some ⟨w8.heap.size, 0, none⟩) 1 1 [⟨f, t, p, q⟩] rfl HLX.out (kp + 1 + 1) _ rfl rfl (by omega) (by omega) HBX.out.size ?_; intro A10 c10 w10 ho10 hb10 hg10 hat10; have HX10 := hid_ (And.intro ho10 (HBX.out.trans hb10)); clear ho10 hb10 hg10 hat10)
                            | fail)
                          go_roundw
                          case rel => exact ⟨k + 1, kp + 1 + 1, (t + 1) % M, A10, c10, _, by have := HK.out; omega, by go_num, rfl, rfl, by omega, hid_ HNf.out.symm, hid_ HX10.out.1, hid_ HX10.out.2, HS3, HY3, hid_ (fun h => by omega)⟩
                          case measure => have := HK.out; simp [intOf]; omega
                      · skip
                        have f1 : (y.hi == f - 1) = true := by rw [beq_iff_eq]; exact hj1
                        have g1 : ((y.hi : Int) == ((f - 1 : Nat) : Int)) = true := by rw [beq_iff_eq]; omega
                        have f2 : (y.old == p) = false := by rw [beq_eq_false_iff_ne]; exact hj2
                        have g2 : ((y.old : Int) == (p : Int)) = false := by rw [beq_eq_false_iff_ne]; omega
                        have hJ2 := HJ.out
                        rw [if_neg (fun h => hj2 h.2.1)] at hJ2
                        have HS3 := hid_ (show movedF M oa ob (fromF M E (k + 1)) (E.drop (k + 1)) (l0 ++ [y] ++ [⟨f, t, p, q⟩]) = R by rw [← hJ2]; exact HS2.out)
                        clear HJ hJ2 hj1 hj2 hf0 hfM hy0 HS2
                        go_wp2_with fail
                        go_quiet (fail)
                        have HB8 := hid_ (HB97.out.trans ((below_drewN (Below.refl w7.heap.size w7) nq).mono hsz7))
                        have HO8 := hid_ (HO7.out.later (below_drewN (Below.refl w7.heap.size w7) nq))
                        have HX8 := hid_ (HX7.out.below (below_drewN (Below.refl w7.heap.size w7) nq) HX7.out.lt)
                        clear b0 b1 b2 b3 hc c0 c1 c2q c3
                        generalize w7.drewN nq = w8 at *
                        have b0 : w8.cell? ⟨wr.heap.size, 0, none⟩ = some (.int .u64 (f : Nat)) := HX8.out.cell 0 _ rfl
                        have b1 : w8.cell? ⟨wr.heap.size, 1, none⟩ = some (.int .u64 (t : Nat)) := HX8.out.cell 1 _ rfl
                        have b2 : w8.cell? ⟨wr.heap.size, 2, none⟩ = some (.int .u64 (p : Nat)) := HX8.out.cell 2 _ rfl
                        have b3 : w8.cell? ⟨wr.heap.size, 3, none⟩ = some (.int .u64 (q : Nat)) := HX8.out.cell 3 _ rfl
                        have HOX := hid_ (HO8.out.later ((Below.refl _ _).alloc (Nat.le_refl _) (.cells #[.int .u64 (f : Nat), .int .u64 (t : Nat), .int .u64 (p : Nat), .int .u64 (q : Nat)] 63)))
                        have HBX := hid_ (HB8.out.alloc HB8.out.size (.cells #[.int .u64 (f : Nat), .int .u64 (t : Nat), .int .u64 (p : Nat), .int .u64 (q : Nat)] 63))
                        have HLX := hid_ (arc_lit w8 w8.heap.size ⟨f, t, p, q⟩ 63 rfl)
                        go_wp2_with (first
                          | (at_builtin; refine Enc.wpList_rows (E := arcE) (e := 63) rfl (.tmp 174) (.tmp 176) 58 rfl _ 32 Try.underlying58 info_rarc rfl w6.heap.size (some ⟨g9, 0, none⟩) (kp + 1) c9 _ rfl HOX.out (some ⟨w8.heap.size, 0, none⟩) 1 1 [⟨f, t, p, q⟩] rfl HLX.out (kp + 1 + 1) _ rfl rfl (by omega) (by omega) HBX.out.size ?_; intro A10 c10 w10 ho10 hb10 hg10 hat10; have HX10 := hid_ (And.intro ho10 (HBX.out.trans hb10)); clear ho10 hb10 hg10 hat10)
                          | fail)
                        go_roundw
                        case rel => exact ⟨k + 1, kp + 1 + 1, (t + 1) % M, A10, c10, _, by have := HK.out; omega, by go_num, rfl, rfl, by omega, hid_ HNf.out.symm, hid_ HX10.out.1, hid_ HX10.out.2, HS3, HY3, hid_ (fun h => by omega)⟩
                        case measure => have := HK.out; simp [intOf]; omega
                    · skip
                      have f1 : (y.hi == f - 1) = false := by rw [beq_eq_false_iff_ne]; exact hj1
                      have g1 : ((y.hi : Int) == ((f - 1 : Nat) : Int)) = false := by rw [beq_eq_false_iff_ne]; omega
                      have hJ2 := HJ.out
                      rw [if_neg (fun h => hj1 h.1)] at hJ2
                      have HS3 := hid_ (show movedF M oa ob (fromF M E (k + 1)) (E.drop (k + 1)) (l0 ++ [y] ++ [⟨f, t, p, q⟩]) = R by rw [← hJ2]; exact HS2.out)
                      clear HJ hJ2 hj1 hf0 hfM hy0 HS2
                      go_wp2_with fail
                      go_quiet (fail)
                      have HB8 := hid_ (HB97.out.trans ((below_drewN (Below.refl w7.heap.size w7) nq).mono hsz7))
                      have HO8 := hid_ (HO7.out.later (below_drewN (Below.refl w7.heap.size w7) nq))
                      have HX8 := hid_ (HX7.out.below (below_drewN (Below.refl w7.heap.size w7) nq) HX7.out.lt)
                      clear b0 b1 b2 b3 hc c0 c1 c2q c3
                      generalize w7.drewN nq = w8 at *
                      have b0 : w8.cell? ⟨wr.heap.size, 0, none⟩ = some (.int .u64 (f : Nat)) := HX8.out.cell 0 _ rfl
                      have b1 : w8.cell? ⟨wr.heap.size, 1, none⟩ = some (.int .u64 (t : Nat)) := HX8.out.cell 1 _ rfl
                      have b2 : w8.cell? ⟨wr.heap.size, 2, none⟩ = some (.int .u64 (p : Nat)) := HX8.out.cell 2 _ rfl
                      have b3 : w8.cell? ⟨wr.heap.size, 3, none⟩ = some (.int .u64 (q : Nat)) := HX8.out.cell 3 _ rfl
                      have HOX := hid_ (HO8.out.later ((Below.refl _ _).alloc (Nat.le_refl _) (.cells #[.int .u64 (f : Nat), .int .u64 (t : Nat), .int .u64 (p : Nat), .int .u64 (q : Nat)] 63)))
                      have HBX := hid_ (HB8.out.alloc HB8.out.size (.cells #[.int .u64 (f : Nat), .int .u64 (t : Nat), .int .u64 (p : Nat), .int .u64 (q : Nat)] 63))
                      have HLX := hid_ (arc_lit w8 w8.heap.size ⟨f, t, p, q⟩ 63 rfl)
                      go_wp2_with (first
                        | (at_builtin; refine Enc.wpList_rows (E := arcE) (e := 63) rfl (.tmp 174) (.tmp 176) 58 rfl _ 32 Try.underlying58 info_rarc rfl w6.heap.size (some ⟨g9, 0, none⟩) (kp + 1) c9 _ rfl HOX.out (some ⟨w8.heap.size, 0, none⟩) 1 1 [⟨f, t, p, q⟩] rfl HLX.out (kp + 1 + 1) _ rfl rfl (by omega) (by omega) HBX.out.size ?_; intro A10 c10 w10 ho10 hb10 hg10 hat10; have HX10 := hid_ (And.intro ho10 (HBX.out.trans hb10)); clear ho10 hb10 hg10 hat10)
                        | fail)
                      go_roundw
                      case rel => exact ⟨k + 1, kp + 1 + 1, (t + 1) % M, A10, c10, _, by have := HK.out; omega, by go_num, rfl, rfl, by omega, hid_ HNf.out.symm, hid_ HX10.out.1, hid_ HX10.out.2, HS3, HY3, hid_ (fun h => by omega)⟩
                      case measure => have := HK.out; simp [intOf]; omega
            · obtain rfl : k = m6 := by omega
              have HR2 := hid_ (show R = acc by rw [← HR.out, List.drop_eq_nil_of_le (by rw [HL6.out]; exact Nat.le_refl _)]; rfl)
              clear hlt
              go_wp2_with fail
              go_ret
              exact Hfin.out _ _ _ _ _ HO9.out.row HBr.out HR2.out
end Rg
end Go.Proofs.Ytgmeggilojcoeaa
