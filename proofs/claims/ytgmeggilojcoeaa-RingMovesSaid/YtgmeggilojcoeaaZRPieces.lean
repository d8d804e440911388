/-
  The ends of the pieces between two rings' points.
-/
import Derived.Test.YtgmeggilojcoeaaZArcs
import Derived.Test.YtgmeggilojcoeaaZPtConcat
import Derived.Test.YtgmeggilojcoeaaZRCompact
namespace Go.Proofs.Ytgmeggilojcoeaa
set_option linter.unusedSimpArgs false
set_option linter.unusedVariables false
open Go.RowKit
namespace Rg
set_option linter.unusedSimpArgs false
set_option linter.unusedVariables false
abbrev OwnV := numE.Own 60
theorem info_num : (Try.prog.info? 60).map (fun i => (i.zero, i.size, i.bytes)) = some (some (.int .u64 0), 1, 8) := by kernel_rfl
theorem num_alone (W : World) (g x : Nat) (T : TypeId) (h : g = W.heap.size) : numE.Row (W.alloc (.cells #[.int .u64 (x : Nat)] T)) (some ⟨g, 0, none⟩) 1 1 [x] := by
  subst h
  exact Enc.row_new (E := numE) W x _ rfl T
def placesF (mx : Nat) (ab : List PtD) : List Nat := mx :: ab.map PtD.pos
theorem places_snoc (mx : Nat) (ab : List PtD) {k : Nat} (hk : k < ab.length) : placesF mx (ab.take (k + 1)) = placesF mx (ab.take k) ++ [ab[k].pos] := by
  unfold placesF
  rw [List.take_succ_eq_append_getElem hk, List.map_append]
  rfl
theorem places_length (mx : Nat) (ab : List PtD) : (placesF mx ab).length = ab.length + 1 := by simp [placesF]
theorem first_lit (w : World) : OwnV w.heap.size (w.alloc (.cells #[.int .u64 18446744073709551615] 60)) (some ⟨w.heap.size, 0, none⟩) 1 1 (placesF 18446744073709551615 []) :=
  Enc.own_litK w [18446744073709551615] _ rfl 1 rfl (by decide) _ (Nat.le_refl _)
/-- What pieces answers. -/
def PiecesPost (w : World) (a b : List PtD) (e : Ending) (w' : World) : Prop :=
  ∃ (l : List Nat) (A : Option Addr) (m c : Nat), e = .returned (.slice A m c) ∧ numE.Row w' A m c l ∧ Below w.heap.size w w' ∧ Ends 18446744073709551616 a b l ∧ m ≤ 2001
theorem piecesPost_mk {w w' : World} {a b : List PtD} {l ids : List Nat} {A : Option Addr} {m c : Nat} {mx : Nat} (hm : mx = 18446744073709551615) (h1 : l.Pairwise (· < ·)) (h2 : ∀ x, x ∈ l ↔ x ∈ ids) (h3 : ids.Perm (placesF mx (a ++ b)))
    (hr : numE.Row w' A m c l) (hb : Below w.heap.size w w') (hmm : m ≤ 2001) : PiecesPost w a b (.returned (.slice A m c)) w' := by
  refine ⟨l, A, m, c, rfl, hr, hb, ⟨h1, fun x => ?_⟩, hmm⟩
  rw [h2, h3.mem_iff, hm]
  unfold placesF
  rw [List.mem_cons, List.mem_map]
  constructor
  · rintro (h | ⟨p, hp, e⟩)
    · exact .inl h
    · rcases List.mem_append.1 hp with hp | hp
      · exact .inr (.inl ⟨p, hp, e⟩)
      · exact .inr (.inr ⟨p, hp, e⟩)
  · rintro (h | ⟨p, hp, e⟩ | ⟨p, hp, e⟩)
    · exact .inl h
    · exact .inr ⟨p, List.mem_append.2 (.inl hp), e⟩
    · exact .inr ⟨p, List.mem_append.2 (.inr hp), e⟩
set_option maxRecDepth 20000 in
set_option maxHeartbeats 700000 in
theorem pieces_any (A A' : Option Addr) (n n' c c' : Nat) (a b : List PtD) (w : World) (h1 : ptE.Row w A n c a) (h2 : ptE.Row w A' n' c' b) (hn : n ≤ 1000) (hn' : n' ≤ 1000) :
    Calls Try.prog 61 #[.slice A n c, .slice A' n' c'] w (PiecesPost w a b) := by
  have H0 := hid_ (first_lit w)
  have Hfin := hid_ (fun (w' : World) (l ids : List Nat) (A : Option Addr) (m c : Nat) => piecesPost_mk (w := w) (w' := w') (a := a) (b := b) (l := l) (ids := ids) (A := A) (m := m) (c := c) (mx := 18446744073709551615) rfl)
  obtain ⟨P, hP⟩ : ∃ P, P = placesF 18446744073709551615 := ⟨_, rfl⟩
  have Hsn := hid_ (fun (ab : List PtD) (k : Nat) (hk : k < ab.length) => show P (ab.take (k + 1)) = P (ab.take k) ++ [ab[k].pos] by rw [hP]; exact places_snoc _ ab hk)
  have Hln := hid_ (fun (ab : List PtD) => show (P ab).length = ab.length + 1 by rw [hP]; exact places_length _ ab)
  rw [← hP] at H0 Hfin
  clear hP
  have HR1 := hid_ h1
  have HR2 := hid_ h2
  have HAL := hid_ (show (a ++ b).length = n + n' by rw [List.length_append, h1.len, h2.len])
  have HB0 := hid_ (((Below.refl w.heap.size w).alloc (Nat.le_refl _) (.cells #[.int .u64 18446744073709551615] 60)).alloc (by simp) (.cells #[.slice A n c, .slice A' n' c'] 56))
  have HO0 := hid_ (H0.out.later ((Below.refl _ _).alloc (Nat.le_refl _) (.cells #[.slice A n c, .slice A' n' c'] 56)))
  have Hcon := hid_ (concat_any (w.heap.size + 1) A A' n n' c c' a b ((w.alloc (.cells #[.int .u64 18446744073709551615] 60)).alloc (.cells #[.slice A n c, .slice A' n' c'] 56)) (h1.below HB0.out) (h2.below HB0.out) (whole_at _ _ _ _ (by simp)) hn hn')
  clear h1 h2 H0
  generalize a ++ b = ab at *
  go_enter Try.func61, Try.ntmps61
  go_wp2_with fail
  refine Calls.mono Hcon.out ?_
  rintro e w3 ⟨A3, c3, rfl, ho, hb⟩
  have HOwn3 := hid_ (show ptE.Own 107 (w.heap.size + 2) w3 A3 ab.length c3 ab by have := ho; simp only [World.size_alloc] at this; exact this)
  have HA3 := hid_ (HOwn3.out.from_)
  have hle3 := ho.row.le
  have hcap3 := ho.row.cap
  have HB3 := hid_ (HB0.out.trans (hb.mono HB0.out.size))
  have HO3 := hid_ (HO0.out.later hb)
  have hsz3 : w.heap.size + 2 ≤ w3.heap.size := by have := hb.size; simpa using this
  clear ho hb HB0 HO0 Hcon
  have hlab : ab.length ≤ 2000 := by have := HAL.out; omega
  go_wp2_with fail
  go_loopw [5, 14] (fun vo vi wr => ∃ (k m' : Nat) (A' : Option Addr) (c' : Nat), k ≤ ab.length ∧ vi = .int .i64 (k : Nat) ∧ vo = .slice A' m' c' ∧ m' ≤ k + 1 ∧ k + 1 ≤ m' ∧ Hid (OwnV w.heap.size wr A' m' c' (P (ab.take k))) ∧ Hid (ptE.Own 107 (w.heap.size + 2) wr A3 ab.length c3 ab) ∧ Hid (∀ j, (Value.slice A' m' c').ownBlock = some j → j = w.heap.size ∨ w3.heap.size ≤ j) ∧ w3.heap.size ≤ wr.heap.size ∧ Hid (Below w.heap.size w wr)) (fun _ vi _ => ab.length - (intOf vi).toNat)
  case atStart => exact ⟨0, 1, _, 1, Nat.zero_le _, rfl, rfl, by omega, by omega, HO3, HOwn3, hid_ (fun j h => .inl (by cases h; rfl)), Nat.le_refl _, HB3⟩
  case round =>
    obtain ⟨k, m', Ak, ck, hk, rfl, rfl, hmk, hmk', HO, HOwn, HJ, hsz, HBw⟩ := hrel
    have hszw := HBw.out.size
    by_cases hlt : k < ab.length
    · have HNE := hid_ (show (Value.slice A3 ab.length c3).ownBlock = none ∨ (Value.slice A3 ab.length c3).ownBlock ≠ (Value.slice Ak m' ck).ownBlock by
        rcases hA : (Value.slice A3 ab.length c3).ownBlock with _ | j
        · exact .inl rfl
        · refine .inr fun e => ?_
          have q1 := HA3.out j hA
          have q2 := HJ.out j e.symm
          omega)
      have HRow := hid_ HOwn.out.row
      obtain ⟨bq, off, hA3, hbl, c0, c1⟩ := pt_at HRow.out hlt
      have x1 : (k : Int) < (ab.length : Int) := by omega
      have x2 : (0 : Int) ≤ (k : Int) := by omega
      have HT := hid_ (Hsn.out ab k hlt).symm
      have HK := hid_ hlt
      generalize ab[k] = s at *
      obtain ⟨ps, is⟩ := s
      simp only at c0 c1
      have HO1 := hid_ (HO.out.later (((Below.refl _ _).alloc (Nat.le_refl _) (.cells #[.int .u64 (ps : Nat), .int .u64 (is : Nat)] 107)).alloc (by simp) (.cells #[.int .u64 (ps : Nat)] 60)))
      have HOwn1 := hid_ (HOwn.out.later (((Below.refl _ _).alloc (Nat.le_refl _) (.cells #[.int .u64 (ps : Nat), .int .u64 (is : Nat)] 107)).alloc (by simp) (.cells #[.int .u64 (ps : Nat)] 60)))
      have HBw1 := hid_ ((HBw.out.alloc HBw.out.size (.cells #[.int .u64 (ps : Nat), .int .u64 (is : Nat)] 107)).alloc (by simp only [World.size_alloc]; omega) (.cells #[.int .u64 (ps : Nat)] 60))
      have HLit := hid_ (num_alone (wr.alloc (.cells #[.int .u64 (ps : Nat), .int .u64 (is : Nat)] 107)) (wr.heap.size + 1) ps 60 (by simp))
      subst hA3
      clear hlt
      go_wp2_with (at_builtin; refine Enc.wpList_rows (E := numE) (e := 60) rfl (.tmp 18) (.tmp 21) 76 rfl _ 8 Try.underlying76 info_num rfl w.heap.size Ak m' ck _ rfl HO1.out (some ⟨(wr.heap.size + 1), 0, none⟩) 1 1 [ps] rfl HLit.out (m' + 1) _ rfl HT.out (by omega) (by omega) (HBw1.out.size) ?_; intro A5 c5 w5 ho5 hb5 hg5 hat5; have HX := hid_ (And.intro ho5 (And.intro (HBw1.out.trans hb5) (And.intro hg5 hat5))); clear ho5 hb5 hg5 hat5)
      have hs5 := HX.out.2.2.1.size
      simp only [World.size_alloc] at hs5
      have HJ5 := hid_ (show ∀ j, (Value.slice A5 (m' + 1) c5).ownBlock = some j → j = w.heap.size ∨ w3.heap.size ≤ j by
        intro j hj
        rcases HX.out.2.2.2 with e | e
        · rw [e] at hj; exact HJ.out j hj
        · rw [e] at hj; injection hj with hj; simp only [World.size_alloc] at hj; omega)
      go_roundw
      case rel => exact ⟨k + 1, m' + 1, A5, c5, by have := HK.out; omega, by go_num, rfl, by omega, by omega, hid_ HX.out.1, hid_ (HOwn1.out.kept HX.out.2.2.1 HNE.out), HJ5, by omega, hid_ HX.out.2.1⟩
      case measure => have := HK.out; simp [intOf]; omega
    · obtain rfl : k = ab.length := by omega
      have HT := hid_ (show P (ab.take ab.length) = P ab by rw [List.take_length])
      have HO2 := hid_ (show OwnV w.heap.size wr Ak m' ck (P ab) by have := HO.out; rwa [HT.out] at this)
      have hlm := HO2.out.len
      generalize P ab = ps at *
      obtain ⟨q, rfl, hq1, hq2, hq3⟩ := HO2.out.place (by omega)
      have hf : ∀ o, wr.frozen? ⟨q, o, none⟩ = false := by
        intro o
        rcases HO2.out.2 with ⟨e', _⟩ | ⟨gg, cap, cur, e', _, hh, _⟩
        · cases e'
        · injection e' with e1
          injection e1 with e1
          injection e1 with e1
          subst e1
          simp [World.frozen?, hh]
      have hmx := HO2.out.row.max
      have Hs := hid_ (Ns.sort_some w.heap.size wr q 0 m' ck ps wr (Ns.nst_of HO2.out.row hq1 hq2 hf) hlm (by omega) hq3)
      have HL := hid_ hlm
      have HBw2 := hid_ HBw.out
      clear hf HO HOwn HJ hk hlm
      go_wp2_with fail
      (with_reducible refine Calls.mono Hs.out ?_)
      rintro e w6 ⟨rfl, ks, hp, hpw, hst⟩
      have HP := hid_ hp
      have Hc := hid_ (compact_any w.heap.size wr q m' ck ks w6 hst (by rw [hp.length_eq]; exact HL.out) hq3 hmx hpw)
      clear hp hpw hst
      go_wp2_with fail
      (with_reducible refine Calls.mono Hc.out ?_)
      rintro e w7 ⟨l, m7, rfl, hl1, hl2, hr7, hb7, hm7⟩
      have HF := hid_ (Hfin.out w7 l ks _ m7 ck hl1 hl2 HP.out hr7 (HBw2.out.trans hb7) (by have := HP.out.length_eq; have := HL.out; omega))
      clear hl1 hl2 hr7 hb7 hm7
      go_wp2_with fail
      go_ret
      exact HF.out
end Rg
end Go.Proofs.Ytgmeggilojcoeaa
