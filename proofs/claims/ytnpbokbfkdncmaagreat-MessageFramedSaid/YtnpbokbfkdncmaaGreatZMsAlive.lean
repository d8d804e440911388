/-
  The chapter's example of package message comes.
-/
import Derived.Test.YtnpbokbfkdncmaaGreatZGI
import Derived.Test.YtnpbokbfkdncmaaGreatZGM
import Derived.Deep.RegionHeld3
namespace Go.Proofs.YtnpbokbfkdncmaaGreat
set_option linter.unusedSimpArgs false
set_option linter.unusedVariables false
open Go.RowKit Ru Fm

def tellP : PackD := ⟨8, 5, 0, 0, 0, 0, 1, false, [], [], []⟩
abbrev noneS : PackS := ⟨none, 0, none, 0, none, 0⟩
theorem tell_right : rightP tellP = true := by kernel_rfl
theorem tell_wf : tellP.Wf := ⟨by decide, by decide, by decide, by decide, by decide, (by intro s h; cases h), (by intro s h; cases h), (by intro s h; cases h)⟩
theorem tell_len : (encF tellP).length = 18 := by kernel_rfl
theorem tell_4 : (encF tellP)[4]? = some 8 := by kernel_rfl
theorem tell_13 : (encF tellP)[13]? = some 1 := by kernel_rfl
theorem tell_hd : hd (writtenF tellP) = 8 := by kernel_rfl
theorem tell_same : sameP tellP tellP = true := by kernel_rfl
theorem tell_cut : (cutF (encF tellP)).2.1 = writtenF tellP := by rw [cut_enc0 (right_facts tell_right)]
theorem tell_read : readF (writtenF tellP) = tellP := read_written tell_wf (right_facts tell_right)
theorem tell_dec : decF (encF tellP) = (0, tellP) := dec_enc tell_wf tell_right
set_option maxHeartbeats 1000000 in
theorem tell_any (w : World) : Calls Tryz.prog 15 #[] w fun e w' => e = .returned (packVal tellP noneS) ∧ Below w.heap.size w w' := by
  go_enter Tryz.func15, Tryz.ntmps15
  go_wp2_with fail
  refine bodyPost_ret (v := packVal tellP noneS) (by simp [results, Tryz.results15, go_sem, tellP]) rfl ⟨rfl, ?_⟩
  repeat (first | exact Below.refl _ _ | refine Below.setCell ?_ (Nat.le_refl _) _ | refine Below.alloc ?_ (Nat.le_refl _) _)
theorem tellIn (w : World) : PackIn w tellP noneS := packIn_none w tellP rfl rfl rfl
def BytesPost (w : World) (l : List UInt8) (e : Ending) (w' : World) : Prop := ∃ A n c, e = .returned (.tuple #[.slice A n c, .int .i64 0]) ∧ Own w.heap.size w' A n c l ∧ Below w.heap.size w w'
theorem tell_enc (w : World) : Calls Tryz.prog 8 #[packVal tellP noneS] w (BytesPost w (encF tellP)) := by
  refine Calls.mono (encode_any tellP noneS w (tellIn w) tell_wf (by decide)) ?_
  rintro e w' (⟨h, _⟩ | ⟨_, h⟩)
  · rw [tell_right] at h; cases h
  · exact h
theorem tell_decode (A : Option Addr) (n c : Nat) (w : World) (hs : Sl w A n c (encF tellP)) :
    Calls Tryz.prog 11 #[.slice A n c] w (fun e w' => ∃ s, e = .returned (.tuple #[packVal tellP s, .int .i64 0]) ∧ PackIn w' tellP s ∧ Below w.heap.size w w') := by
  have hn : n = 18 := by rw [← hs.len]; exact tell_len
  refine Calls.mono (decode_of A n c _ w hs (by omega) (fun A' n' c' W h => ?_) ?_ ?_) ?_
  · rw [tell_cut] at h ⊢
    exact read8_any A' n' c' _ W h tell_hd
  · rw [tell_cut, tell_read]; exact tell_wf
  · rw [tell_cut, tell_read]; decide
  · rintro e w' ⟨s, rfl, hi, hb⟩
    rw [tell_dec] at hi ⊢
    exact ⟨s, rfl, hi, hb⟩
theorem tell_ref (s : PackS) (W : World) (h : PackIn W tellP s) : Calls Tryz.prog 13 #[.agg #[.int .i64 8, .int .u64 5, .int .u64 0, .int .u64 0, .int .u64 0, .int .u64 0, .int .i64 1, .bool false, .slice s.a1 0 s.c1, .slice s.a2 0 s.c2, .slice s.a3 0 s.c3], packVal tellP noneS] W (BoolIs W true) := by
  have := refsame_any tellP tellP s noneS W h (tellIn W)
  rw [tell_same] at this
  exact this
/-- What alive's last region holds on to. -/
abbrev AlIn (w1 : World) (b off g : Nat) (s : PackS) (W : World) : Prop :=
  Below w1.heap.size w1 W ∧ W.cell? ⟨b, off + 4, none⟩ = some (.int .u8 8) ∧ W.cell? ⟨b, off + 13, none⟩ = some (.int .u8 1) ∧ W.cell? ⟨g, 0, none⟩ = some (.int .i64 8) ∧ W.cell? ⟨g, 1, none⟩ = some (.int .u64 5) ∧ W.cell? ⟨g, 2, none⟩ = some (.int .u64 0) ∧ W.cell? ⟨g, 3, none⟩ = some (.int .u64 0) ∧ W.cell? ⟨g, 4, none⟩ = some (.int .u64 0) ∧ W.cell? ⟨g, 5, none⟩ = some (.int .u64 0) ∧ W.cell? ⟨g, 6, none⟩ = some (.int .i64 1) ∧ W.cell? ⟨g, 7, none⟩ = some (.bool false) ∧ W.cell? ⟨g, 8, none⟩ = some (.slice s.a1 0 s.c1) ∧ W.cell? ⟨g, 9, none⟩ = some (.slice s.a2 0 s.c2) ∧ W.cell? ⟨g, 10, none⟩ = some (.slice s.a3 0 s.c3)
theorem alIn_keep {w1 W W' : World} {b off g : Nat} {s : PackS} (hg : g < w1.heap.size) (hbb : b < w1.heap.size) (h : AlIn w1 b off g s W) (hb : Below W.heap.size W W') : AlIn w1 b off g s W' := by
  obtain ⟨h0, c4, c13, a0, a1, a2, a3, a4, a5, a6, a7, a8, a9, a10⟩ := h
  have k : ∀ o', W'.cell? ⟨g, o', none⟩ = W.cell? ⟨g, o', none⟩ := fun o' => hb.cell (p := ⟨g, o', none⟩) (Nat.lt_of_lt_of_le hg h0.size)
  have k2 : ∀ o', W'.cell? ⟨b, o', none⟩ = W.cell? ⟨b, o', none⟩ := fun o' => hb.cell (p := ⟨b, o', none⟩) (Nat.lt_of_lt_of_le hbb h0.size)
  refine ⟨h0.trans (hb.mono h0.size), ?_, ?_, ?_, ?_, ?_, ?_, ?_, ?_, ?_, ?_, ?_, ?_, ?_⟩
  · rw [k2]; assumption
  · rw [k2]; assumption
  all_goals rw [k]; assumption
set_option maxRecDepth 100000 in
set_option maxHeartbeats 8000000 in
theorem msalive_any (w : World) : Calls Tryz.prog 7 #[] w (BoolIs w true) := by
  have Ht := hid_ (fun W => tell_any W)
  have He := hid_ (fun W => tell_enc W)
  have Hd := hid_ (fun A n c W h => tell_decode A n c W h)
  have Hof := hid_ (fun W => of8_any tellP noneS W (tellIn W) tell_wf (by decide) rfl tell_right)
  have Htr := hid_ (fun W => trace8_any 5 1 W)
  have Hsm := hid_ (fun s W (h : PackIn W tellP s) => tell_ref s W h)
  have Hr := hid_ (Below.refl w.heap.size w)
  go_enter Tryz.func7, Tryz.ntmps7
  go_wp2_with fail
  refine Calls.mono (Ht.out _) ?_
  rintro e w1 ⟨rfl, hb⟩
  have Hb1 := hid_ hb
  clear hb
  go_wp2_with fail
  refine Calls.mono (He.out _) ?_
  rintro e w2 ⟨A, n, c, rfl, ho, hb⟩
  have Hb2 := hid_ (Hb1.out.trans (hb.mono Hb1.out.size))
  have hlen := ho.sl.len
  rw [tell_len] at hlen
  subst hlen
  have Hs2 := hid_ ho.sl
  clear ho hb
  go_wp2_with fail
  refine Calls.mono (Hd.out _ _ _ _ Hs2.out) ?_
  rintro e w3 ⟨s, rfl, hi, hb⟩
  have Hb3 := hid_ (Hb2.out.trans (hb.mono Hb2.out.size))
  have Hs3 := hid_ (Hs2.out.below hb)
  have Hi3 := hid_ hi
  have K3 := hid_ (whole_new w3 30 (packCells tellP s))
  clear hi hb
  go_wp2_with fail
  refine Calls.mono (Ht.out _) ?_
  rintro e w4 ⟨rfl, hb⟩
  have Hb4 := hid_ ((Hb3.out.alloc Hb3.out.size (.cells (packCells tellP s) 30)).trans (hb.mono (Hb3.out.alloc Hb3.out.size (.cells (packCells tellP s) 30)).size))
  have K4 := hid_ (K3.out.below hb K3.out.lt)
  have Hs4 := hid_ ((Hs3.out.below ((Below.refl _ _).alloc (Nat.le_refl _) (.cells (packCells tellP s) 30))).below hb)
  have Hi4 := hid_ ((Hi3.out.below ((Below.refl _ _).alloc (Nat.le_refl _) (.cells (packCells tellP s) 30))).below hb)
  clear hb
  go_wp2_with fail
  refine Calls.mono (Hof.out _) ?_
  rintro e w5 ⟨rfl, hb⟩
  have Hb5 := hid_ (Hb4.out.trans (hb.mono Hb4.out.size))
  have K5 := hid_ (K4.out.below hb K4.out.lt)
  have Hs5 := hid_ (Hs4.out.below hb)
  have Hi5 := hid_ (Hi4.out.below hb)
  clear hb
  go_wp2_with fail
  refine Calls.mono (Htr.out _) ?_
  rintro e w6 ⟨rfl, hb⟩
  have Hb6 := hid_ (Hb5.out.trans (hb.mono Hb5.out.size))
  have K6 := hid_ (K5.out.below hb K5.out.lt)
  have Hs6 := hid_ (Hs5.out.below hb)
  have Hi6 := hid_ (Hi5.out.below hb)
  clear hb
  obtain ⟨b, off, rfl, h4⟩ := Hs6.out.holds.at_ (k := 4) (by rw [tell_len]; omega)
  obtain ⟨_, _, e13, h13⟩ := Hs6.out.holds.at_ (k := 13) (by rw [tell_len]; omega)
  cases e13
  have e4 : (encF tellP)[4]'(by rw [tell_len]; omega) = 8 := by
    have := tell_4
    rw [List.getElem?_eq_getElem (by rw [tell_len]; omega)] at this
    injection this
  have e13 : (encF tellP)[13]'(by rw [tell_len]; omega) = 1 := by
    have := tell_13
    rw [List.getElem?_eq_getElem (by rw [tell_len]; omega)] at this
    injection this
  rw [e4] at h4
  rw [e13] at h13
  have hlb := lt_of_cell h4
  have hlg := K6.out.lt
  have hA : AlIn w6 b off w3.heap.size s w6 := ⟨Below.refl _ _, h4, h13, K6.out.cell 0 _ rfl, K6.out.cell 1 _ rfl, K6.out.cell 2 _ rfl, K6.out.cell 3 _ rfl, K6.out.cell 4 _ rfl, K6.out.cell 5 _ rfl, K6.out.cell 6 _ rfl, K6.out.cell 7 _ rfl, K6.out.cell 8 _ rfl, K6.out.cell 9 _ rfl, K6.out.cell 10 _ rfl⟩
  clear e4 e13 h4 h13
  go_wp2_with fail
  go_region_held3 (AlIn w6 b off w3.heap.size s) (first | assumption | (refine alIn_keep hlg hlb (by assumption) (by assumption)) | (refine alIn_keep hlg hlb (by assumption) (Below.drew (Below.refl _ _))) | (refine alIn_keep hlg hlb (by assumption) (Below.alloc (Below.refl _ _) (Nat.le_refl _) _)))
    (first
      | (go_at_call 15; (with_reducible refine Calls.mono (Ht.out _) ?_); rintro e w' ⟨rfl, hb'⟩)
      | (go_at_call 13; (with_reducible refine Calls.mono (Hsm.out s _ ?_) ?_); (exact Hi6.out.below (And.left (by assumption))); rintro e w' ⟨rfl, hb'⟩))
  have hS : AlIn w6 b off w3.heap.size s w' := by assumption
  have h9 := Hb6.out.trans (hS.1.mono Hb6.out.size)
  clear hS hA
  go_wp2_with fail
  go_ret
  exact boolIs_mk rfl h9
end Go.Proofs.YtnpbokbfkdncmaaGreat
