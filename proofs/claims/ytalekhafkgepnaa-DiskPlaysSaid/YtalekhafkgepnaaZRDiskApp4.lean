/-
  The reference's Append to an armed disk.
-/
import Derived.Test.YtalekhafkgepnaaZRDiskApp3
namespace Go.Proofs.Ytalekhafkgepnaa
set_option linter.unusedSimpArgs false
set_option linter.unusedVariables false
open Go.RowKit
namespace Dsk
set_option linter.unusedSimpArgs false
set_option linter.unusedVariables false

set_option maxRecDepth 100000 in
set_option maxHeartbeats 2000000 in
theorem rappend_past (j : Nat) (hj : j < 64) (Ab : Option Addr) (nb cb : Nat) (bs : List UInt8) (hnb : nb ≤ 140737488355328) (g : Nat) (Q : Nat → Prop) (d : DiskD) (w : World) (h : Rk w g Q d) (hd : d.down = false) (ha : d.armed = true) (hpast : d.left < nb) (hf : ¬ d.room < usedF d.F + nb)
    (hb : Sl w Ab nb cb bs) (hQb : ∀ a, Ab = some a → bs ≠ [] → ¬ Q a.block) :
    Calls Try.prog 57 #[.pointer (some ⟨g, 0, none⟩), .int .i64 (j : Nat), .slice Ab nb cb] w (RkPost w g Q (.int .i64 10) (withF (sunkD d) (layF d.F j (bs.take d.left)))) := by
  obtain ⟨fb, cs, V, m1, m2⟩ := h.mem
  obtain ⟨c0, c1, c2, c3, cf⟩ := rk_facts m1
  have hlen : bs.length = nb := hb.len
  rw [hd] at c3
  rw [show armedR d = (d.left : Int) by unfold armedR; rw [ha]; rfl] at c2
  have HU := hid_ (fun k => rused_any g Q d (w.drewN k) (h.below (below_nth (Below.refl _ _) k)))
  have hr2 := h.ok.room2
  have hus := h.ok.used
  have hle2 := h.ok.left
  have hgl := m1.lt
  have hfl := m2.mem.lt
  have hcb := hb.cap
  have hcm := hb.max
  have hal : (fileAt d.F j).all.length ≤ usedF d.F := by
    rw [← size_fileAt]
    exact size_le_used d.F hj
  obtain ⟨s0, s1, s2, sf⟩ := m2.at_ j hj
  have hjj : j < 64 := hj
  have ej1 : decide ((j : Int) < 0) = false := decide_eq_false (by omega)
  have ej2 : decide (64 ≤ j) = false := decide_eq_false (by omega)
  have ej3 : decide ((64 : Int) ≤ (j : Int)) = false := decide_eq_false (by omega)
  have ej4 : decide ((j : Int) ≥ (64 : Int)) = false := decide_eq_false (by omega)
  have ej5 : (0 : Int) ≤ (j : Int) := by omega
  have ej6 : (j : Int) < 64 := by omega
  have e3 : IntKind.i64.wrap ((d.room : Int) - (usedF d.F : Int)) = (d.room : Int) - (usedF d.F : Int) := IntWalk.i64_in _ (by omega)
  have e4 : decide ((nb : Int) > (d.room : Int) - (usedF d.F : Int)) = false := decide_eq_false (by omega)
  have e5 : decide ((d.room : Int) - (usedF d.F : Int) < (nb : Int)) = false := decide_eq_false (by omega)
  have e6 : decide ((0 : Int) ≤ (d.left : Int)) = true := decide_eq_true (by omega)
  have e7 : decide ((d.left : Int) ≥ (0 : Int)) = true := decide_eq_true (by omega)
  have e8 : decide (d.left < nb) = true := decide_eq_true (by omega)
  have e9 : decide ((d.left : Int) < (nb : Int)) = true := decide_eq_true (by omega)
  have e10 : (d.left : Int) ≤ (cb : Int) := by omega
  have e11 : (0 : Int) ≤ (d.left : Int) := by omega
  have e12 : IntKind.i64.wrap 0 = 0 := by decide
  have Hsb0 : Hid (Sl w Ab (d.left) cb (bs.take d.left)) := hid_ (hb.upto d.left (by omega))
  have HK := hid_ (lay_ok (d := sunkD d) (sunkD_ok h.ok) hj (bs.take d.left) (by show usedF d.F + _ ≤ d.room; rw [List.length_take]; omega))
  have HW := hid_ (fun (nq : Nat) => show Rk (((w.drewN nq).setCell ⟨g, 3, none⟩ (.bool true)).setCell ⟨g, 2, none⟩ (.int .i64 0)) g Q (sunkD d) ∧ Whole (((w.drewN nq).setCell ⟨g, 3, none⟩ (.bool true)).setCell ⟨g, 2, none⟩ (.int .i64 0)) g 127 (rcells fb (sunkD d)) ∧ RFiles (((w.drewN nq).setCell ⟨g, 3, none⟩ (.bool true)).setCell ⟨g, 2, none⟩ (.int .i64 0)) g fb Q d.F cs V ∧ Tn Q w (((w.drewN nq).setCell ⟨g, 3, none⟩ (.bool true)).setCell ⟨g, 2, none⟩ (.int .i64 0)) from by
    have a1 : Rk (w.drewN nq) g Q d := h.below (below_nth (Below.refl _ _) nq)
    have b1 : RFiles (w.drewN nq) g fb Q d.F cs V := m2.drewN nq
    have t1 : Tn Q w (w.drewN nq) := (Tn.refl Q w).drewN nq
    have hs2 : DOk ({ d with down := true } : DiskD) := ⟨h.ok.room1, h.ok.room2, h.ok.used, h.ok.fast, h.ok.high, h.ok.left⟩
    have hc1 : ∀ fb, (rcells fb d).setIfInBounds 3 (.bool true) = rcells fb { d with down := true } := fun fb => rfl
    have hc2 : ∀ fb, (rcells fb { d with down := true }).setIfInBounds 2 (.int .i64 0) = rcells fb (sunkD d) := fun fb => by
      have e : armedR (sunkD d) = 0 := by unfold armedR sunkD; simp only [ha, if_true]; rfl
      show (#[_, _, _, _] : Array Value) = _
      unfold rcells
      rw [e]
      rfl
    refine ⟨(a1.cell (d' := { d with down := true }) hs2 rfl 3 _ hc1).cell (sunkD_ok h.ok) rfl 2 _ hc2, ?_, (b1.cell 3 _).cell 2 _, (t1.set (.inl h.qg) 3 _).set (.inl h.qg) 2 _⟩
    have := ((show Whole (w.drewN nq) g 127 (rcells fb d) from m1).store 3 (.bool true)).store 2 (.int .i64 0)
    rw [hc1, hc2] at this
    exact this)
  have H := hid_ h
  have HB := hid_ hb
  have HQ : Hid (∀ a, Ab = some a → (bs.take d.left) ≠ [] → ¬ Q a.block) := hid_ (fun a e hne => hQb a e (by rintro rfl; simp at hne))
  have HL : Hid ((bs.take d.left).length = d.left) := hid_ (by rw [List.length_take]; omega)
  have HFG := hid_ m2.fg
  have HQF := hid_ m2.qf
  have hfg2 : fb ≠ g := m2.fg
  have hfg3 : g ≠ fb := fun e => hfg2 e.symm
  clear h m1 m2 hd hb hQb hlen
  generalize hdL : d.left = dl at *
  clear hdL
  generalize hu : usedF d.F = u at *
  clear hu
  generalize hrm : d.room = room at *
  clear hrm
  go_enter Try.func57, Try.ntmps57
  go_wp2_with fail
  go_quiet ((go_at_call 68; exact Calls.quiet_of_same (quiet_flip (HU.out _))))
  go_wp2_with fail
  obtain ⟨HR0, HW0, HF0, HT00⟩ := HW.out nq
  have HR := hid_ HR0
  have M1 := hid_ HW0
  have M2 := hid_ HF0
  have HTA := hid_ HT00
  clear HR0 HW0 HF0 HT00 HW
  obtain ⟨w0, hw0⟩ : ∃ w0, w0 = ((w.drewN nq).setCell ⟨g, 3, none⟩ (.bool true)).setCell ⟨g, 2, none⟩ (.int .i64 0) := ⟨_, rfl⟩
  rw [← hw0] at HR M1 M2 HTA ⊢
  have hz0 : w0.heap.size = w.heap.size := by rw [hw0]; simp
  clear hw0
  obtain ⟨wt, hwt⟩ : ∃ wt, wt = w0.setCell ⟨fb, j * 3, none⟩ (.bool true) := ⟨_, rfl⟩
  rw [← hwt]
  have hz : wt.heap.size = w.heap.size := by rw [hwt]; simp [hz0]
  have HT1 := hid_ (show Tn Q w0 wt from by rw [hwt]; exact (Tn.refl Q w0).set (.inl HQF.out) _ _)
  have HT0 := hid_ (show Tn Q w wt from by rw [hwt]; exact HTA.out.set (.inl HQF.out) _ _)
  have Hsb := hid_ (show Sl wt Ab (dl) cb (bs.take dl) from Hsb0.out.tn HT0.out HQ.out)
  have Hsf := hid_ (show Sl wt (V j).1 (fileAt d.F j).all.length (V j).2 (fileAt d.F j).all from by
    refine Sl.stands_at (M2.out.rd j hj) (fun a e hne => ?_)
    rw [hwt]
    exact Below.heap_setCell w0 ⟨fb, _, none⟩ _ _ (M2.out.blk j hj a e hne).2.2)
  have k1 : wt.cell? ⟨g, 1, none⟩ = some (.slice (some ⟨fb, 0, none⟩) 64 64) := by
    rw [hwt]
    exact (M1.out.far (p := ⟨fb, j * 3, none⟩) (fun e => HFG.out e.symm) (.bool true)).cell 1 _ rfl
  have k2 : wt.cell? ⟨fb, j * 3 + 1, none⟩ = some (.slice (V j).1 (fileAt d.F j).all.length (V j).2) := by
    rw [hwt]
    exact (M2.out.mem.store (j * 3) (.bool true)).cell (j * 3 + 1) _ (by rw [set_miss (by omega)]; exact M2.out.sl_ j hj)
  have kf : wt.frozen? ⟨fb, j * 3 + 1, none⟩ = false := by
    rw [hwt]
    exact (M2.out.mem.store (j * 3) (.bool true)).free (j * 3 + 1)
  have HE := hid_ (fun (A2 : Option Addr) (c2 : Nat) (w2 : World) (ho : Own wt.heap.size w2 A2 ((fileAt d.F j).all.length + (dl)) c2 ((fileAt d.F j).all ++ (bs.take dl))) (hb : Below wt.heap.size wt w2) (W : World) (hW : W.heap = (w2.setCell ⟨fb, j * 3 + 1, none⟩ (.slice A2 ((fileAt d.F j).all.length + (dl)) c2)).heap) (hT : Tn Q w W) (hT2 : Tn Q w0 W) =>
    show RkPost w g Q (.int .i64 10) (withF (sunkD d) (layF d.F j (bs.take dl))) (.returned (.int .i64 10)) W from by
      have hb' : Below (w0.setCell ⟨fb, j * 3, none⟩ (.bool true)).heap.size (w0.setCell ⟨fb, j * 3, none⟩ (.bool true)) w2 := by
        rw [← hwt]; exact hb
      obtain ⟨Q', h1, h2⟩ := rapp_end (d := sunkD d) (dt := sunkD d) HR.out M1.out M2.out j hj (bs.take dl) A2 _ c2 hwt (by rw [List.length_append, HL.out]; rfl) ho (by rw [hwt]; exact hb') HK.out W hW hT2
      exact rkPost_mk rfl h1 rfl hT (fun q hq => by rcases h2 q hq with h3 | h3; exact .inl h3; exact .inr (by omega)))
  have HTw := hid_ (fun (w2 : World) (v : Value) (hb : Below wt.heap.size wt w2) => show Tn Q w (w2.setCell ⟨fb, j * 3 + 1, none⟩ v) from (HT0.out.then_below hb).set (.inl HQF.out) _ _)
  have HTv := hid_ (fun (w2 : World) (v : Value) (hb : Below wt.heap.size wt w2) => show Tn Q w0 (w2.setCell ⟨fb, j * 3 + 1, none⟩ v) from (HT1.out.then_below hb).set (.inl HQF.out) _ _)
  have hgt : g < wt.heap.size := by omega
  have hft : fb < wt.heap.size := by omega
  clear c0 c1 c2 c3 cf s0 s1 s2 sf HU HB HQ HL H M1 M2 HK HT0 HT1 HR HTA e3 e4 e5 hwt hz hz0 Hsb0 hcb hcm
  generalize (fileAt d.F j).all = la at *
  generalize hn : la.length = n at *
  generalize (V j).1 = Af at *
  generalize (V j).2 = cf at *
  have k1d : wt.drew.cell? ⟨g, 1, none⟩ = some (.slice (some ⟨fb, 0, none⟩) 64 64) := k1
  have k2d : wt.drew.cell? ⟨fb, j * 3 + 1, none⟩ = some (.slice Af n cf) := k2
  have Hgt := hid_ hgt
  have Hft := hid_ hft
  have Hk1 := hid_ k1
  have Hk2 := hid_ k2
  have Hkf := hid_ kf
  go_region_law (first
      | (refine step_bytes (by rfl) (.tmp 78) (.tmp 86) (by rfl) wt.heap.size _ 0 0 [] (by rfl) ?_ Af n cf la (by rfl) ?_ n la (by omega) (by rfl) (by omega) ?_ ?_; (first | exact own_lit0 _ _ _ rfl (Nat.le_refl _) | exact (own_lit0 _ _ _ rfl (Nat.le_refl _)).drew); (first | exact Hsf.out.below (Below.alloc (Below.refl _ _) (Nat.le_refl _) _) | exact Hsf.out.below (Below.drew (Below.alloc (Below.refl _ _) (Nat.le_refl _) _)) | exact Hsf.out.below (Below.alloc (Below.drew (Below.refl _ _)) (Nat.le_refl _) _)); (simp); (intro A1 c1 w1 ho1 hb1; have HB1 := hid_ (show Below wt.heap.size wt w1 from (Below.alloc (Below.drew (Below.refl _ _)) (Nat.le_refl _) (.cells #[] 5)).trans hb1); have l1 : w1.cell? ⟨g, 1, none⟩ = some (.slice (some ⟨fb, 0, none⟩) 64 64) := (HB1.out.cell (p := ⟨g, 1, none⟩) Hgt.out).trans Hk1.out; clear hb1))
      | (refine step_bytes (by rfl) (.tmp 87) (.tmp 88) (by rfl) wt.heap.size A1 n c1 la (by rfl) ho1 Ab (dl) cb (bs.take dl) (by rfl) (Hsb.out.below HB1.out) (n + (dl)) (la ++ (bs.take dl)) (by rfl) (by rfl) (by omega) HB1.out.size ?_; (intro A2 c2 w2 ho2 hb2; have HB2 := hid_ (HB1.out.trans hb2); have l2 : w2.cell? ⟨g, 1, none⟩ = some (.slice (some ⟨fb, 0, none⟩) 64 64) := (HB2.out.cell (p := ⟨g, 1, none⟩) Hgt.out).trans Hk1.out; have l3 : w2.cell? ⟨fb, j * 3 + 1, none⟩ = some (.slice Af n cf) := (HB2.out.cell (p := ⟨fb, j * 3 + 1, none⟩) Hft.out).trans Hk2.out; have l4 : w2.frozen? ⟨fb, j * 3 + 1, none⟩ = false := (HB2.out.frozen (p := ⟨fb, j * 3 + 1, none⟩) Hft.out).trans Hkf.out; clear hb2))
      | fail)
  all_goals
    go_wp2_with fail
    go_ret
    first | exact HE.out _ _ _ ho2 HB2.out _ rfl (HTw.out _ _ HB2.out) (HTv.out _ _ HB2.out) | exact HE.out _ _ _ ho2 HB2.out _ rfl (HTw.out _ _ HB2.out).drew (HTv.out _ _ HB2.out).drew

theorem rappend_any (x : Int) (Ab : Option Addr) (nb cb : Nat) (bs : List UInt8) (hnb : nb ≤ 140737488355328) (g : Nat) (Q : Nat → Prop) (d : DiskD) (w : World) (h : Rk w g Q d)
    (hb : Sl w Ab nb cb bs) (hQb : ∀ a, Ab = some a → bs ≠ [] → ¬ Q a.block) :
    Calls Try.prog 57 #[.pointer (some ⟨g, 0, none⟩), .int .i64 x, .slice Ab nb cb] w (RkPost w g Q (.int .i64 (appK d x nb)) (appD d x bs)) := by
  have hlen : bs.length = nb := hb.len
  cases hd : d.down
  · by_cases hx : x < 0 ∨ 64 ≤ x
    · have e1 : appK d x nb = 1 := by unfold appK; rw [hd]; simp only [Bool.false_eq_true, if_false]; rw [if_pos hx]
      have e2 : appD d x bs = d := by unfold appD; rw [hd]; simp only [Bool.false_eq_true, if_false]; rw [if_pos hx]
      rw [e1, e2]
      exact rappend_bad x hx Ab nb cb g Q d w h hd
    · obtain ⟨j, rfl⟩ := Int.eq_ofNat_of_zero_le (show 0 ≤ x by omega)
      have hj : j < 64 := by omega
      by_cases hf : d.room < usedF d.F + nb
      · have e1 : appK d (j : Nat) nb = 9 := by unfold appK; rw [hd]; simp only [Bool.false_eq_true, if_false]; rw [if_neg hx, if_pos hf]
        have e2 : appD d (j : Nat) bs = d := by unfold appD; rw [hd]; simp only [Bool.false_eq_true, if_false]; rw [if_neg hx, if_pos (by rw [hlen]; exact hf)]
        rw [e1, e2]
        exact rappend_full j hj Ab nb cb hnb g Q d w h hd hf
      · have e1 : appK d (j : Nat) nb = if takeN d nb < nb then 10 else 0 := by unfold appK; rw [hd]; simp only [Bool.false_eq_true, if_false]; rw [if_neg hx, if_neg hf]
        have e2 : appD d (j : Nat) bs = appF d j bs := by unfold appD; rw [hd]; simp only [Bool.false_eq_true, if_false]; rw [if_neg hx, if_neg (by rw [hlen]; exact hf)]; rfl
        rw [e1, e2]
        cases ha : d.armed
        · have t1 : takeN d nb = nb := by unfold takeN; rw [ha]; rfl
          have e3 : appF d j bs = withF d (layF d.F j bs) := by
            unfold appF leftN
            rw [hlen, t1, ha, hd, ← hlen, List.take_length]
            simp [withF, ha, hd]
          rw [t1, e3, if_neg (by omega)]
          exact rappend_free j hj Ab nb cb bs hnb g Q d w h hd ha hf hb hQb
        · by_cases hl : nb ≤ d.left
          · have t1 : takeN d nb = nb := by unfold takeN; rw [ha]; simp only [if_true]; omega
            have e3 : appF d j bs = withF (lessD d nb) (layF d.F j bs) := by
              unfold appF leftN
              rw [hlen, t1, ha, hd, ← hlen, List.take_length]
              simp [withF, lessD, ha, hd]
            rw [t1, e3, if_neg (by omega)]
            exact rappend_fit j hj Ab nb cb bs hnb g Q d w h hd ha hl hf hb hQb
          · have t1 : takeN d nb = d.left := by unfold takeN; rw [ha]; simp only [if_true]; omega
            have e3 : appF d j bs = withF (sunkD d) (layF d.F j (bs.take d.left)) := by
              unfold appF leftN
              have hlt : d.left < nb := by omega
              rw [hlen, t1, ha]
              simp [withF, sunkD, ha, hlt]
            rw [t1, e3, if_pos (by omega)]
            exact rappend_past j hj Ab nb cb bs hnb g Q d w h hd ha (by omega) hf hb hQb
  · have e1 : appK d x nb = 10 := by unfold appK; rw [hd]; rfl
    have e2 : appD d x bs = d := by unfold appD; rw [hd]; rfl
    rw [e1, e2]
    exact rappend_down x Ab nb cb g Q d w h hd
end Dsk
end Go.Proofs.Ytalekhafkgepnaa
