/-
  The reference's Append to a disk that is not down, at a number of its own.
-/
import Derived.Test.YtalekhafkgepnaaZGDR
namespace Go.Proofs.Ytalekhafkgepnaa
set_option linter.unusedSimpArgs false
set_option linter.unusedVariables false
open Go.RowKit
namespace Dsk
set_option linter.unusedSimpArgs false
set_option linter.unusedVariables false
theorem below_nth {B : Nat} {a w : World} (h : Below B a w) (n : Nat) : Below B a (w.drewN n) := h.trans ⟨rfl, rfl, rfl, Nat.le_refl _, fun _ _ => rfl⟩
theorem rappend_full (j : Nat) (hj : j < 64) (Ab : Option Addr) (nb cb : Nat) (hnb : nb ≤ 140737488355328) (g : Nat) (Q : Nat → Prop) (d : DiskD) (w : World) (h : Rk w g Q d) (hd : d.down = false) (hf : d.room < usedF d.F + nb) : Calls Try.prog 57 #[.pointer (some ⟨g, 0, none⟩), .int .i64 (j : Nat), .slice Ab nb cb] w (RkPost w g Q (.int .i64 9) d) := by
  obtain ⟨fb, cs, V, m1, m2⟩ := h.mem
  obtain ⟨c0, c1, c2, c3, -⟩ := rk_facts m1
  rw [hd] at c3
  have H := hid_ h
  have HU := hid_ (fun k => rused_any g Q d (w.drewN k) (h.below (below_nth (Below.refl _ _) k)))
  have hr2 := h.ok.room2
  have hus := h.ok.used
  have ej1 : decide ((j : Int) < 0) = false := decide_eq_false (by omega)
  have ej2 : decide (64 ≤ j) = false := decide_eq_false (by omega)
  have ej3 : decide ((64 : Int) ≤ (j : Int)) = false := decide_eq_false (by omega)
  have ej4 : decide ((j : Int) ≥ (64 : Int)) = false := decide_eq_false (by omega)
  have e3 : IntKind.i64.wrap ((d.room : Int) - (usedF d.F : Int)) = (d.room : Int) - (usedF d.F : Int) := IntWalk.i64_in _ (by omega)
  have e4 : decide ((nb : Int) > (d.room : Int) - (usedF d.F : Int)) = true := decide_eq_true (by omega)
  have e5 : decide ((d.room : Int) - (usedF d.F : Int) < (nb : Int)) = true := decide_eq_true (by omega)
  clear h m1 m2 hd
  generalize usedF d.F = u at *
  generalize d.room = room at *
  go_enter Try.func57, Try.ntmps57
  go_wp2_with fail
  go_quiet ((go_at_call 68; exact Calls.quiet_of_same (quiet_flip (HU.out _))))
  go_wp2_with fail
  go_ret
  exact rkPost_same rfl H.out rfl (below_nth (Below.refl _ _) _)
theorem layF_ok {d : DiskD} (h : DOk d) (j : Nat) (hj : j < 64) (bs : List UInt8) (hu : usedF d.F + bs.length ≤ d.room) (hd : d.down = false) (ha : d.armed = false) : DOk (withF d (layF d.F j bs)) := by
  have := appD_ok h (j : Nat) bs
  unfold appD at this
  rw [hd] at this
  simp only [Bool.false_eq_true, if_false] at this
  rw [if_neg (by omega), if_neg (by omega)] at this
  unfold appF takeN leftN at this
  rw [ha, hd] at this
  simpa [withF, ha, hd] using this
set_option maxRecDepth 100000 in
set_option maxHeartbeats 2000000 in
theorem rappend_free (j : Nat) (hj : j < 64) (Ab : Option Addr) (nb cb : Nat) (bs : List UInt8) (hnb : nb ≤ 140737488355328) (g : Nat) (Q : Nat → Prop) (d : DiskD) (w : World) (h : Rk w g Q d) (hd : d.down = false) (ha : d.armed = false) (hf : ¬ d.room < usedF d.F + nb)
    (hb : Sl w Ab nb cb bs) (hQb : ∀ a, Ab = some a → bs ≠ [] → ¬ Q a.block) :
    Calls Try.prog 57 #[.pointer (some ⟨g, 0, none⟩), .int .i64 (j : Nat), .slice Ab nb cb] w (RkPost w g Q (.int .i64 0) (withF d (layF d.F j bs))) := by
  obtain ⟨fb, cs, V, m1, m2⟩ := h.mem
  obtain ⟨c0, c1, c2, c3, cf⟩ := rk_facts m1
  have hlen : bs.length = nb := hb.len
  rw [hd] at c3
  rw [show armedR d = -1 by unfold armedR; rw [ha]; rfl] at c2
  have HU := hid_ (fun k => rused_any g Q d (w.drewN k) (h.below (below_nth (Below.refl _ _) k)))
  have hr2 := h.ok.room2
  have hus := h.ok.used
  have hgl := m1.lt
  have hfl := m2.mem.lt
  have hal : (fileAt d.F j).all.length ≤ usedF d.F := by
    rw [← size_fileAt]
    exact size_le_used d.F hj
  have HK := hid_ (layF_ok h.ok j hj bs (by omega) hd ha)
  obtain ⟨s0, s1, s2, sf⟩ := m2.at_ j hj
  have hjj : j < 64 := hj
  have ej1 : decide ((j : Int) < 0) = false := decide_eq_false (by omega)
  have ej2 : decide (64 ≤ j) = false := decide_eq_false (by omega)
  have ej3 : decide ((64 : Int) ≤ (j : Int)) = false := decide_eq_false (by omega)
  have ej4 : decide ((j : Int) ≥ (64 : Int)) = false := decide_eq_false (by omega)
  have ej5 : (0 : Int) ≤ (j : Int) := by omega
  have ej6 : (j : Int) < 64 := by omega
  have e3 : IntKind.i64.wrap ((d.room : Int) - (usedF d.F : Int)) = (d.room : Int) - (usedF d.F : Int) := IntWalk.i64_in _ (by omega)
  have e4 : decide ((nb : Int) > (d.room : Int) - (usedF d.F : Int)) = false := decide_eq_false (by omega)
  have e5 : decide ((d.room : Int) - (usedF d.F : Int) < (nb : Int)) = false := decide_eq_false (by omega)
  have H := hid_ h
  have M1 := hid_ m1
  have M2 := hid_ m2
  have HB := hid_ hb
  have HQ := hid_ hQb
  have HL := hid_ hlen
  clear h m1 m2 hd hb hQb hlen
  generalize hu : usedF d.F = u at *
  clear hu
  generalize hrm : d.room = room at *
  clear hrm
  go_enter Try.func57, Try.ntmps57
  go_wp2_with fail
  go_quiet ((go_at_call 68; exact Calls.quiet_of_same (quiet_flip (HU.out _))))
  go_wp2_with fail
  obtain ⟨wt, hwt⟩ : ∃ wt, wt = (w.drewN nq).setCell ⟨fb, j * 3, none⟩ (.bool true) := ⟨_, rfl⟩
  rw [← hwt]
  have hz : wt.heap.size = w.heap.size := by rw [hwt]; simp
  have HT0 := hid_ (show Tn Q w wt from by rw [hwt]; exact ((Tn.refl Q w).drewN nq).set (.inl M2.out.qf) _ _)
  have Hsb := hid_ (show Sl wt Ab nb cb bs from HB.out.tn HT0.out HQ.out)
  have Hsf := hid_ (show Sl wt (V j).1 (fileAt d.F j).all.length (V j).2 (fileAt d.F j).all from by
    refine Sl.stands_at (M2.out.rd j hj) (fun a e hne => ?_)
    rw [hwt]
    exact Below.heap_setCell (w.drewN nq) ⟨fb, _, none⟩ _ _ (M2.out.blk j hj a e hne).2.2)
  have k1 : wt.cell? ⟨g, 1, none⟩ = some (.slice (some ⟨fb, 0, none⟩) 64 64) := by
    rw [hwt]
    exact (M1.out.far (p := ⟨fb, j * 3, none⟩) (fun e => M2.out.fg e.symm) (.bool true)).cell 1 _ rfl
  have k2 : wt.cell? ⟨fb, j * 3 + 1, none⟩ = some (.slice (V j).1 (fileAt d.F j).all.length (V j).2) := by
    rw [hwt]
    exact (M2.out.mem.store (j * 3) (.bool true)).cell (j * 3 + 1) _ (by rw [set_miss (by omega)]; exact M2.out.sl_ j hj)
  have kf : wt.frozen? ⟨fb, j * 3 + 1, none⟩ = false := by
    rw [hwt]
    exact (M2.out.mem.store (j * 3) (.bool true)).free (j * 3 + 1)
  have HE := hid_ (fun (A2 : Option Addr) (c2 : Nat) (w2 : World) (ho : Own wt.heap.size w2 A2 ((fileAt d.F j).all.length + nb) c2 ((fileAt d.F j).all ++ bs)) (hb : Below wt.heap.size wt w2) (W : World) (hW : W.heap = (w2.setCell ⟨fb, j * 3 + 1, none⟩ (.slice A2 ((fileAt d.F j).all.length + nb) c2)).heap) (hT : Tn Q w W) =>
    show RkPost w g Q (.int .i64 0) (withF d (layF d.F j bs)) (.returned (.int .i64 0)) W from by
      have hb' : Below (w.setCell ⟨fb, j * 3, none⟩ (.bool true)).heap.size (w.setCell ⟨fb, j * 3, none⟩ (.bool true)) w2 := by
        have : Below wt.heap.size (w.setCell ⟨fb, j * 3, none⟩ (.bool true)) wt := by rw [hwt]; exact ⟨rfl, rfl, rfl, Nat.le_refl _, fun _ _ => rfl⟩
        have h9 := this.trans hb
        rw [hz] at h9
        simpa using h9
      obtain ⟨Q', h1, h2⟩ := rapp_end (d := d) H.out M1.out M2.out j hj bs A2 _ c2 rfl (by rw [List.length_append, HL.out]) (by rw [hz] at ho; simpa using ho) hb' HK.out W hW hT
      exact rkPost_mk rfl h1 rfl hT h2)
  have HTw := hid_ (fun (w2 : World) (v : Value) (hb : Below wt.heap.size wt w2) => show Tn Q w (w2.setCell ⟨fb, j * 3 + 1, none⟩ v) from (HT0.out.then_below hb).set (.inl M2.out.qf) _ _)
  have hgt : g < wt.heap.size := by omega
  have hft : fb < wt.heap.size := by omega
  clear c0 c1 c2 c3 cf s0 s1 s2 sf HU HB HQ HL H M1 M2 HK HT0 e3 e4 e5 hwt hz
  generalize (fileAt d.F j).all = la at *
  generalize hn : la.length = n at *
  generalize (V j).1 = Af at *
  generalize (V j).2 = cf at *
  have k1d : wt.drew.cell? ⟨g, 1, none⟩ = some (.slice (some ⟨fb, 0, none⟩) 64 64) := k1
  have k2d : wt.drew.cell? ⟨fb, j * 3 + 1, none⟩ = some (.slice Af n cf) := k2
  have Hgt := hid_ hgt
  have Hft := hid_ hft
  have Hk1 := hid_ k1
  have Hk2 := hid_ k2
  have Hkf := hid_ kf
  go_region_law (first
      | (refine step_bytes (by rfl) (.tmp 78) (.tmp 86) (by rfl) wt.heap.size _ 0 0 [] (by rfl) ?_ Af n cf la (by rfl) ?_ n la (by omega) (by rfl) (by omega) ?_ ?_; (first | exact own_lit0 _ _ _ rfl (Nat.le_refl _) | exact (own_lit0 _ _ _ rfl (Nat.le_refl _)).drew); (first | exact Hsf.out.below (Below.alloc (Below.refl _ _) (Nat.le_refl _) _) | exact Hsf.out.below (Below.drew (Below.alloc (Below.refl _ _) (Nat.le_refl _) _)) | exact Hsf.out.below (Below.alloc (Below.drew (Below.refl _ _)) (Nat.le_refl _) _)); (simp); (intro A1 c1 w1 ho1 hb1; have HB1 := hid_ (show Below wt.heap.size wt w1 from (Below.alloc (Below.drew (Below.refl _ _)) (Nat.le_refl _) (.cells #[] 5)).trans hb1); have l1 : w1.cell? ⟨g, 1, none⟩ = some (.slice (some ⟨fb, 0, none⟩) 64 64) := (HB1.out.cell (p := ⟨g, 1, none⟩) Hgt.out).trans Hk1.out; clear hb1))
      | (refine step_bytes (by rfl) (.tmp 87) (.tmp 88) (by rfl) wt.heap.size A1 n c1 la (by rfl) ho1 Ab nb cb bs (by rfl) (Hsb.out.below HB1.out) (n + nb) (la ++ bs) (by rfl) (by rfl) (by omega) HB1.out.size ?_; (intro A2 c2 w2 ho2 hb2; have HB2 := hid_ (HB1.out.trans hb2); have l2 : w2.cell? ⟨g, 1, none⟩ = some (.slice (some ⟨fb, 0, none⟩) 64 64) := (HB2.out.cell (p := ⟨g, 1, none⟩) Hgt.out).trans Hk1.out; have l3 : w2.cell? ⟨fb, j * 3 + 1, none⟩ = some (.slice Af n cf) := (HB2.out.cell (p := ⟨fb, j * 3 + 1, none⟩) Hft.out).trans Hk2.out; have l4 : w2.frozen? ⟨fb, j * 3 + 1, none⟩ = false := (HB2.out.frozen (p := ⟨fb, j * 3 + 1, none⟩) Hft.out).trans Hkf.out; clear hb2))
      | fail)
  all_goals
    go_wp2_with fail
    go_ret
    first | exact HE.out _ _ _ ho2 HB2.out _ rfl (HTw.out _ _ HB2.out) | exact HE.out _ _ _ ho2 HB2.out _ rfl (HTw.out _ _ HB2.out).drew
end Dsk
end Go.Proofs.Ytalekhafkgepnaa
