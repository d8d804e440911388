/-
  The reference's Append to an armed disk.
-/
import Derived.Test.YtalekhafkgepnaaZRDiskApp2
namespace Go.Proofs.Ytalekhafkgepnaa
set_option linter.unusedSimpArgs false
set_option linter.unusedVariables false
open Go.RowKit
namespace Dsk
set_option linter.unusedSimpArgs false
set_option linter.unusedVariables false
theorem RFiles.cell {w : World} {g fb : Nat} {Q : Nat → Prop} {F : Files} {cs : Array Value} {V : Nat → Option Addr × Nat} (m2 : RFiles w g fb Q F cs V) (i : Nat) (v : Value) : RFiles (w.setCell ⟨g, i, none⟩ v) g fb Q F cs V :=
  ⟨m2.qf, m2.fg, m2.mem.far (p := ⟨g, i, none⟩) m2.fg v, m2.is_, m2.sl_, m2.fa_, fun j hj => Sl.stands_at (m2.rd j hj) (fun a e hne => Below.heap_setCell w ⟨g, i, none⟩ v _ (m2.blk j hj a e hne).2.1), m2.blk⟩
theorem RFiles.drewN {w : World} {g fb : Nat} {Q : Nat → Prop} {F : Files} {cs : Array Value} {V : Nat → Option Addr × Nat} (m2 : RFiles w g fb Q F cs V) (n : Nat) : RFiles (w.drewN n) g fb Q F cs V :=
  ⟨m2.qf, m2.fg, m2.mem, m2.is_, m2.sl_, m2.fa_, fun j hj => Sl.stands_at (m2.rd j hj) (fun _ _ _ => rfl), m2.blk⟩
/-- The disk of which so much less is left. -/
def lessD (d : DiskD) (n : Nat) : DiskD := { d with left := d.left - n }
def sunkD (d : DiskD) : DiskD := { d with left := 0, down := true }
theorem lessD_ok {d : DiskD} (h : DOk d) (n : Nat) : DOk (lessD d n) := ⟨h.room1, h.room2, h.used, h.fast, h.high, by have := h.left; show d.left - n ≤ _; omega⟩
theorem sunkD_ok {d : DiskD} (h : DOk d) : DOk (sunkD d) := ⟨h.room1, h.room2, h.used, h.fast, h.high, Nat.zero_le _⟩
theorem lay_ok {d : DiskD} (h : DOk d) {j : Nat} (hj : j < 64) (bs : List UInt8) (hu : usedF d.F + bs.length ≤ d.room) : DOk (withF d (layF d.F j bs)) := by
  refine ⟨h.room1, h.room2, ?_, lay_fast h.fast j bs, ?_, h.left⟩
  · show usedF (layF d.F j bs) ≤ d.room
    rw [used_lay _ _ hj]
    exact hu
  · intro i hi
    show layF d.F j bs i = none
    rw [layF, setF_other _ _ (by omega)]
    exact h.high i hi

set_option maxRecDepth 100000 in
set_option maxHeartbeats 2000000 in
theorem rappend_fit (j : Nat) (hj : j < 64) (Ab : Option Addr) (nb cb : Nat) (bs : List UInt8) (hnb : nb ≤ 140737488355328) (g : Nat) (Q : Nat → Prop) (d : DiskD) (w : World) (h : Rk w g Q d) (hd : d.down = false) (ha : d.armed = true) (hfit : nb ≤ d.left) (hf : ¬ d.room < usedF d.F + nb)
    (hb : Sl w Ab nb cb bs) (hQb : ∀ a, Ab = some a → bs ≠ [] → ¬ Q a.block) :
    Calls Try.prog 57 #[.pointer (some ⟨g, 0, none⟩), .int .i64 (j : Nat), .slice Ab nb cb] w (RkPost w g Q (.int .i64 0) (withF (lessD d nb) (layF d.F j (bs)))) := by
  obtain ⟨fb, cs, V, m1, m2⟩ := h.mem
  obtain ⟨c0, c1, c2, c3, cf⟩ := rk_facts m1
  have hlen : bs.length = nb := hb.len
  rw [hd] at c3
  rw [show armedR d = (d.left : Int) by unfold armedR; rw [ha]; rfl] at c2
  have HU := hid_ (fun k => rused_any g Q d (w.drewN k) (h.below (below_nth (Below.refl _ _) k)))
  have hr2 := h.ok.room2
  have hus := h.ok.used
  have hle2 := h.ok.left
  have hgl := m1.lt
  have hfl := m2.mem.lt
  have hcb := hb.cap
  have hcm := hb.max
  have hal : (fileAt d.F j).all.length ≤ usedF d.F := by
    rw [← size_fileAt]
    exact size_le_used d.F hj
  obtain ⟨s0, s1, s2, sf⟩ := m2.at_ j hj
  have hjj : j < 64 := hj
  have ej1 : decide ((j : Int) < 0) = false := decide_eq_false (by omega)
  have ej2 : decide (64 ≤ j) = false := decide_eq_false (by omega)
  have ej3 : decide ((64 : Int) ≤ (j : Int)) = false := decide_eq_false (by omega)
  have ej4 : decide ((j : Int) ≥ (64 : Int)) = false := decide_eq_false (by omega)
  have ej5 : (0 : Int) ≤ (j : Int) := by omega
  have ej6 : (j : Int) < 64 := by omega
  have e3 : IntKind.i64.wrap ((d.room : Int) - (usedF d.F : Int)) = (d.room : Int) - (usedF d.F : Int) := IntWalk.i64_in _ (by omega)
  have e4 : decide ((nb : Int) > (d.room : Int) - (usedF d.F : Int)) = false := decide_eq_false (by omega)
  have e5 : decide ((d.room : Int) - (usedF d.F : Int) < (nb : Int)) = false := decide_eq_false (by omega)
  have e6 : decide ((0 : Int) ≤ (d.left : Int)) = true := decide_eq_true (by omega)
  have e7 : decide ((d.left : Int) ≥ (0 : Int)) = true := decide_eq_true (by omega)
  have e8 : decide (d.left < nb) = false := decide_eq_false (by omega)
  have e9 : decide ((d.left : Int) < (nb : Int)) = false := decide_eq_false (by omega)
  have e10 : IntKind.i64.wrap ((d.left : Int) - (nb : Int)) = (d.left : Int) - (nb : Int) := IntWalk.i64_in _ (by omega)
  have Hsb0 : Hid (Sl w Ab (nb) cb (bs)) := hid_ hb
  have HK := hid_ (lay_ok (d := lessD d nb) (lessD_ok h.ok nb) hj (bs) (by show usedF d.F + _ ≤ d.room; omega))
  have HW := hid_ (fun (nq : Nat) => show Rk ((w.drewN nq).setCell ⟨g, 2, none⟩ (.int .i64 ((d.left : Int) - (nb : Int)))) g Q (lessD d nb) ∧ Whole ((w.drewN nq).setCell ⟨g, 2, none⟩ (.int .i64 ((d.left : Int) - (nb : Int)))) g 127 (rcells fb (lessD d nb)) ∧ RFiles ((w.drewN nq).setCell ⟨g, 2, none⟩ (.int .i64 ((d.left : Int) - (nb : Int)))) g fb Q d.F cs V ∧ Tn Q w ((w.drewN nq).setCell ⟨g, 2, none⟩ (.int .i64 ((d.left : Int) - (nb : Int)))) from by
    have a1 : Rk (w.drewN nq) g Q d := h.below (below_nth (Below.refl _ _) nq)
    have b1 : RFiles (w.drewN nq) g fb Q d.F cs V := m2.drewN nq
    have t1 : Tn Q w (w.drewN nq) := (Tn.refl Q w).drewN nq
    have hc : armedR (lessD d nb) = (d.left : Int) - (nb : Int) := by
      unfold armedR lessD
      simp only [ha, if_true]
      omega
    have hcs : ∀ fb, (rcells fb d).setIfInBounds 2 (.int .i64 ((d.left : Int) - (nb : Int))) = rcells fb (lessD d nb) := fun fb => by
      show (#[_, _, _, _] : Array Value) = _
      unfold rcells
      rw [hc]
      rfl
    refine ⟨a1.cell (lessD_ok h.ok nb) rfl 2 _ hcs, ?_, b1.cell 2 _, t1.set (.inl h.qg) 2 _⟩
    have := (show Whole (w.drewN nq) g 127 (rcells fb d) from m1).store 2 (.int .i64 ((d.left : Int) - (nb : Int)))
    rw [hcs] at this
    exact this)
  have H := hid_ h
  have HB := hid_ hb
  have HQ : Hid (∀ a, Ab = some a → (bs) ≠ [] → ¬ Q a.block) := hid_ hQb
  have HL : Hid ((bs).length = nb) := hid_ hlen
  have HFG := hid_ m2.fg
  have HQF := hid_ m2.qf
  have hfg2 : fb ≠ g := m2.fg
  have hfg3 : g ≠ fb := fun e => hfg2 e.symm
  clear h m1 m2 hd hb hQb hlen
  generalize hdL : d.left = dl at *
  clear hdL
  generalize hu : usedF d.F = u at *
  clear hu
  generalize hrm : d.room = room at *
  clear hrm
  go_enter Try.func57, Try.ntmps57
  go_wp2_with fail
  go_quiet ((go_at_call 68; exact Calls.quiet_of_same (quiet_flip (HU.out _))))
  go_wp2_with fail
  obtain ⟨HR0, HW0, HF0, HT00⟩ := HW.out nq
  have HR := hid_ HR0
  have M1 := hid_ HW0
  have M2 := hid_ HF0
  have HTA := hid_ HT00
  clear HR0 HW0 HF0 HT00 HW
  obtain ⟨w0, hw0⟩ : ∃ w0, w0 = (w.drewN nq).setCell ⟨g, 2, none⟩ (.int .i64 ((dl : Int) - (nb : Int))) := ⟨_, rfl⟩
  rw [← hw0] at HR M1 M2 HTA ⊢
  have hz0 : w0.heap.size = w.heap.size := by rw [hw0]; simp
  clear hw0
  obtain ⟨wt, hwt⟩ : ∃ wt, wt = w0.setCell ⟨fb, j * 3, none⟩ (.bool true) := ⟨_, rfl⟩
  rw [← hwt]
  have hz : wt.heap.size = w.heap.size := by rw [hwt]; simp [hz0]
  have HT1 := hid_ (show Tn Q w0 wt from by rw [hwt]; exact (Tn.refl Q w0).set (.inl HQF.out) _ _)
  have HT0 := hid_ (show Tn Q w wt from by rw [hwt]; exact HTA.out.set (.inl HQF.out) _ _)
  have Hsb := hid_ (show Sl wt Ab (nb) cb (bs) from Hsb0.out.tn HT0.out HQ.out)
  have Hsf := hid_ (show Sl wt (V j).1 (fileAt d.F j).all.length (V j).2 (fileAt d.F j).all from by
    refine Sl.stands_at (M2.out.rd j hj) (fun a e hne => ?_)
    rw [hwt]
    exact Below.heap_setCell w0 ⟨fb, _, none⟩ _ _ (M2.out.blk j hj a e hne).2.2)
  have k1 : wt.cell? ⟨g, 1, none⟩ = some (.slice (some ⟨fb, 0, none⟩) 64 64) := by
    rw [hwt]
    exact (M1.out.far (p := ⟨fb, j * 3, none⟩) (fun e => HFG.out e.symm) (.bool true)).cell 1 _ rfl
  have k2 : wt.cell? ⟨fb, j * 3 + 1, none⟩ = some (.slice (V j).1 (fileAt d.F j).all.length (V j).2) := by
    rw [hwt]
    exact (M2.out.mem.store (j * 3) (.bool true)).cell (j * 3 + 1) _ (by rw [set_miss (by omega)]; exact M2.out.sl_ j hj)
  have kf : wt.frozen? ⟨fb, j * 3 + 1, none⟩ = false := by
    rw [hwt]
    exact (M2.out.mem.store (j * 3) (.bool true)).free (j * 3 + 1)
  have HE := hid_ (fun (A2 : Option Addr) (c2 : Nat) (w2 : World) (ho : Own wt.heap.size w2 A2 ((fileAt d.F j).all.length + (nb)) c2 ((fileAt d.F j).all ++ (bs))) (hb : Below wt.heap.size wt w2) (W : World) (hW : W.heap = (w2.setCell ⟨fb, j * 3 + 1, none⟩ (.slice A2 ((fileAt d.F j).all.length + (nb)) c2)).heap) (hT : Tn Q w W) (hT2 : Tn Q w0 W) =>
    show RkPost w g Q (.int .i64 0) (withF (lessD d nb) (layF d.F j (bs))) (.returned (.int .i64 0)) W from by
      have hb' : Below (w0.setCell ⟨fb, j * 3, none⟩ (.bool true)).heap.size (w0.setCell ⟨fb, j * 3, none⟩ (.bool true)) w2 := by
        rw [← hwt]; exact hb
      obtain ⟨Q', h1, h2⟩ := rapp_end (d := lessD d nb) (dt := lessD d nb) HR.out M1.out M2.out j hj (bs) A2 _ c2 hwt (by rw [List.length_append, HL.out]; rfl) ho (by rw [hwt]; exact hb') HK.out W hW hT2
      exact rkPost_mk rfl h1 rfl hT (fun q hq => by rcases h2 q hq with h3 | h3; exact .inl h3; exact .inr (by omega)))
  have HTw := hid_ (fun (w2 : World) (v : Value) (hb : Below wt.heap.size wt w2) => show Tn Q w (w2.setCell ⟨fb, j * 3 + 1, none⟩ v) from (HT0.out.then_below hb).set (.inl HQF.out) _ _)
  have HTv := hid_ (fun (w2 : World) (v : Value) (hb : Below wt.heap.size wt w2) => show Tn Q w0 (w2.setCell ⟨fb, j * 3 + 1, none⟩ v) from (HT1.out.then_below hb).set (.inl HQF.out) _ _)
  have hgt : g < wt.heap.size := by omega
  have hft : fb < wt.heap.size := by omega
  clear c0 c1 c2 c3 cf s0 s1 s2 sf HU HB HQ HL H M1 M2 HK HT0 HT1 HR HTA e3 e4 e5 hwt hz hz0 Hsb0 hcb hcm
  generalize (fileAt d.F j).all = la at *
  generalize hn : la.length = n at *
  generalize (V j).1 = Af at *
  generalize (V j).2 = cf at *
  have k1d : wt.drew.cell? ⟨g, 1, none⟩ = some (.slice (some ⟨fb, 0, none⟩) 64 64) := k1
  have k2d : wt.drew.cell? ⟨fb, j * 3 + 1, none⟩ = some (.slice Af n cf) := k2
  have Hgt := hid_ hgt
  have Hft := hid_ hft
  have Hk1 := hid_ k1
  have Hk2 := hid_ k2
  have Hkf := hid_ kf
  go_region_law (first
      | (refine step_bytes (by rfl) (.tmp 78) (.tmp 86) (by rfl) wt.heap.size _ 0 0 [] (by rfl) ?_ Af n cf la (by rfl) ?_ n la (by omega) (by rfl) (by omega) ?_ ?_; (first | exact own_lit0 _ _ _ rfl (Nat.le_refl _) | exact (own_lit0 _ _ _ rfl (Nat.le_refl _)).drew); (first | exact Hsf.out.below (Below.alloc (Below.refl _ _) (Nat.le_refl _) _) | exact Hsf.out.below (Below.drew (Below.alloc (Below.refl _ _) (Nat.le_refl _) _)) | exact Hsf.out.below (Below.alloc (Below.drew (Below.refl _ _)) (Nat.le_refl _) _)); (simp); (intro A1 c1 w1 ho1 hb1; have HB1 := hid_ (show Below wt.heap.size wt w1 from (Below.alloc (Below.drew (Below.refl _ _)) (Nat.le_refl _) (.cells #[] 5)).trans hb1); have l1 : w1.cell? ⟨g, 1, none⟩ = some (.slice (some ⟨fb, 0, none⟩) 64 64) := (HB1.out.cell (p := ⟨g, 1, none⟩) Hgt.out).trans Hk1.out; clear hb1))
      | (refine step_bytes (by rfl) (.tmp 87) (.tmp 88) (by rfl) wt.heap.size A1 n c1 la (by rfl) ho1 Ab (nb) cb (bs) (by rfl) (Hsb.out.below HB1.out) (n + (nb)) (la ++ (bs)) (by rfl) (by rfl) (by omega) HB1.out.size ?_; (intro A2 c2 w2 ho2 hb2; have HB2 := hid_ (HB1.out.trans hb2); have l2 : w2.cell? ⟨g, 1, none⟩ = some (.slice (some ⟨fb, 0, none⟩) 64 64) := (HB2.out.cell (p := ⟨g, 1, none⟩) Hgt.out).trans Hk1.out; have l3 : w2.cell? ⟨fb, j * 3 + 1, none⟩ = some (.slice Af n cf) := (HB2.out.cell (p := ⟨fb, j * 3 + 1, none⟩) Hft.out).trans Hk2.out; have l4 : w2.frozen? ⟨fb, j * 3 + 1, none⟩ = false := (HB2.out.frozen (p := ⟨fb, j * 3 + 1, none⟩) Hft.out).trans Hkf.out; clear hb2))
      | fail)
  all_goals
    go_wp2_with fail
    go_ret
    first | exact HE.out _ _ _ ho2 HB2.out _ rfl (HTw.out _ _ HB2.out) (HTv.out _ _ HB2.out) | exact HE.out _ _ _ ho2 HB2.out _ rfl (HTw.out _ _ HB2.out).drew (HTv.out _ _ HB2.out).drew
end Dsk
end Go.Proofs.Ytalekhafkgepnaa
