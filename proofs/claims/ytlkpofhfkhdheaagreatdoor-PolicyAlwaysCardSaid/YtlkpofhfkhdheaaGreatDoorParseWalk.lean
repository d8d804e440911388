/-
  What parseLine answers to the line of a rule that is one.
-/
import Derived.Test.YtlkpofhfkhdheaaGreatDoorParseLine
import Derived.Test.YtlkpofhfkhdheaaGreatDoorWhole
namespace Go.Proofs.YtlkpofhfkhdheaaGreatDoor
open Go.RowKit Ru
def LineIs (w : World) (r : RuleD) (e : Ending) (w' : World) : Prop := e = .returned (.tuple #[ruleVal r, .bool true]) ∧ Below w.heap.size w w'
theorem empty_size : (⟨#[]⟩ : ByteArray).size ≤ 9223372036854775807 := by decide

set_option maxHeartbeats 8000000 in
theorem line_bare (kp : Bool) (wh : ByteArray) (w : World) (hf : formN (whatF wh) = 1) (hok : ruleOk ⟨kp, wh, 0, ⟨#[]⟩⟩ = true) (htab : PowsB w) :
    Calls Tryz.prog 30 #[.string (verbS kp ++ wh)] w (LineIs w ⟨kp, wh, 0, ⟨#[]⟩⟩) := by
  have hno := what_of_form (s := wh) (by omega)
  have hz := what_size hno
  have hwf : (⟨kp, wh, 0, ⟨#[]⟩⟩ : RuleD).Wf := ⟨(by decide : 0 < 18446744073709551616), (by omega : wh.size ≤ 9223372036854775807), (empty_size : (⟨#[]⟩ : ByteArray).size ≤ 9223372036854775807)⟩
  have Hc1 := hid_ (fun W => cut_hit (verbS kp ++ wh) _ wh W (parted_verb kp wh) (by rw [verb_size]; omega))
  have Hc2 := hid_ (fun W => cut_miss wh W (what_blank hno))
  have Hf := hid_ (fun W => (form_any wh W))
  rw [hf] at Hf
  have Hr := hid_ (fun W => right_any ⟨kp, wh, 0, ⟨#[]⟩⟩ W hwf)
  rw [hok] at Hr
  have Hl : Hid (lineS ⟨kp, wh, 0, ⟨#[]⟩⟩ = verbS kp ++ wh) := hid_ (by unfold lineS; rw [hf]; first | rfl | (unfold lineN; rw [if_neg (by decide), if_pos rfl]; rw [ba_assoc]) | (unfold lineN; rw [if_pos rfl]; rw [ba_assoc]))
  have Hs := hid_ (fun W (h : Below w.heap.size w W) => show_any ⟨kp, wh, 0, ⟨#[]⟩⟩ W hwf (by show wh.size ≤ 10000; omega) (by show (⟨#[]⟩ : ByteArray).size ≤ 10000; decide) (htab.later h))
  rw [Hl.out] at Hs
  clear hf hok htab hno hz hwf
  generalize verbS kp ++ wh = ln at *
  cases kp
  · go_enter Tryz.func30, Tryz.ntmps30
    go_wp2_with fail
    refine Calls.mono (Hc1.out _) ?_
    rintro e w' ⟨rfl, n, rfl⟩
    go_wp2_with fail
    refine Calls.mono (Hc2.out _) ?_
    rintro e w' ⟨rfl, n2, rfl⟩
    go_wp2_with (go_at_call 31; (with_reducible refine Calls.mono (Hf.out _) ?_); rintro e w' ⟨rfl, rfl⟩)
    refine Calls.mono (Hr.out _) ?_
    rintro e w1 ⟨rfl, hb1⟩
    have Hres : Hid (Whole w1 w.heap.size 49 #[.bool false, .string ⟨#[]⟩, .int .u64 0, .string ⟨#[]⟩]) := hid_ (Whole.below (by repeat (first | exact whole_new _ _ _ | (refine whole_at _ _ _ _ ?_; simp; done) | refine Whole.alloc ?_ _ | refine Whole.drewN ?_ _)) hb1 (by simp; omega))
    have Hbox : Hid (Whole w1 (w.heap.size + 1) 49 #[.bool false, .string wh, .int .u64 (0), .string ⟨#[]⟩]) := hid_ (Whole.below (by repeat (first | exact whole_new _ _ _ | (refine whole_at _ _ _ _ ?_; simp; done) | refine Whole.alloc ?_ _ | refine Whole.drewN ?_ _)) hb1 (by simp))
    have Hb1 := hid_ (show Below w.heap.size w w1 from Below.trans (by repeat (first | exact Below.refl _ _ | assumption | apply Below.drew | apply below_drewN | refine Below.alloc ?_ (by simp) _)) (hb1.mono (by simp; omega)))
    clear hb1
    have l0 := Hbox.out.cell 0 _ rfl
    have l1 := Hbox.out.cell 1 _ rfl
    have l2 := Hbox.out.cell 2 _ rfl
    have l3 := Hbox.out.cell 3 _ rfl
    go_wp2_with fail
    refine Calls.mono (Hs.out _ Hb1.out) ?_
    rintro e w2 ⟨rfl, hb2⟩
    clear l0 l1 l2 l3
    have l0 := (Hbox.out.below hb2 Hbox.out.lt).cell 0 _ rfl
    have l1 := (Hbox.out.below hb2 Hbox.out.lt).cell 1 _ rfl
    have l2 := (Hbox.out.below hb2 Hbox.out.lt).cell 2 _ rfl
    have l3 := (Hbox.out.below hb2 Hbox.out.lt).cell 3 _ rfl
    have r0 := (Hres.out.below hb2 Hres.out.lt).cell 0 _ rfl
    have r1 := (Hres.out.below hb2 Hres.out.lt).cell 1 _ rfl
    have r2 := (Hres.out.below hb2 Hres.out.lt).cell 2 _ rfl
    have r3 := (Hres.out.below hb2 Hres.out.lt).cell 3 _ rfl
    have f0 := (Hres.out.below hb2 Hres.out.lt).free 0
    have f1 := (Hres.out.below hb2 Hres.out.lt).free 1
    have f2 := (Hres.out.below hb2 Hres.out.lt).free 2
    have f3 := (Hres.out.below hb2 Hres.out.lt).free 3
    have Hy : Hid (Whole ((((w2.setCell ⟨w.heap.size, 0, none⟩ (.bool false)).setCell ⟨w.heap.size, 1, none⟩ (.string wh)).setCell ⟨w.heap.size, 2, none⟩ (.int .u64 (0))).setCell ⟨w.heap.size, 3, none⟩ (.string ⟨#[]⟩)) w.heap.size 49 #[.bool false, .string wh, .int .u64 (0), .string ⟨#[]⟩]) := hid_ (whole_put4 (Hres.out.below hb2 Hres.out.lt) (.bool false) (.string wh) (.int .u64 (0)) (.string ⟨#[]⟩))
    have Hb3 : Hid (Below w.heap.size w ((((w2.setCell ⟨w.heap.size, 0, none⟩ (.bool false)).setCell ⟨w.heap.size, 1, none⟩ (.string wh)).setCell ⟨w.heap.size, 2, none⟩ (.int .u64 (0))).setCell ⟨w.heap.size, 3, none⟩ (.string ⟨#[]⟩))) := hid_ (below_put4 (Hb1.out.trans (hb2.mono Hb1.out.size)) (Nat.le_refl w.heap.size) (.bool false) (.string wh) (.int .u64 (0)) (.string ⟨#[]⟩))
    have hne : (ln.toList != ln.toList) = false := by simp
    clear hb2
    go_wp2_with fail
    generalize (((w2.setCell ⟨w.heap.size, 0, none⟩ (.bool false)).setCell ⟨w.heap.size, 1, none⟩ (.string wh)).setCell ⟨w.heap.size, 2, none⟩ (.int .u64 (0))).setCell ⟨w.heap.size, 3, none⟩ (.string ⟨#[]⟩) = W3 at Hy Hb3 ⊢
    have y0 := Hy.out.cell 0 _ rfl
    have y1 := Hy.out.cell 1 _ rfl
    have y2 := Hy.out.cell 2 _ rfl
    have y3 := Hy.out.cell 3 _ rfl
    exact bodyPost_ret (v := .tuple #[.agg #[.bool false, .string wh, .int .u64 (0), .string ⟨#[]⟩], .bool true]) (by simp [results, Tryz.results30, go_sem, y0, y1, y2, y3]) rfl ⟨rfl, Hb3.out⟩
  · go_enter Tryz.func30, Tryz.ntmps30
    go_wp2_with fail
    refine Calls.mono (Hc1.out _) ?_
    rintro e w' ⟨rfl, n, rfl⟩
    go_wp2_with fail
    refine Calls.mono (Hc2.out _) ?_
    rintro e w' ⟨rfl, n2, rfl⟩
    go_wp2_with (go_at_call 31; (with_reducible refine Calls.mono (Hf.out _) ?_); rintro e w' ⟨rfl, rfl⟩)
    refine Calls.mono (Hr.out _) ?_
    rintro e w1 ⟨rfl, hb1⟩
    have Hres : Hid (Whole w1 w.heap.size 49 #[.bool false, .string ⟨#[]⟩, .int .u64 0, .string ⟨#[]⟩]) := hid_ (Whole.below (by repeat (first | exact whole_new _ _ _ | (refine whole_at _ _ _ _ ?_; simp; done) | refine Whole.alloc ?_ _ | refine Whole.drewN ?_ _)) hb1 (by simp; omega))
    have Hbox : Hid (Whole w1 (w.heap.size + 1) 49 #[.bool true, .string wh, .int .u64 (0), .string ⟨#[]⟩]) := hid_ (Whole.below (by repeat (first | exact whole_new _ _ _ | (refine whole_at _ _ _ _ ?_; simp; done) | refine Whole.alloc ?_ _ | refine Whole.drewN ?_ _)) hb1 (by simp))
    have Hb1 := hid_ (show Below w.heap.size w w1 from Below.trans (by repeat (first | exact Below.refl _ _ | assumption | apply Below.drew | apply below_drewN | refine Below.alloc ?_ (by simp) _)) (hb1.mono (by simp; omega)))
    clear hb1
    have l0 := Hbox.out.cell 0 _ rfl
    have l1 := Hbox.out.cell 1 _ rfl
    have l2 := Hbox.out.cell 2 _ rfl
    have l3 := Hbox.out.cell 3 _ rfl
    go_wp2_with fail
    refine Calls.mono (Hs.out _ Hb1.out) ?_
    rintro e w2 ⟨rfl, hb2⟩
    clear l0 l1 l2 l3
    have l0 := (Hbox.out.below hb2 Hbox.out.lt).cell 0 _ rfl
    have l1 := (Hbox.out.below hb2 Hbox.out.lt).cell 1 _ rfl
    have l2 := (Hbox.out.below hb2 Hbox.out.lt).cell 2 _ rfl
    have l3 := (Hbox.out.below hb2 Hbox.out.lt).cell 3 _ rfl
    have r0 := (Hres.out.below hb2 Hres.out.lt).cell 0 _ rfl
    have r1 := (Hres.out.below hb2 Hres.out.lt).cell 1 _ rfl
    have r2 := (Hres.out.below hb2 Hres.out.lt).cell 2 _ rfl
    have r3 := (Hres.out.below hb2 Hres.out.lt).cell 3 _ rfl
    have f0 := (Hres.out.below hb2 Hres.out.lt).free 0
    have f1 := (Hres.out.below hb2 Hres.out.lt).free 1
    have f2 := (Hres.out.below hb2 Hres.out.lt).free 2
    have f3 := (Hres.out.below hb2 Hres.out.lt).free 3
    have Hy : Hid (Whole ((((w2.setCell ⟨w.heap.size, 0, none⟩ (.bool true)).setCell ⟨w.heap.size, 1, none⟩ (.string wh)).setCell ⟨w.heap.size, 2, none⟩ (.int .u64 (0))).setCell ⟨w.heap.size, 3, none⟩ (.string ⟨#[]⟩)) w.heap.size 49 #[.bool true, .string wh, .int .u64 (0), .string ⟨#[]⟩]) := hid_ (whole_put4 (Hres.out.below hb2 Hres.out.lt) (.bool true) (.string wh) (.int .u64 (0)) (.string ⟨#[]⟩))
    have Hb3 : Hid (Below w.heap.size w ((((w2.setCell ⟨w.heap.size, 0, none⟩ (.bool true)).setCell ⟨w.heap.size, 1, none⟩ (.string wh)).setCell ⟨w.heap.size, 2, none⟩ (.int .u64 (0))).setCell ⟨w.heap.size, 3, none⟩ (.string ⟨#[]⟩))) := hid_ (below_put4 (Hb1.out.trans (hb2.mono Hb1.out.size)) (Nat.le_refl w.heap.size) (.bool true) (.string wh) (.int .u64 (0)) (.string ⟨#[]⟩))
    have hne : (ln.toList != ln.toList) = false := by simp
    clear hb2
    go_wp2_with fail
    generalize (((w2.setCell ⟨w.heap.size, 0, none⟩ (.bool true)).setCell ⟨w.heap.size, 1, none⟩ (.string wh)).setCell ⟨w.heap.size, 2, none⟩ (.int .u64 (0))).setCell ⟨w.heap.size, 3, none⟩ (.string ⟨#[]⟩) = W3 at Hy Hb3 ⊢
    have y0 := Hy.out.cell 0 _ rfl
    have y1 := Hy.out.cell 1 _ rfl
    have y2 := Hy.out.cell 2 _ rfl
    have y3 := Hy.out.cell 3 _ rfl
    exact bodyPost_ret (v := .tuple #[.agg #[.bool true, .string wh, .int .u64 (0), .string ⟨#[]⟩], .bool true]) (by simp [results, Tryz.results30, go_sem, y0, y1, y2, y3]) rfl ⟨rfl, Hb3.out⟩

set_option maxHeartbeats 8000000 in
theorem line_num (kp : Bool) (wh : ByteArray) (nm : Nat) (hnm : nm < 18446744073709551616) (w : World) (hf : formN (whatF wh) = 2) (hok : ruleOk ⟨kp, wh, nm, ⟨#[]⟩⟩ = true) (htab : PowsB w) :
    Calls Tryz.prog 30 #[.string (verbS kp ++ (wh ++ (⟨#[32]⟩ ++ digitsS nm)))] w (LineIs w ⟨kp, wh, nm, ⟨#[]⟩⟩) := by
  have hno := what_of_form (s := wh) (by omega)
  have hz := what_size hno
  have hwf : (⟨kp, wh, nm, ⟨#[]⟩⟩ : RuleD).Wf := ⟨(hnm : nm < 18446744073709551616), (by omega : wh.size ≤ 9223372036854775807), (empty_size : (⟨#[]⟩ : ByteArray).size ≤ 9223372036854775807)⟩
  have hds := digits_size nm hnm
  have Hc1 := hid_ (fun W => cut_hit (verbS kp ++ (wh ++ (⟨#[32]⟩ ++ digitsS nm))) _ _ W (parted_verb kp _) (by rw [verb_size, parted_size (parted_what hno _)]; omega))
  have Hc2 := hid_ (fun W => cut_hit (wh ++ (⟨#[32]⟩ ++ digitsS nm)) wh _ W (parted_what hno _) (by rw [parted_size (parted_what hno _)]; omega))
  have Hp := hid_ (fun W => parseuint_any nm W hnm)
  have Hf := hid_ (fun W => (form_any wh W))
  rw [hf] at Hf
  have Hr := hid_ (fun W => right_any ⟨kp, wh, nm, ⟨#[]⟩⟩ W hwf)
  rw [hok] at Hr
  have Hl : Hid (lineS ⟨kp, wh, nm, ⟨#[]⟩⟩ = verbS kp ++ (wh ++ (⟨#[32]⟩ ++ digitsS nm))) := hid_ (by unfold lineS; rw [hf]; first | rfl | (unfold lineN; rw [if_neg (by decide), if_pos rfl]; rw [ba_assoc]) | (unfold lineN; rw [if_pos rfl]; rw [ba_assoc]))
  have Hs := hid_ (fun W (h : Below w.heap.size w W) => show_any ⟨kp, wh, nm, ⟨#[]⟩⟩ W hwf (by show wh.size ≤ 10000; omega) (by show (⟨#[]⟩ : ByteArray).size ≤ 10000; decide) (htab.later h))
  rw [Hl.out] at Hs
  clear hf hok htab hno hz hwf
  generalize verbS kp ++ (wh ++ (⟨#[32]⟩ ++ digitsS nm)) = ln at *
  generalize wh ++ (⟨#[32]⟩ ++ digitsS nm) = rest at *
  generalize digitsS nm = dg at *
  cases kp
  · go_enter Tryz.func30, Tryz.ntmps30
    go_wp2_with fail
    refine Calls.mono (Hc1.out _) ?_
    rintro e w' ⟨rfl, n, rfl⟩
    go_wp2_with fail
    refine Calls.mono (Hc2.out _) ?_
    rintro e w' ⟨rfl, n2, rfl⟩
    go_wp2_with (go_at_call 31; (with_reducible refine Calls.mono (Hf.out _) ?_); rintro e w' ⟨rfl, rfl⟩)
    refine Calls.mono (Hp.out _) ?_
    rintro e w0 ⟨rfl, hb0⟩
    have Hres0 : Hid (Whole w0 w.heap.size 49 #[.bool false, .string ⟨#[]⟩, .int .u64 0, .string ⟨#[]⟩]) := hid_ (Whole.below (by repeat (first | exact whole_new _ _ _ | (refine whole_at _ _ _ _ ?_; simp; done) | refine Whole.alloc ?_ _ | refine Whole.drewN ?_ _)) hb0 (by simp; omega))
    have Hbox0 : Hid (Whole w0 (w.heap.size + 1) 49 #[.bool false, .string wh, .int .u64 0, .string ⟨#[]⟩]) := hid_ (Whole.below (by repeat (first | exact whole_new _ _ _ | (refine whole_at _ _ _ _ ?_; simp; done) | refine Whole.alloc ?_ _ | refine Whole.drewN ?_ _)) hb0 (by simp))
    have Ha0 := hid_ (show Below w.heap.size w w0 from Below.trans (by repeat (first | exact Below.refl _ _ | assumption | apply Below.drew | apply below_drewN | refine Below.alloc ?_ (by simp) _)) (hb0.mono (by simp; omega)))
    clear hb0
    have f2 := Hbox0.out.free 2
    have k0 := Hbox0.out.cell 0 _ rfl
    have k1 := Hbox0.out.cell 1 _ rfl
    have k2 := Hbox0.out.cell 2 _ rfl
    have k3 := Hbox0.out.cell 3 _ rfl
    have Hres1 := hid_ (Hres0.out.far (p := ⟨w.heap.size + 1, 2, none⟩) (by simp) (.int .u64 (nm : Nat)))
    have Hbox1 := hid_ (Hbox0.out.store 2 (.int .u64 (nm : Nat)))
    have Ha1 := hid_ (Ha0.out.setCell (p := ⟨w.heap.size + 1, 2, none⟩) (by simp) (.int .u64 (nm : Nat)))
    go_wp2_with fail
    refine Calls.mono (Hr.out _) ?_
    rintro e w1 ⟨rfl, hb1⟩
    have Hres : Hid (Whole w1 w.heap.size 49 #[.bool false, .string ⟨#[]⟩, .int .u64 0, .string ⟨#[]⟩]) := hid_ (Hres1.out.below hb1 Hres1.out.lt)
    have Hbox : Hid (Whole w1 (w.heap.size + 1) 49 #[.bool false, .string wh, .int .u64 ((nm : Nat)), .string ⟨#[]⟩]) := hid_ (Hbox1.out.below hb1 Hbox1.out.lt)
    have Hb1 := hid_ (Ha1.out.trans (hb1.mono Ha1.out.size))
    clear hb1 k0 k1 k2 k3 f2
    have l0 := Hbox.out.cell 0 _ rfl
    have l1 := Hbox.out.cell 1 _ rfl
    have l2 := Hbox.out.cell 2 _ rfl
    have l3 := Hbox.out.cell 3 _ rfl
    go_wp2_with fail
    refine Calls.mono (Hs.out _ Hb1.out) ?_
    rintro e w2 ⟨rfl, hb2⟩
    clear l0 l1 l2 l3
    have l0 := (Hbox.out.below hb2 Hbox.out.lt).cell 0 _ rfl
    have l1 := (Hbox.out.below hb2 Hbox.out.lt).cell 1 _ rfl
    have l2 := (Hbox.out.below hb2 Hbox.out.lt).cell 2 _ rfl
    have l3 := (Hbox.out.below hb2 Hbox.out.lt).cell 3 _ rfl
    have r0 := (Hres.out.below hb2 Hres.out.lt).cell 0 _ rfl
    have r1 := (Hres.out.below hb2 Hres.out.lt).cell 1 _ rfl
    have r2 := (Hres.out.below hb2 Hres.out.lt).cell 2 _ rfl
    have r3 := (Hres.out.below hb2 Hres.out.lt).cell 3 _ rfl
    have f0 := (Hres.out.below hb2 Hres.out.lt).free 0
    have f1 := (Hres.out.below hb2 Hres.out.lt).free 1
    have f2 := (Hres.out.below hb2 Hres.out.lt).free 2
    have f3 := (Hres.out.below hb2 Hres.out.lt).free 3
    have Hy : Hid (Whole ((((w2.setCell ⟨w.heap.size, 0, none⟩ (.bool false)).setCell ⟨w.heap.size, 1, none⟩ (.string wh)).setCell ⟨w.heap.size, 2, none⟩ (.int .u64 ((nm : Nat)))).setCell ⟨w.heap.size, 3, none⟩ (.string ⟨#[]⟩)) w.heap.size 49 #[.bool false, .string wh, .int .u64 ((nm : Nat)), .string ⟨#[]⟩]) := hid_ (whole_put4 (Hres.out.below hb2 Hres.out.lt) (.bool false) (.string wh) (.int .u64 ((nm : Nat))) (.string ⟨#[]⟩))
    have Hb3 : Hid (Below w.heap.size w ((((w2.setCell ⟨w.heap.size, 0, none⟩ (.bool false)).setCell ⟨w.heap.size, 1, none⟩ (.string wh)).setCell ⟨w.heap.size, 2, none⟩ (.int .u64 ((nm : Nat)))).setCell ⟨w.heap.size, 3, none⟩ (.string ⟨#[]⟩))) := hid_ (below_put4 (Hb1.out.trans (hb2.mono Hb1.out.size)) (Nat.le_refl w.heap.size) (.bool false) (.string wh) (.int .u64 ((nm : Nat))) (.string ⟨#[]⟩))
    have hne : (ln.toList != ln.toList) = false := by simp
    clear hb2
    go_wp2_with fail
    generalize (((w2.setCell ⟨w.heap.size, 0, none⟩ (.bool false)).setCell ⟨w.heap.size, 1, none⟩ (.string wh)).setCell ⟨w.heap.size, 2, none⟩ (.int .u64 ((nm : Nat)))).setCell ⟨w.heap.size, 3, none⟩ (.string ⟨#[]⟩) = W3 at Hy Hb3 ⊢
    have y0 := Hy.out.cell 0 _ rfl
    have y1 := Hy.out.cell 1 _ rfl
    have y2 := Hy.out.cell 2 _ rfl
    have y3 := Hy.out.cell 3 _ rfl
    exact bodyPost_ret (v := .tuple #[.agg #[.bool false, .string wh, .int .u64 ((nm : Nat)), .string ⟨#[]⟩], .bool true]) (by simp [results, Tryz.results30, go_sem, y0, y1, y2, y3]) rfl ⟨rfl, Hb3.out⟩
  · go_enter Tryz.func30, Tryz.ntmps30
    go_wp2_with fail
    refine Calls.mono (Hc1.out _) ?_
    rintro e w' ⟨rfl, n, rfl⟩
    go_wp2_with fail
    refine Calls.mono (Hc2.out _) ?_
    rintro e w' ⟨rfl, n2, rfl⟩
    go_wp2_with (go_at_call 31; (with_reducible refine Calls.mono (Hf.out _) ?_); rintro e w' ⟨rfl, rfl⟩)
    refine Calls.mono (Hp.out _) ?_
    rintro e w0 ⟨rfl, hb0⟩
    have Hres0 : Hid (Whole w0 w.heap.size 49 #[.bool false, .string ⟨#[]⟩, .int .u64 0, .string ⟨#[]⟩]) := hid_ (Whole.below (by repeat (first | exact whole_new _ _ _ | (refine whole_at _ _ _ _ ?_; simp; done) | refine Whole.alloc ?_ _ | refine Whole.drewN ?_ _)) hb0 (by simp; omega))
    have Hbox0 : Hid (Whole w0 (w.heap.size + 1) 49 #[.bool true, .string wh, .int .u64 0, .string ⟨#[]⟩]) := hid_ (Whole.below (by repeat (first | exact whole_new _ _ _ | (refine whole_at _ _ _ _ ?_; simp; done) | refine Whole.alloc ?_ _ | refine Whole.drewN ?_ _)) hb0 (by simp))
    have Ha0 := hid_ (show Below w.heap.size w w0 from Below.trans (by repeat (first | exact Below.refl _ _ | assumption | apply Below.drew | apply below_drewN | refine Below.alloc ?_ (by simp) _)) (hb0.mono (by simp; omega)))
    clear hb0
    have f2 := Hbox0.out.free 2
    have k0 := Hbox0.out.cell 0 _ rfl
    have k1 := Hbox0.out.cell 1 _ rfl
    have k2 := Hbox0.out.cell 2 _ rfl
    have k3 := Hbox0.out.cell 3 _ rfl
    have Hres1 := hid_ (Hres0.out.far (p := ⟨w.heap.size + 1, 2, none⟩) (by simp) (.int .u64 (nm : Nat)))
    have Hbox1 := hid_ (Hbox0.out.store 2 (.int .u64 (nm : Nat)))
    have Ha1 := hid_ (Ha0.out.setCell (p := ⟨w.heap.size + 1, 2, none⟩) (by simp) (.int .u64 (nm : Nat)))
    go_wp2_with fail
    refine Calls.mono (Hr.out _) ?_
    rintro e w1 ⟨rfl, hb1⟩
    have Hres : Hid (Whole w1 w.heap.size 49 #[.bool false, .string ⟨#[]⟩, .int .u64 0, .string ⟨#[]⟩]) := hid_ (Hres1.out.below hb1 Hres1.out.lt)
    have Hbox : Hid (Whole w1 (w.heap.size + 1) 49 #[.bool true, .string wh, .int .u64 ((nm : Nat)), .string ⟨#[]⟩]) := hid_ (Hbox1.out.below hb1 Hbox1.out.lt)
    have Hb1 := hid_ (Ha1.out.trans (hb1.mono Ha1.out.size))
    clear hb1 k0 k1 k2 k3 f2
    have l0 := Hbox.out.cell 0 _ rfl
    have l1 := Hbox.out.cell 1 _ rfl
    have l2 := Hbox.out.cell 2 _ rfl
    have l3 := Hbox.out.cell 3 _ rfl
    go_wp2_with fail
    refine Calls.mono (Hs.out _ Hb1.out) ?_
    rintro e w2 ⟨rfl, hb2⟩
    clear l0 l1 l2 l3
    have l0 := (Hbox.out.below hb2 Hbox.out.lt).cell 0 _ rfl
    have l1 := (Hbox.out.below hb2 Hbox.out.lt).cell 1 _ rfl
    have l2 := (Hbox.out.below hb2 Hbox.out.lt).cell 2 _ rfl
    have l3 := (Hbox.out.below hb2 Hbox.out.lt).cell 3 _ rfl
    have r0 := (Hres.out.below hb2 Hres.out.lt).cell 0 _ rfl
    have r1 := (Hres.out.below hb2 Hres.out.lt).cell 1 _ rfl
    have r2 := (Hres.out.below hb2 Hres.out.lt).cell 2 _ rfl
    have r3 := (Hres.out.below hb2 Hres.out.lt).cell 3 _ rfl
    have f0 := (Hres.out.below hb2 Hres.out.lt).free 0
    have f1 := (Hres.out.below hb2 Hres.out.lt).free 1
    have f2 := (Hres.out.below hb2 Hres.out.lt).free 2
    have f3 := (Hres.out.below hb2 Hres.out.lt).free 3
    have Hy : Hid (Whole ((((w2.setCell ⟨w.heap.size, 0, none⟩ (.bool true)).setCell ⟨w.heap.size, 1, none⟩ (.string wh)).setCell ⟨w.heap.size, 2, none⟩ (.int .u64 ((nm : Nat)))).setCell ⟨w.heap.size, 3, none⟩ (.string ⟨#[]⟩)) w.heap.size 49 #[.bool true, .string wh, .int .u64 ((nm : Nat)), .string ⟨#[]⟩]) := hid_ (whole_put4 (Hres.out.below hb2 Hres.out.lt) (.bool true) (.string wh) (.int .u64 ((nm : Nat))) (.string ⟨#[]⟩))
    have Hb3 : Hid (Below w.heap.size w ((((w2.setCell ⟨w.heap.size, 0, none⟩ (.bool true)).setCell ⟨w.heap.size, 1, none⟩ (.string wh)).setCell ⟨w.heap.size, 2, none⟩ (.int .u64 ((nm : Nat)))).setCell ⟨w.heap.size, 3, none⟩ (.string ⟨#[]⟩))) := hid_ (below_put4 (Hb1.out.trans (hb2.mono Hb1.out.size)) (Nat.le_refl w.heap.size) (.bool true) (.string wh) (.int .u64 ((nm : Nat))) (.string ⟨#[]⟩))
    have hne : (ln.toList != ln.toList) = false := by simp
    clear hb2
    go_wp2_with fail
    generalize (((w2.setCell ⟨w.heap.size, 0, none⟩ (.bool true)).setCell ⟨w.heap.size, 1, none⟩ (.string wh)).setCell ⟨w.heap.size, 2, none⟩ (.int .u64 ((nm : Nat)))).setCell ⟨w.heap.size, 3, none⟩ (.string ⟨#[]⟩) = W3 at Hy Hb3 ⊢
    have y0 := Hy.out.cell 0 _ rfl
    have y1 := Hy.out.cell 1 _ rfl
    have y2 := Hy.out.cell 2 _ rfl
    have y3 := Hy.out.cell 3 _ rfl
    exact bodyPost_ret (v := .tuple #[.agg #[.bool true, .string wh, .int .u64 ((nm : Nat)), .string ⟨#[]⟩], .bool true]) (by simp [results, Tryz.results30, go_sem, y0, y1, y2, y3]) rfl ⟨rfl, Hb3.out⟩

set_option maxHeartbeats 8000000 in
theorem line_text (kp : Bool) (wh : ByteArray) (tx : ByteArray) (htx : tx.size ≤ 32) (w : World) (hf : formN (whatF wh) = 3) (hok : ruleOk ⟨kp, wh, 0, tx⟩ = true) (htab : PowsB w) :
    Calls Tryz.prog 30 #[.string (verbS kp ++ (wh ++ (⟨#[32]⟩ ++ tx)))] w (LineIs w ⟨kp, wh, 0, tx⟩) := by
  have hno := what_of_form (s := wh) (by omega)
  have hz := what_size hno
  have hwf : (⟨kp, wh, 0, tx⟩ : RuleD).Wf := ⟨(by decide : 0 < 18446744073709551616), (by omega : wh.size ≤ 9223372036854775807), (by omega : tx.size ≤ 9223372036854775807)⟩
  have Hc1 := hid_ (fun W => cut_hit (verbS kp ++ (wh ++ (⟨#[32]⟩ ++ tx))) _ _ W (parted_verb kp _) (by rw [verb_size, parted_size (parted_what hno _)]; omega))
  have Hc2 := hid_ (fun W => cut_hit (wh ++ (⟨#[32]⟩ ++ tx)) wh _ W (parted_what hno _) (by rw [parted_size (parted_what hno _)]; omega))
  have Hf := hid_ (fun W => (form_any wh W))
  rw [hf] at Hf
  have Hr := hid_ (fun W => right_any ⟨kp, wh, 0, tx⟩ W hwf)
  rw [hok] at Hr
  have Hl : Hid (lineS ⟨kp, wh, 0, tx⟩ = verbS kp ++ (wh ++ (⟨#[32]⟩ ++ tx))) := hid_ (by unfold lineS; rw [hf]; first | rfl | (unfold lineN; rw [if_neg (by decide), if_pos rfl]; rw [ba_assoc]) | (unfold lineN; rw [if_pos rfl]; rw [ba_assoc]))
  have Hs := hid_ (fun W (h : Below w.heap.size w W) => show_any ⟨kp, wh, 0, tx⟩ W hwf (by show wh.size ≤ 10000; omega) (by show tx.size ≤ 10000; omega) (htab.later h))
  rw [Hl.out] at Hs
  clear hf hok htab hno hz hwf
  generalize verbS kp ++ (wh ++ (⟨#[32]⟩ ++ tx)) = ln at *
  generalize wh ++ (⟨#[32]⟩ ++ tx) = rest at *
  cases kp
  · go_enter Tryz.func30, Tryz.ntmps30
    go_wp2_with fail
    refine Calls.mono (Hc1.out _) ?_
    rintro e w' ⟨rfl, n, rfl⟩
    go_wp2_with fail
    refine Calls.mono (Hc2.out _) ?_
    rintro e w' ⟨rfl, n2, rfl⟩
    go_wp2_with (go_at_call 31; (with_reducible refine Calls.mono (Hf.out _) ?_); rintro e w' ⟨rfl, rfl⟩)
    refine Calls.mono (Hr.out _) ?_
    rintro e w1 ⟨rfl, hb1⟩
    have Hres : Hid (Whole w1 w.heap.size 49 #[.bool false, .string ⟨#[]⟩, .int .u64 0, .string ⟨#[]⟩]) := hid_ (Whole.below (by repeat (first | exact whole_new _ _ _ | (refine whole_at _ _ _ _ ?_; simp; done) | refine Whole.alloc ?_ _ | refine Whole.drewN ?_ _)) hb1 (by simp; omega))
    have Hbox : Hid (Whole w1 (w.heap.size + 1) 49 #[.bool false, .string wh, .int .u64 (0), .string tx]) := hid_ (Whole.below (by repeat (first | exact whole_new _ _ _ | (refine whole_at _ _ _ _ ?_; simp; done) | refine Whole.alloc ?_ _ | refine Whole.drewN ?_ _)) hb1 (by simp))
    have Hb1 := hid_ (show Below w.heap.size w w1 from Below.trans (by repeat (first | exact Below.refl _ _ | assumption | apply Below.drew | apply below_drewN | refine Below.alloc ?_ (by simp) _)) (hb1.mono (by simp; omega)))
    clear hb1
    have l0 := Hbox.out.cell 0 _ rfl
    have l1 := Hbox.out.cell 1 _ rfl
    have l2 := Hbox.out.cell 2 _ rfl
    have l3 := Hbox.out.cell 3 _ rfl
    go_wp2_with fail
    refine Calls.mono (Hs.out _ Hb1.out) ?_
    rintro e w2 ⟨rfl, hb2⟩
    clear l0 l1 l2 l3
    have l0 := (Hbox.out.below hb2 Hbox.out.lt).cell 0 _ rfl
    have l1 := (Hbox.out.below hb2 Hbox.out.lt).cell 1 _ rfl
    have l2 := (Hbox.out.below hb2 Hbox.out.lt).cell 2 _ rfl
    have l3 := (Hbox.out.below hb2 Hbox.out.lt).cell 3 _ rfl
    have r0 := (Hres.out.below hb2 Hres.out.lt).cell 0 _ rfl
    have r1 := (Hres.out.below hb2 Hres.out.lt).cell 1 _ rfl
    have r2 := (Hres.out.below hb2 Hres.out.lt).cell 2 _ rfl
    have r3 := (Hres.out.below hb2 Hres.out.lt).cell 3 _ rfl
    have f0 := (Hres.out.below hb2 Hres.out.lt).free 0
    have f1 := (Hres.out.below hb2 Hres.out.lt).free 1
    have f2 := (Hres.out.below hb2 Hres.out.lt).free 2
    have f3 := (Hres.out.below hb2 Hres.out.lt).free 3
    have Hy : Hid (Whole ((((w2.setCell ⟨w.heap.size, 0, none⟩ (.bool false)).setCell ⟨w.heap.size, 1, none⟩ (.string wh)).setCell ⟨w.heap.size, 2, none⟩ (.int .u64 (0))).setCell ⟨w.heap.size, 3, none⟩ (.string tx)) w.heap.size 49 #[.bool false, .string wh, .int .u64 (0), .string tx]) := hid_ (whole_put4 (Hres.out.below hb2 Hres.out.lt) (.bool false) (.string wh) (.int .u64 (0)) (.string tx))
    have Hb3 : Hid (Below w.heap.size w ((((w2.setCell ⟨w.heap.size, 0, none⟩ (.bool false)).setCell ⟨w.heap.size, 1, none⟩ (.string wh)).setCell ⟨w.heap.size, 2, none⟩ (.int .u64 (0))).setCell ⟨w.heap.size, 3, none⟩ (.string tx))) := hid_ (below_put4 (Hb1.out.trans (hb2.mono Hb1.out.size)) (Nat.le_refl w.heap.size) (.bool false) (.string wh) (.int .u64 (0)) (.string tx))
    have hne : (ln.toList != ln.toList) = false := by simp
    clear hb2
    go_wp2_with fail
    generalize (((w2.setCell ⟨w.heap.size, 0, none⟩ (.bool false)).setCell ⟨w.heap.size, 1, none⟩ (.string wh)).setCell ⟨w.heap.size, 2, none⟩ (.int .u64 (0))).setCell ⟨w.heap.size, 3, none⟩ (.string tx) = W3 at Hy Hb3 ⊢
    have y0 := Hy.out.cell 0 _ rfl
    have y1 := Hy.out.cell 1 _ rfl
    have y2 := Hy.out.cell 2 _ rfl
    have y3 := Hy.out.cell 3 _ rfl
    exact bodyPost_ret (v := .tuple #[.agg #[.bool false, .string wh, .int .u64 (0), .string tx], .bool true]) (by simp [results, Tryz.results30, go_sem, y0, y1, y2, y3]) rfl ⟨rfl, Hb3.out⟩
  · go_enter Tryz.func30, Tryz.ntmps30
    go_wp2_with fail
    refine Calls.mono (Hc1.out _) ?_
    rintro e w' ⟨rfl, n, rfl⟩
    go_wp2_with fail
    refine Calls.mono (Hc2.out _) ?_
    rintro e w' ⟨rfl, n2, rfl⟩
    go_wp2_with (go_at_call 31; (with_reducible refine Calls.mono (Hf.out _) ?_); rintro e w' ⟨rfl, rfl⟩)
    refine Calls.mono (Hr.out _) ?_
    rintro e w1 ⟨rfl, hb1⟩
    have Hres : Hid (Whole w1 w.heap.size 49 #[.bool false, .string ⟨#[]⟩, .int .u64 0, .string ⟨#[]⟩]) := hid_ (Whole.below (by repeat (first | exact whole_new _ _ _ | (refine whole_at _ _ _ _ ?_; simp; done) | refine Whole.alloc ?_ _ | refine Whole.drewN ?_ _)) hb1 (by simp; omega))
    have Hbox : Hid (Whole w1 (w.heap.size + 1) 49 #[.bool true, .string wh, .int .u64 (0), .string tx]) := hid_ (Whole.below (by repeat (first | exact whole_new _ _ _ | (refine whole_at _ _ _ _ ?_; simp; done) | refine Whole.alloc ?_ _ | refine Whole.drewN ?_ _)) hb1 (by simp))
    have Hb1 := hid_ (show Below w.heap.size w w1 from Below.trans (by repeat (first | exact Below.refl _ _ | assumption | apply Below.drew | apply below_drewN | refine Below.alloc ?_ (by simp) _)) (hb1.mono (by simp; omega)))
    clear hb1
    have l0 := Hbox.out.cell 0 _ rfl
    have l1 := Hbox.out.cell 1 _ rfl
    have l2 := Hbox.out.cell 2 _ rfl
    have l3 := Hbox.out.cell 3 _ rfl
    go_wp2_with fail
    refine Calls.mono (Hs.out _ Hb1.out) ?_
    rintro e w2 ⟨rfl, hb2⟩
    clear l0 l1 l2 l3
    have l0 := (Hbox.out.below hb2 Hbox.out.lt).cell 0 _ rfl
    have l1 := (Hbox.out.below hb2 Hbox.out.lt).cell 1 _ rfl
    have l2 := (Hbox.out.below hb2 Hbox.out.lt).cell 2 _ rfl
    have l3 := (Hbox.out.below hb2 Hbox.out.lt).cell 3 _ rfl
    have r0 := (Hres.out.below hb2 Hres.out.lt).cell 0 _ rfl
    have r1 := (Hres.out.below hb2 Hres.out.lt).cell 1 _ rfl
    have r2 := (Hres.out.below hb2 Hres.out.lt).cell 2 _ rfl
    have r3 := (Hres.out.below hb2 Hres.out.lt).cell 3 _ rfl
    have f0 := (Hres.out.below hb2 Hres.out.lt).free 0
    have f1 := (Hres.out.below hb2 Hres.out.lt).free 1
    have f2 := (Hres.out.below hb2 Hres.out.lt).free 2
    have f3 := (Hres.out.below hb2 Hres.out.lt).free 3
    have Hy : Hid (Whole ((((w2.setCell ⟨w.heap.size, 0, none⟩ (.bool true)).setCell ⟨w.heap.size, 1, none⟩ (.string wh)).setCell ⟨w.heap.size, 2, none⟩ (.int .u64 (0))).setCell ⟨w.heap.size, 3, none⟩ (.string tx)) w.heap.size 49 #[.bool true, .string wh, .int .u64 (0), .string tx]) := hid_ (whole_put4 (Hres.out.below hb2 Hres.out.lt) (.bool true) (.string wh) (.int .u64 (0)) (.string tx))
    have Hb3 : Hid (Below w.heap.size w ((((w2.setCell ⟨w.heap.size, 0, none⟩ (.bool true)).setCell ⟨w.heap.size, 1, none⟩ (.string wh)).setCell ⟨w.heap.size, 2, none⟩ (.int .u64 (0))).setCell ⟨w.heap.size, 3, none⟩ (.string tx))) := hid_ (below_put4 (Hb1.out.trans (hb2.mono Hb1.out.size)) (Nat.le_refl w.heap.size) (.bool true) (.string wh) (.int .u64 (0)) (.string tx))
    have hne : (ln.toList != ln.toList) = false := by simp
    clear hb2
    go_wp2_with fail
    generalize (((w2.setCell ⟨w.heap.size, 0, none⟩ (.bool true)).setCell ⟨w.heap.size, 1, none⟩ (.string wh)).setCell ⟨w.heap.size, 2, none⟩ (.int .u64 (0))).setCell ⟨w.heap.size, 3, none⟩ (.string tx) = W3 at Hy Hb3 ⊢
    have y0 := Hy.out.cell 0 _ rfl
    have y1 := Hy.out.cell 1 _ rfl
    have y2 := Hy.out.cell 2 _ rfl
    have y3 := Hy.out.cell 3 _ rfl
    exact bodyPost_ret (v := .tuple #[.agg #[.bool true, .string wh, .int .u64 (0), .string tx], .bool true]) (by simp [results, Tryz.results30, go_sem, y0, y1, y2, y3]) rfl ⟨rfl, Hb3.out⟩

theorem line_any (r : RuleD) (w : World) (hr : r.Wf) (hok : ruleOk r = true) (htab : PowsB w) :
    Calls Tryz.prog 30 #[.string (lineS r)] w (LineIs w r) := by
  obtain ⟨kp, wh, nm, tx⟩ := r
  have hn := hr.num
  have hp := ok_parts hok
  rcases ok_form hok with ⟨hf, h1, h2⟩ | ⟨hf, h2⟩ | ⟨hf, h1⟩
  · simp only at hf h1 h2
    subst h1 h2
    have := line_bare kp wh w hf hok htab
    rwa [show lineS ⟨kp, wh, 0, ⟨#[]⟩⟩ = verbS kp ++ wh by unfold lineS; rw [hf]; rfl]
  · simp only at hf h2
    subst h2
    have := line_num kp wh nm hn w hf hok htab
    rwa [show lineS ⟨kp, wh, nm, ⟨#[]⟩⟩ = verbS kp ++ (wh ++ (⟨#[32]⟩ ++ digitsS nm)) by unfold lineS lineN; rw [hf, if_pos rfl, ba_assoc]]
  · simp only at hf h1 hp
    subst h1
    have htx : tx.size ≤ 32 := by
      have h3 := hp.2.2
      rw [hf] at h3
      have h4 : (nameOk tx && !blankF tx) = true := h3
      rw [Bool.and_eq_true] at h4
      exact (name_sizes h4.1).2
    have := line_text kp wh tx htx w hf hok htab
    rwa [show lineS ⟨kp, wh, 0, tx⟩ = verbS kp ++ (wh ++ (⟨#[32]⟩ ++ tx)) by unfold lineS lineN; rw [hf, if_neg (by decide), if_pos rfl, ba_assoc]]
end Go.Proofs.YtlkpofhfkhdheaaGreatDoor
