/-
  What the program's Same answers, and that the chapter's example of package span comes.
-/
import Derived.Test.YtnphbefnmbagfaaSpPut
import Derived.Test.YtnphbefnmbagfaaSpanEq
namespace Go.Proofs.Ytnphbefnmbagfaa
open Go.RowKit Ru

set_option maxHeartbeats 1000000 in
theorem sameSpan_any (a b : SpanD) (w : World) :
    Calls Try.prog 24 #[spanVal a, spanVal b] w (BoolIs w (sameF a b)) := by
  have kn := fun (a b : SpanD) (w : World) => span_eql a b w
  have hb0 := hid_ (boolIs_mk (w := w) (k := sameF a b) rfl (((Below.refl w.heap.size w).alloc (Nat.le_refl _) (.cells (spanCells a) 28)).alloc (by simp) (.cells (spanCells b) 28)))
  go_enter Try.func24, Try.ntmps24
  go_wp2_with fail
  go_ret
  exact hb0.out

def exSpan : SpanD := ⟨1, 2, 0, 0, 0, ⟨#[195, 169]⟩, ⟨#[110]⟩, false⟩
theorem ex_wf : exSpan.Wf := ⟨by decide, by decide, by decide, by decide, by decide, by decide, by decide⟩
theorem ex_name : nameKind ⟨#[195, 169]⟩ = 0 := by kernel_rfl
theorem ex_bad : nameKind ⟨#[255]⟩ = 5 := by kernel_rfl
theorem ex_right : rightF exSpan = 0 := by kernel_rfl
theorem ex_len : (putF exSpan).length = 46 := by kernel_rfl
theorem ex_other : sameF exSpan SpanD.zero = false := by
  unfold sameF exSpan SpanD.zero
  rfl

set_option maxHeartbeats 2000000 in
theorem alive_any (w : World) :
    Calls Try.prog 14 #[] w (BoolIs w true) := by
  have Hp := hid_ (fun W => put_any none 0 0 [] exSpan W (Sl.none _) (by omega) ex_wf)
  have Hn1 := hid_ (fun W => name_any ⟨#[195, 169]⟩ W (by decide))
  have Hn2 := hid_ (fun W => name_any ⟨#[255]⟩ W (by decide))
  have Hs1 := hid_ (fun W => sameSpan_any exSpan exSpan W)
  have Hs2 := hid_ (fun W => sameSpan_any exSpan SpanD.zero W)
  go_enter Try.func14, Try.ntmps14
  go_wp2_with fail
  refine Calls.mono (Hp.out _) ?_
  rintro e w1 (⟨h, _, _⟩ | ⟨_, A, n, c, rfl, ho, hb⟩)
  · exact absurd ex_right h
  have hlen := ho.sl.len
  rw [List.nil_append, ex_len] at hlen
  obtain rfl : n = 46 := hlen.symm
  have Hx1 := hid_ ((box_new w exSpan 28).below hb (by simp))
  have Hb1 := hid_ (((Below.refl w.heap.size w).alloc (Nat.le_refl _) (.cells (spanCells exSpan) 28)).trans (hb.mono (by simp)))
  have hz1 : w.heap.size < w1.heap.size := by have := hb.size; simp at this; omega
  clear hb ho
  go_wp2_with fail
  refine Calls.mono (Hn1.out _) ?_
  rintro e w2 ⟨rfl, hb2⟩
  rw [ex_name]
  have Hb2 := hid_ (Below.trans (Below.refl w1.heap.size w1) hb2)
  clear hb2
  go_wp2_with fail
  refine Calls.mono (Hn2.out _) ?_
  rintro e w3 ⟨rfl, hb3⟩
  rw [ex_bad]
  have Hb3 := hid_ (Hb2.out.trans (hb3.mono Hb2.out.size))
  obtain ⟨x0, x1, x2, x3, x4, x5, x6, x7⟩ := Hx1.out.below Hb3.out hz1
  clear hb3
  go_wp2_with fail
  refine Calls.mono (Hs1.out _) ?_
  rintro e w4 ⟨rfl, hb4⟩
  rw [sameF_self]
  have Hb4 := hid_ (Hb3.out.trans (hb4.mono Hb3.out.size))
  clear x0 x1 x2 x3 x4 x5 x6 x7
  obtain ⟨x0, x1, x2, x3, x4, x5, x6, x7⟩ := Hx1.out.below Hb4.out hz1
  clear hb4
  go_wp2_with fail
  refine Calls.mono (Hs2.out _) ?_
  rintro e w5 ⟨rfl, hb5⟩
  rw [ex_other]
  have Hb5 := hid_ (Hb4.out.trans (hb5.mono Hb4.out.size))
  clear x0 x1 x2 x3 x4 x5 x6 x7 hb5
  go_wp2_with fail
  go_ret
  exact boolIs_mk rfl (Hb1.out.trans (Hb5.out.mono Hb1.out.size))
end Go.Proofs.Ytnphbefnmbagfaa
