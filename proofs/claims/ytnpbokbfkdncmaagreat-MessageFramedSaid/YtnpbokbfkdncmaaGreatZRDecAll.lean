/-
  The reference's Decode of any bytes.
-/
import Derived.Test.YtnpbokbfkdncmaaGreatZGRD4
import Derived.Test.YtnpbokbfkdncmaaGreatZGRD5
import Derived.Test.YtnpbokbfkdncmaaGreatZGRD6
import Derived.Test.YtnpbokbfkdncmaaGreatZRDec1
import Derived.Test.YtnpbokbfkdncmaaGreatZRDec10
import Derived.Test.YtnpbokbfkdncmaaGreatZRDec2
import Derived.Test.YtnpbokbfkdncmaaGreatZRDec3
import Derived.Test.YtnpbokbfkdncmaaGreatZRDec9
namespace Go.Proofs.YtnpbokbfkdncmaaGreat
set_option linter.unusedSimpArgs false
set_option linter.unusedVariables false
open Go.RowKit Ru Fm
theorem dec_of_end {w w' : World} {b d r : List UInt8} {e : Ending} (hc : cutF b = (0, d, r)) (h : RDPost w d r e w') : DecPost w b e w' := by
  have e1 : decF b = endF d r := by
    rw [← refDec_eq]
    unfold refDecF endF
    rw [hc, if_pos rfl]
  obtain ⟨s, h1, h2, h3⟩ := h
  exact ⟨s, by rw [e1]; exact h1, by rw [e1]; exact h2, h3⟩
set_option maxRecDepth 100000 in
set_option maxHeartbeats 8000000 in
theorem rdecS_any (A : Option Addr) (n c : Nat) (b : List UInt8) (w : World) (hs : Sl w A n c b) (hk0 : (cutF b).1 ≠ 0) : Calls Tryz.prog 12 #[.slice A n c] w (DecPost w b) := by
  have Hd := hid_ (dec_short (b := b) rfl hk0)
  have Hcut := hid_ (Fr.refcut_any A n c b (w.alloc (.cells #[.int .i64 0, .int .u64 0, .int .u64 0, .int .u64 0, .int .u64 0, .int .u64 0, .int .i64 0, .bool false, .slice none 0 0, .slice none 0 0, .slice none 0 0] 30)) (hs.below ((Below.refl _ _).alloc (Nat.le_refl _) _)))
  unfold Fr.RefCut at Hcut
  have W0 := hid_ (whole_new w 30 #[.int .i64 0, .int .u64 0, .int .u64 0, .int .u64 0, .int .u64 0, .int .u64 0, .int .i64 0, .bool false, .slice none 0 0, .slice none 0 0, .slice none 0 0])
  have Hb0 := hid_ (((Below.refl w.heap.size w).alloc (Nat.le_refl _) (.cells #[.int .i64 0, .int .u64 0, .int .u64 0, .int .u64 0, .int .u64 0, .int .u64 0, .int .i64 0, .bool false, .slice none 0 0, .slice none 0 0, .slice none 0 0] 30)))
  generalize (cutF b).1 = K at *
  have hK : (K != 0) = true := bne_iff_ne.2 hk0
  clear hs hk0
  go_enter Tryz.func12, Tryz.ntmps12
  go_wp2_with fail
  refine Calls.mono Hcut.out ?_
  rintro e w1 ⟨A1, n1, c1, A2, n2, c2, rfl, -, -, -, -, hb1⟩
  have Q1 := hid_ (W0.out.below hb1 W0.out.lt)
  have B1 := hid_ (Hb0.out.trans (hb1.mono Hb0.out.size))
  clear hb1
  have r1 : ∀ o, w1.frozen? ⟨w.heap.size, o, none⟩ = false := fun o => Q1.out.free o
  have t0 := Q1.out.cell 0 _ rfl
  have t1 := Q1.out.cell 1 _ rfl
  have t2 := Q1.out.cell 2 _ rfl
  have t3 := Q1.out.cell 3 _ rfl
  have t4 := Q1.out.cell 4 _ rfl
  have t5 := Q1.out.cell 5 _ rfl
  have t6 := Q1.out.cell 6 _ rfl
  have t7 := Q1.out.cell 7 _ rfl
  have t8 := Q1.out.cell 8 _ rfl
  have t9 := Q1.out.cell 9 _ rfl
  have t10 := Q1.out.cell 10 _ rfl
  go_wp2_with fail
  have Hy2 : Whole ((((((((((((w1.setCell ⟨w.heap.size, 0, none⟩ (.int .i64 0)).setCell ⟨w.heap.size, 1, none⟩ (.int .u64 0)).setCell ⟨w.heap.size, 2, none⟩ (.int .u64 0)).setCell ⟨w.heap.size, 3, none⟩ (.int .u64 0)).setCell ⟨w.heap.size, 4, none⟩ (.int .u64 0)).setCell ⟨w.heap.size, 5, none⟩ (.int .u64 0)).setCell ⟨w.heap.size, 6, none⟩ (.int .i64 0)).setCell ⟨w.heap.size, 7, none⟩ (.bool false)).setCell ⟨w.heap.size, 8, none⟩ (.slice none 0 0)).setCell ⟨w.heap.size, 9, none⟩ (.slice none 0 0)).setCell ⟨w.heap.size, 10, none⟩ (.slice none 0 0))) w.heap.size 30 (packCells ⟨0, 0, 0, 0, 0, 0, 0, false, [], [], []⟩ ⟨none, 0, none, 0, none, 0⟩) ∧ Below w.heap.size w ((((((((((((w1.setCell ⟨w.heap.size, 0, none⟩ (.int .i64 0)).setCell ⟨w.heap.size, 1, none⟩ (.int .u64 0)).setCell ⟨w.heap.size, 2, none⟩ (.int .u64 0)).setCell ⟨w.heap.size, 3, none⟩ (.int .u64 0)).setCell ⟨w.heap.size, 4, none⟩ (.int .u64 0)).setCell ⟨w.heap.size, 5, none⟩ (.int .u64 0)).setCell ⟨w.heap.size, 6, none⟩ (.int .i64 0)).setCell ⟨w.heap.size, 7, none⟩ (.bool false)).setCell ⟨w.heap.size, 8, none⟩ (.slice none 0 0)).setCell ⟨w.heap.size, 9, none⟩ (.slice none 0 0)).setCell ⟨w.heap.size, 10, none⟩ (.slice none 0 0))) := ⟨Whole.pack (P := ⟨0, 0, 0, 0, 0, 0, 0, false, [], [], []⟩) (S := ⟨none, 0, none, 0, none, 0⟩) Q1.out ⟨0, 0, 0, 0, 0, 0, 0, false, [], [], []⟩ ⟨none, 0, none, 0, none, 0⟩, below_pack B1.out (Nat.le_refl _) ⟨0, 0, 0, 0, 0, 0, 0, false, [], [], []⟩ ⟨none, 0, none, 0, none, 0⟩⟩
  clear r1 t0 t1 t2 t3 t4 t5 t6 t7 t8 t9 t10
  generalize (((((((((((w1.setCell ⟨w.heap.size, 0, none⟩ (.int .i64 0)).setCell ⟨w.heap.size, 1, none⟩ (.int .u64 0)).setCell ⟨w.heap.size, 2, none⟩ (.int .u64 0)).setCell ⟨w.heap.size, 3, none⟩ (.int .u64 0)).setCell ⟨w.heap.size, 4, none⟩ (.int .u64 0)).setCell ⟨w.heap.size, 5, none⟩ (.int .u64 0)).setCell ⟨w.heap.size, 6, none⟩ (.int .i64 0)).setCell ⟨w.heap.size, 7, none⟩ (.bool false)).setCell ⟨w.heap.size, 8, none⟩ (.slice none 0 0)).setCell ⟨w.heap.size, 9, none⟩ (.slice none 0 0)).setCell ⟨w.heap.size, 10, none⟩ (.slice none 0 0)) = W9 at Hy2 ⊢
  obtain ⟨Hy, Hby⟩ := Hy2
  obtain ⟨y0, y1, y2, y3, y4, y5, y6, y7, y8, y9, y10⟩ := pack_facts Hy
  dsimp only at y0 y1 y2 y3 y4 y5 y6 y7 y8 y9 y10
  refine bodyPost_ret (v := .tuple #[packVal ⟨0, 0, 0, 0, 0, 0, 0, false, [], [], []⟩ ⟨none, 0, none, 0, none, 0⟩, .int .i64 K]) (by simp [results, Tryz.results12, go_sem, y0, y1, y2, y3, y4, y5, y6, y7, y8, y9, y10]) rfl ?_
  exact decPost_mk (p := zeroP) (s := ⟨none, 0, none, 0, none, 0⟩) Hd.out (packIn_none _ _ rfl rfl rfl) Hby
theorem rdec_any (A : Option Addr) (n c : Nat) (b : List UInt8) (w : World) (hs : Sl w A n c b) : Calls Tryz.prog 12 #[.slice A n c] w (DecPost w b) := by
  by_cases h0 : (cutF b).1 = 0
  rotate_left
  · exact rdecS_any A n c b w hs h0
  have hc : cutF b = (0, (cutF b).2.1, (cutF b).2.2) := by rw [← h0]
  generalize (cutF b).2.1 = d at *
  generalize (cutF b).2.2 = r at *
  refine Calls.mono ?_ (fun e w' h => dec_of_end hc h)
  by_cases hk : 1 ≤ hd d ∧ hd d ≤ 10
  · rcases (show hd d = 1 ∨ hd d = 2 ∨ hd d = 3 ∨ hd d = 4 ∨ hd d = 5 ∨ hd d = 6 ∨ hd d = 7 ∨ hd d = 8 ∨ hd d = 9 ∨ hd d = 10 by omega) with e | e | e | e | e | e | e | e | e | e
    · exact rdec1_any A n c b d r w hs hc e
    · exact rdec2_any A n c b d r w hs hc e
    · exact rdec3_any A n c b d r w hs hc e
    · exact rdec4_any A n c b d r w hs hc e
    · exact rdec5_any A n c b d r w hs hc e
    · exact rdec6_any A n c b d r w hs hc e
    · exact rdec7_any A n c b d r w hs hc e
    · exact rdec8_any A n c b d r w hs hc e
    · exact rdec9_any A n c b d r w hs hc e
    · exact rdec10_any A n c b d r w hs hc e
  · exact rdecN_any A n c b d r w hs hc (hd d) rfl hk
end Go.Proofs.YtnpbokbfkdncmaaGreat
