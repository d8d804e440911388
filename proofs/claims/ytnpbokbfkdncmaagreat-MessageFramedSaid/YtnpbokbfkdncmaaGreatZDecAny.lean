/-
  What the program's read answers of data of no kind; the program's Decode of any bytes.
-/
import Derived.Test.YtnpbokbfkdncmaaGreatZDecShort
import Derived.Test.YtnpbokbfkdncmaaGreatZGRR
import Derived.Test.YtnpbokbfkdncmaaGreatZReadAll
namespace Go.Proofs.YtnpbokbfkdncmaaGreat
set_option linter.unusedSimpArgs false
set_option linter.unusedVariables false
open Go.RowKit Ru Fm
set_option maxRecDepth 100000 in
set_option maxHeartbeats 8000000 in
theorem readN_any (A : Option Addr) (n c : Nat) (d : List UInt8) (w : World) (hs : Sl w A n c d) (k : Nat) (hkk : hd d = k) (hk : ¬ (1 ≤ k ∧ k ≤ 10)) : Calls Tryz.prog 24 #[.slice A n c] w (ReadPost w (readF d)) := by
  have hp0 : partsF ((k : Nat) : Int) = ⟨false, false, false, false, false, false, false⟩ := parts_none (by omega)
  have HD := hid_ (show readF d = ⟨((k : Nat) : Int), 0, 0, 0, 0, 0, 0, false, [], [], []⟩ by unfold readF; dsimp only; rw [hkk, hp0]; simp)
  have Hoc := hid_ (octet_any (w.heap.size + 1) (fun q => q = w.heap.size) d)
  rw [hkk] at Hoc
  have k255 := hkk ▸ hd_lt d
  have Hpo := hid_ (fun W => partsof_any ((k : Nat) : Int) W)
  rw [hp0] at Hpo
  unfold PartsPost at Hpo
  have R0 := hid_ (rd_start hs (.cells (packCells zeroP ⟨none, 0, none, 0, none, 0⟩) 30) w.heap.size rfl)
  have W0 := hid_ ((whole_new w 30 (packCells zeroP ⟨none, 0, none, 0, none, 0⟩)).alloc (.cells #[.slice A n c] 91))
  have Hb0 := hid_ ((((Below.refl w.heap.size w).alloc (Nat.le_refl _) (.cells (packCells zeroP ⟨none, 0, none, 0, none, 0⟩) 30))).alloc (by simp) (.cells #[.slice A n c] 91))
  clear hs hk hkk hp0
  go_enter Tryz.func24, Tryz.ntmps24
  go_wp2_with fail
  refine Calls.mono (Hoc.out _ R0.out) ?_
  rintro e w1 ⟨rfl, hr1, hg1⟩
  have W1 := hid_ (W0.out.grown hg1 (by intro e; injection e with e; omega))
  have Hb1 := hid_ (below_grown_ Hb0.out hg1 (by omega) (by simp <;> omega))
  have hz1 : w.heap.size + 1 < w1.heap.size := hr1.lt
  have W2 := hid_ (W1.out.alloc (.cells (packCells ⟨((k : Nat) : Int), 0, 0, 0, 0, 0, 0, false, [], [], []⟩ ⟨none, 0, none, 0, none, 0⟩) 30))
  have K2 := hid_ (whole_new w1 30 (packCells ⟨((k : Nat) : Int), 0, 0, 0, 0, 0, 0, false, [], [], []⟩ ⟨none, 0, none, 0, none, 0⟩))
  have Hb2 := hid_ (Hb1.out.alloc Hb1.out.size (.cells (packCells ⟨((k : Nat) : Int), 0, 0, 0, 0, 0, 0, false, [], [], []⟩ ⟨none, 0, none, 0, none, 0⟩) 30))
  clear hr1 hg1
  go_wp2_with fail
  refine Calls.mono (Hpo.out _) ?_
  rintro e w2 ⟨rfl, hb2⟩
  have hz2 : w1.heap.size < w2.heap.size := by have := hb2.size; simp at this; omega
  have W3 := hid_ (W2.out.below hb2 W2.out.lt)
  have K3 := hid_ (K2.out.below hb2 K2.out.lt)
  have Hb3 := hid_ (Hb2.out.trans (hb2.mono Hb2.out.size))
  clear hb2
  have hq1 : w.heap.size ≠ w1.heap.size := by omega
  have hq2 : w.heap.size ≠ w2.heap.size := by omega
  have hq3 : w1.heap.size ≠ w2.heap.size := by omega
  have hq4 : w.heap.size < w2.heap.size := by omega
  have r1 : ∀ o, w2.frozen? ⟨w.heap.size, o, none⟩ = false := fun o => W3.out.free o
  obtain ⟨p0, p1, p2, p3, p4, p5, p6, p7, p8, p9, p10⟩ := pack_facts K3.out
  obtain ⟨t0, t1, t2, t3, t4, t5, t6, t7, t8, t9, t10⟩ := pack_facts W3.out
  dsimp only [zeroP] at p0 p1 p2 p3 p4 p5 p6 p7 p8 p9 p10 t0 t1 t2 t3 t4 t5 t6 t7 t8 t9 t10
  go_wp2_with fail
  have Hy2 : Whole (((((((((((((w2.setCell ⟨w.heap.size, 0, none⟩ (.int .i64 ((k : Nat) : Int))).setCell ⟨w.heap.size, 1, none⟩ (.int .u64 0)).setCell ⟨w.heap.size, 2, none⟩ (.int .u64 0)).setCell ⟨w.heap.size, 3, none⟩ (.int .u64 0)).setCell ⟨w.heap.size, 4, none⟩ (.int .u64 0)).setCell ⟨w.heap.size, 5, none⟩ (.int .u64 0)).setCell ⟨w.heap.size, 6, none⟩ (.int .i64 0)).setCell ⟨w.heap.size, 7, none⟩ (.bool false)).setCell ⟨w.heap.size, 8, none⟩ (.slice none 0 0)).setCell ⟨w.heap.size, 9, none⟩ (.slice none 0 0)).setCell ⟨w.heap.size, 10, none⟩ (.slice none 0 0)).alloc (.cells #[.bool false, .bool false, .bool false, .bool false, .bool false, .bool false, .bool false] 75))) w.heap.size 30 (packCells ⟨((k : Nat) : Int), 0, 0, 0, 0, 0, 0, false, [], [], []⟩ ⟨none, 0, none, 0, none, 0⟩) ∧ Below w.heap.size w (((((((((((((w2.setCell ⟨w.heap.size, 0, none⟩ (.int .i64 ((k : Nat) : Int))).setCell ⟨w.heap.size, 1, none⟩ (.int .u64 0)).setCell ⟨w.heap.size, 2, none⟩ (.int .u64 0)).setCell ⟨w.heap.size, 3, none⟩ (.int .u64 0)).setCell ⟨w.heap.size, 4, none⟩ (.int .u64 0)).setCell ⟨w.heap.size, 5, none⟩ (.int .u64 0)).setCell ⟨w.heap.size, 6, none⟩ (.int .i64 0)).setCell ⟨w.heap.size, 7, none⟩ (.bool false)).setCell ⟨w.heap.size, 8, none⟩ (.slice none 0 0)).setCell ⟨w.heap.size, 9, none⟩ (.slice none 0 0)).setCell ⟨w.heap.size, 10, none⟩ (.slice none 0 0)).alloc (.cells #[.bool false, .bool false, .bool false, .bool false, .bool false, .bool false, .bool false] 75))) := ⟨(W3.out.pack ⟨((k : Nat) : Int), 0, 0, 0, 0, 0, 0, false, [], [], []⟩ ⟨none, 0, none, 0, none, 0⟩).alloc _, (below_pack Hb3.out (Nat.le_refl _) ⟨((k : Nat) : Int), 0, 0, 0, 0, 0, 0, false, [], [], []⟩ ⟨none, 0, none, 0, none, 0⟩).alloc (by simp; omega) _⟩
  clear r1 p0 p1 p2 p3 p4 p5 p6 p7 p8 p9 p10 t0 t1 t2 t3 t4 t5 t6 t7 t8 t9 t10
  generalize ((((((((((((w2.setCell ⟨w.heap.size, 0, none⟩ (.int .i64 ((k : Nat) : Int))).setCell ⟨w.heap.size, 1, none⟩ (.int .u64 0)).setCell ⟨w.heap.size, 2, none⟩ (.int .u64 0)).setCell ⟨w.heap.size, 3, none⟩ (.int .u64 0)).setCell ⟨w.heap.size, 4, none⟩ (.int .u64 0)).setCell ⟨w.heap.size, 5, none⟩ (.int .u64 0)).setCell ⟨w.heap.size, 6, none⟩ (.int .i64 0)).setCell ⟨w.heap.size, 7, none⟩ (.bool false)).setCell ⟨w.heap.size, 8, none⟩ (.slice none 0 0)).setCell ⟨w.heap.size, 9, none⟩ (.slice none 0 0)).setCell ⟨w.heap.size, 10, none⟩ (.slice none 0 0)).alloc (.cells #[.bool false, .bool false, .bool false, .bool false, .bool false, .bool false, .bool false] 75)) = W9 at Hy2 ⊢
  obtain ⟨Hy, Hby⟩ := Hy2
  obtain ⟨y0, y1, y2, y3, y4, y5, y6, y7, y8, y9, y10⟩ := pack_facts Hy
  dsimp only at y0 y1 y2 y3 y4 y5 y6 y7 y8 y9 y10
  refine bodyPost_ret (v := packVal ⟨((k : Nat) : Int), 0, 0, 0, 0, 0, 0, false, [], [], []⟩ ⟨none, 0, none, 0, none, 0⟩) (by simp [results, Tryz.results24, go_sem, y0, y1, y2, y3, y4, y5, y6, y7, y8, y9, y10]) rfl ?_
  exact readPost_mk HD.out.symm (packIn_none _ _ rfl rfl rfl) (fresh_none _ _) Hby
theorem read_any (A : Option Addr) (n c : Nat) (d : List UInt8) (w : World) (hs : Sl w A n c d) (hd' : d.length ≤ 100000) : Calls Tryz.prog 24 #[.slice A n c] w (ReadPost w (readF d)) := by
  by_cases hk : 1 ≤ hd d ∧ hd d ≤ 10
  · rcases (show hd d = 1 ∨ hd d = 2 ∨ hd d = 3 ∨ hd d = 4 ∨ hd d = 5 ∨ hd d = 6 ∨ hd d = 7 ∨ hd d = 8 ∨ hd d = 9 ∨ hd d = 10 by omega) with e | e | e | e | e | e | e | e | e | e
    · exact read1_any A n c d w hs hd' e
    · exact read2_any A n c d w hs hd' e
    · exact read3_any A n c d w hs hd' e
    · exact read4_any A n c d w hs e
    · exact read5_any A n c d w hs e
    · exact read6_any A n c d w hs e
    · exact read7_any A n c d w hs e
    · exact read8_any A n c d w hs e
    · exact read9_any A n c d w hs hd' e
    · exact read10_any A n c d w hs hd' e
  · exact readN_any A n c d w hs (hd d) rfl hk
theorem decode_any (A : Option Addr) (n c : Nat) (b : List UInt8) (w : World) (hs : Sl w A n c b) (hn : n ≤ 100000) :
    Calls Tryz.prog 11 #[.slice A n c] w (DecPost w b) := by
  by_cases h0 : (cutF b).1 = 0
  · have hl := (cut_lengths h0).1
    exact decode_of A n c b w hs (by omega) (fun A' n' c' W hW => read_any A' n' c' _ W hW (by omega)) (readF_wf _) (readF_few _)
  · exact decode_short A n c b w hs (by omega) h0
end Go.Proofs.YtnpbokbfkdncmaaGreat
