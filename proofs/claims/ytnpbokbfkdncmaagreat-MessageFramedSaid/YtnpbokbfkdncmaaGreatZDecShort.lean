/-
  What the program's Decode answers of bytes that are no frame.
-/
import Derived.Test.YtnpbokbfkdncmaaGreatZGM
namespace Go.Proofs.YtnpbokbfkdncmaaGreat
set_option linter.unusedSimpArgs false
set_option linter.unusedVariables false
open Go.RowKit Ru Fm

set_option maxRecDepth 100000 in
set_option maxHeartbeats 8000000 in
theorem decode_short (A : Option Addr) (n c : Nat) (b : List UInt8) (w : World) (hs : Sl w A n c b) (hn : n ≤ 140737488355328) (hk0 : (cutF b).1 ≠ 0) :
    Calls Tryz.prog 11 #[.slice A n c] w (DecPost w b) := by
  have Hcut := hid_ (fun (W : World) (hb : Below w.heap.size w W) => Fr.cut_any A n c b W (hs.below hb) hn)
  have Hs := hid_ hs
  have W0 := hid_ (whole_new w 30 (packCells zeroP ⟨none, 0, none, 0, none, 0⟩))
  have Hb0 := hid_ ((Below.refl w.heap.size w).alloc (Nat.le_refl _) (.cells (packCells zeroP ⟨none, 0, none, 0, none, 0⟩) 30))
  have Hsh := hid_ (fun k (h : (cutF b).1 = k) => dec_short (b := b) h)
  clear hs
  go_enter Tryz.func11, Tryz.ntmps11
  go_wp2_with fail
  refine Calls.mono (Hcut.out _ Hb0.out) ?_
  rintro e w1 ⟨A1, n1, c1, A2, n2, c2, rfl, h1, h2, hb1⟩
  have H1 := hid_ h1
  have W1 := hid_ (W0.out.below hb1 W0.out.lt)
  have Hb1 := hid_ (Hb0.out.trans (hb1.mono Hb0.out.size))
  have hlt1 := W1.out.lt
  clear h1 h2 hb1
  generalize hk : (cutF b).1 = k at *
  have Hk := hid_ hk
  clear hk
  generalize hd : (cutF b).2.1 = d at *
  have Hd := hid_ hd
  clear hd
  have r1 : ∀ o, w1.frozen? ⟨w.heap.size, o, none⟩ = false := fun o => W1.out.free o
  obtain ⟨t0, t1, t2, t3, t4, t5, t6, t7, t8, t9, t10⟩ := pack_facts W1.out
  dsimp only [zeroP] at t0 t1 t2 t3 t4 t5 t6 t7 t8 t9 t10
  · have ek : (k != 0) = true := bne_iff_ne.2 hk0
    have Hdec := hid_ (Hsh.out k rfl hk0)
    clear hk0
    go_wp2_with fail
    have Hy2 : Whole ((((((((((((w1.setCell ⟨w.heap.size, 0, none⟩ (.int .i64 0)).setCell ⟨w.heap.size, 1, none⟩ (.int .u64 0)).setCell ⟨w.heap.size, 2, none⟩ (.int .u64 0)).setCell ⟨w.heap.size, 3, none⟩ (.int .u64 0)).setCell ⟨w.heap.size, 4, none⟩ (.int .u64 0)).setCell ⟨w.heap.size, 5, none⟩ (.int .u64 0)).setCell ⟨w.heap.size, 6, none⟩ (.int .i64 0)).setCell ⟨w.heap.size, 7, none⟩ (.bool false)).setCell ⟨w.heap.size, 8, none⟩ (.slice none 0 0)).setCell ⟨w.heap.size, 9, none⟩ (.slice none 0 0)).setCell ⟨w.heap.size, 10, none⟩ (.slice none 0 0))) w.heap.size 30 (packCells zeroP ⟨none, 0, none, 0, none, 0⟩) ∧ Below w.heap.size w ((((((((((((w1.setCell ⟨w.heap.size, 0, none⟩ (.int .i64 0)).setCell ⟨w.heap.size, 1, none⟩ (.int .u64 0)).setCell ⟨w.heap.size, 2, none⟩ (.int .u64 0)).setCell ⟨w.heap.size, 3, none⟩ (.int .u64 0)).setCell ⟨w.heap.size, 4, none⟩ (.int .u64 0)).setCell ⟨w.heap.size, 5, none⟩ (.int .u64 0)).setCell ⟨w.heap.size, 6, none⟩ (.int .i64 0)).setCell ⟨w.heap.size, 7, none⟩ (.bool false)).setCell ⟨w.heap.size, 8, none⟩ (.slice none 0 0)).setCell ⟨w.heap.size, 9, none⟩ (.slice none 0 0)).setCell ⟨w.heap.size, 10, none⟩ (.slice none 0 0))) ∧ PackIn ((((((((((((w1.setCell ⟨w.heap.size, 0, none⟩ (.int .i64 0)).setCell ⟨w.heap.size, 1, none⟩ (.int .u64 0)).setCell ⟨w.heap.size, 2, none⟩ (.int .u64 0)).setCell ⟨w.heap.size, 3, none⟩ (.int .u64 0)).setCell ⟨w.heap.size, 4, none⟩ (.int .u64 0)).setCell ⟨w.heap.size, 5, none⟩ (.int .u64 0)).setCell ⟨w.heap.size, 6, none⟩ (.int .i64 0)).setCell ⟨w.heap.size, 7, none⟩ (.bool false)).setCell ⟨w.heap.size, 8, none⟩ (.slice none 0 0)).setCell ⟨w.heap.size, 9, none⟩ (.slice none 0 0)).setCell ⟨w.heap.size, 10, none⟩ (.slice none 0 0))) zeroP ⟨none, 0, none, 0, none, 0⟩ := ⟨(W1.out).pack zeroP ⟨none, 0, none, 0, none, 0⟩, below_pack (Hb1.out) (Nat.le_refl _) zeroP ⟨none, 0, none, 0, none, 0⟩, packIn_none _ _ rfl rfl rfl⟩
    clear t0 t1 t2 t3 t4 t5 t6 t7 t8 t9 t10 r1
    generalize (((((((((((w1.setCell ⟨w.heap.size, 0, none⟩ (.int .i64 0)).setCell ⟨w.heap.size, 1, none⟩ (.int .u64 0)).setCell ⟨w.heap.size, 2, none⟩ (.int .u64 0)).setCell ⟨w.heap.size, 3, none⟩ (.int .u64 0)).setCell ⟨w.heap.size, 4, none⟩ (.int .u64 0)).setCell ⟨w.heap.size, 5, none⟩ (.int .u64 0)).setCell ⟨w.heap.size, 6, none⟩ (.int .i64 0)).setCell ⟨w.heap.size, 7, none⟩ (.bool false)).setCell ⟨w.heap.size, 8, none⟩ (.slice none 0 0)).setCell ⟨w.heap.size, 9, none⟩ (.slice none 0 0)).setCell ⟨w.heap.size, 10, none⟩ (.slice none 0 0)) = W9 at Hy2 ⊢
    obtain ⟨Hy, Hby, Hin⟩ := Hy2
    obtain ⟨y0, y1, y2, y3, y4, y5, y6, y7, y8, y9, y10⟩ := pack_facts Hy
    try dsimp only [zeroP] at y0 y1 y2 y3 y4 y5 y6 y7 y8 y9 y10
    refine bodyPost_ret (v := .tuple #[packVal zeroP ⟨none, 0, none, 0, none, 0⟩, .int .i64 k]) (by simp [results, Tryz.results11, go_sem, y0, y1, y2, y3, y4, y5, y6, y7, y8, y9, y10, zeroP]) rfl ?_
    exact decPost_mk Hdec.out Hin Hby
end Go.Proofs.YtnpbokbfkdncmaaGreat
