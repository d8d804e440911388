/-
  The program's first of a file's contents, Cut and lay.
-/
import Derived.Test.YthjhofmjhmnddaaGreatMGAF
import Derived.Test.YthjhofmjhmnddaaGreatMGBA
import Derived.Lib.SlBytesConst
set_option linter.unusedSimpArgs false
set_option linter.unusedVariables false
namespace Go.Proofs.YthjhofmjhmnddaaGreat
open Go.RowKit
open Go.Maps (Keyed)
open Go.Proofs Go.Shelf
namespace Dsk
set_option maxRecDepth 100000 in
theorem first_any (A : Option Addr) (n c : Nat) (l : List UInt8) (ff m : Nat) (w : World) (h : Own 0 w A n c l) (hm : m ≤ n) (hn : n ≤ 1048576) :
  Calls Tryz.prog 54 #[.agg #[.slice A n c, .int .i64 (ff : Nat)], .int .i64 (m : Nat)] w (fun e w' => ∃ A' c', e = .returned (.agg #[.slice A' m c', .int .i64 (m : Nat)]) ∧ Own w.heap.size w' A' m c' (l.take m) ∧ Below w.heap.size w w') := by
 have hs := h.sl
 have hc := hs.cap
 have hcm := hs.max
 have Hs := hid_ ((hs.upto m hm).below ((((Below.refl w.heap.size w).alloc (Nat.le_refl _) (.cells #[.slice A n c, .int .i64 (ff : Nat)] 121))).alloc (by simp) (.cells #[.slice none 0 0, .int .i64 0] 121)))
 have HR := hid_ (whole_at ((w.alloc (.cells #[.slice A n c, .int .i64 (ff : Nat)] 121))) (w.heap.size + 1) 121 #[.slice none 0 0, .int .i64 0] (by simp))
 have Hb0 := hid_ ((((Below.refl w.heap.size w).alloc (Nat.le_refl _) (.cells #[.slice A n c, .int .i64 (ff : Nat)] 121))).alloc (by simp) (.cells #[.slice none 0 0, .int .i64 0] 121))
 have y1 : (0 : Int) ≤ (m : Int) := by omega
 have y2 : (m : Int) ≤ (c : Int) := by omega
 clear h hs
 go_enter Tryz.func54, Tryz.ntmps54
 go_wp2_with (first
  | (at_builtin; refine wpList_bytes rfl (.const (.slice none 0 0)) (.tmp 8) rfl (w.heap.size + 1 + 1) none 0 0 [] rfl (Own.none _ _) A m c (l.take m) rfl Hs.out m (l.take m) (by omega) (by simp) (by omega) (by simp) ?_; intro A1 c1 w1 ho hb; have Ho := hid_ ho; have R1 := hid_ (HR.out.below hb (by omega)); have Hb1 := hid_ (Hb0.out.trans (hb.mono (by omega))); have r0 := R1.out.cell 0 _ rfl; have r1 := R1.out.cell 1 _ rfl; have f0 := R1.out.free 0; have f1 := R1.out.free 1; clear ho hb)
  | fail)
 exact bodyPost_ret (v := .agg #[.slice A1 m c1, .int .i64 (m : Nat)]) (by simp [results, Tryz.results54, go_sem, r0, r1]) rfl ⟨A1, c1, rfl, (Ho.out.stands (fun k hk => by
  have h9 := World.ownsRow.lt Ho.out k (by rw [own_blockOf]; exact hk)
  rw [Below.heap_setCell _ _ _ k (by show k ≠ w.heap.size + 1; omega), Below.heap_setCell _ _ _ k (by show k ≠ w.heap.size + 1; omega)])).mono (by omega), (Hb1.out.setCell (p := ⟨w.heap.size + 1, 0, none⟩) (by simp) _).setCell (p := ⟨w.heap.size + 1, 1, none⟩) (by simp) _⟩
theorem put_run {w : World} {b n : Nat} {D : DataW Value} (hown : w.ownsMap Tryz.prog 3 elemR b n D) (hn : n < maxLen) {k : Int} (hk : keyOf Tryz.prog 3 (.int .i64 k) = some (kx k)) (val : Value) :
  ∃ w', (Instr.mapUpdate 78 (.map (some b)) (.int .i64 k) val).run Tryz.prog w = .ok () w' ∧ w'.ownsMap Tryz.prog 3 elemR b (n + 1) (D.put (kx k) (.held val)) ∧ w.grownBy w' (some b) :=
 hown.update (t := 78) keyLaw Tryz.underlying78 hn hk (d := .held val) (ps := []) rfl
set_option maxRecDepth 100000 in
set_option maxHeartbeats 4000000 in
theorem cut_any (x size : Int) (h1 : -9223372036854775808 ≤ x) (h2 : x ≤ 9223372036854775807) (g : Nat) (Q : Nat → Prop) (d : DiskD) (w : World) (h : Dk w g Q d) :
  Calls Tryz.prog 125 #[.pointer (some ⟨g, 0, none⟩), .int .i64 x, .int .i64 size] w (DkPost w g Q (.int .i64 (cutK d x size)) (cutD d x size)) := by
 rcases ask_cases d x h.ok with ⟨hk, hd, j, f, rfl, hj, hf⟩ | hk
 ·rcases h.mem with ⟨m1, m2⟩ | ⟨b, D, V, m1, m2⟩
  ·exact (files_some hf m2).elim
  have Hf := hid_ (find_yes g b Q d D V w m1 m2 h.qlt hd j hj f hf)
  have hlen := len_small h.ok hj hf
  have hgl := m1.lt
  by_cases hbad : size < 0 ∨ (f.all.length : Int) < size
  ·have Hk := hid_ (show cutK d (j : Nat) size = 1 by unfold cutK; rw [if_pos hk, Int.toNat_natCast, fileAt_some hf, if_pos hbad])
   have HD := hid_ (show cutD d (j : Nat) size = d by unfold cutD; rw [Hk.out]; rfl)
   have H := hid_ h
   clear h hk hd hf m1 m2
   generalize (V j).1 = A at *
   generalize (V j).2 = c at *
   generalize f.all.length = n at *
   generalize f.fast = ff at *
   generalize cutD d (j : Nat) size = d' at *
   generalize cutK d (j : Nat) size = k' at *
   rcases hbad with hbad | hbad
   ·have e1 : decide (size < 0) = true := decide_eq_true hbad
    go_enter Tryz.func125, Tryz.ntmps125
    go_wp2_with fail
    refine Calls.mono Hf.out ?_
    rintro e w1 ⟨rfl, hb⟩
    have Hb := hid_ (hb.alloc hb.size (.cells #[.slice A n c, .int .i64 (ff : Nat)] 121))
    clear hb
    go_wp2_with fail
    go_ret
    exact dkPost_same Hk.out.symm H.out HD.out Hb.out
   ·have e1 : decide (size < 0) = false := decide_eq_false (by omega)
    have e2 : decide (size > (n : Int)) = true := decide_eq_true hbad
    have e3 : decide ((n : Int) < size) = true := decide_eq_true hbad
    go_enter Tryz.func125, Tryz.ntmps125
    go_wp2_with fail
    refine Calls.mono Hf.out ?_
    rintro e w1 ⟨rfl, hb⟩
    have Hb := hid_ (hb.alloc hb.size (.cells #[.slice A n c, .int .i64 (ff : Nat)] 121))
    clear hb
    go_wp2_with fail
    go_ret
    exact dkPost_same Hk.out.symm H.out HD.out Hb.out
  ·obtain ⟨m, rfl⟩ := Int.eq_ofNat_of_zero_le (show 0 ≤ size by omega)
   have hmn : m ≤ f.all.length := by omega
   have Hk := hid_ (show cutK d (j : Nat) (m : Nat) = 0 by unfold cutK; rw [if_pos hk, Int.toNat_natCast, fileAt_some hf, if_neg hbad])
   have HD := hid_ (show cutD d (j : Nat) (m : Nat) = withF d (setF d.F j (some ⟨f.all.take m, m⟩)) by unfold cutD; rw [if_pos ⟨Hk.out, hk⟩, Int.toNat_natCast, Int.toNat_natCast]; unfold firstF; rw [fileAt_some hf])
   have Hown := hid_ (m2.owns h.ok.high)
   have Hend := hid_ (fun (wa w' : World) (A' : Option Addr) (c' n' : Nat) (hb : Below w.heap.size w wa) (ho : Own w.heap.size wa A' m c' (f.all.take m)) (hm : w'.ownsMap Tryz.prog 3 elemR b n' (D.put (kx (j : Nat)) (.held (.agg #[.slice A' m c', .int .i64 (m : Nat)])))) (hg : wa.grownBy w' (some b)) =>
    show DkPost w g Q (.int .i64 (cutK d (j : Nat) (m : Nat))) (cutD d (j : Nat) (m : Nat)) (.returned (.int .i64 0)) w' from by
     have hbl := h.qlt b m2.bq
     have hq : ∀ q, Q q → q ≠ b → w'.heap[q]? = w.heap[q]? := fun q hq hne => (hg.block q (Nat.lt_of_lt_of_le (h.qlt q hq) hb.size) (by intro e; injection e with e; exact hne e)).trans (hb.block q (h.qlt q hq))
     have hD := cutD_ok h.ok (j : Nat) (m : Nat)
     have hlm : m = (f.all.take m).length := by rw [List.length_take]; omega
     have hge : ∀ k, blockOf A' = some k → w.heap.size ≤ k := fun k e => (World.ownsRow.lt ho k (by rw [own_blockOf]; exact e)).1
     rw [HD.out] at hD ⊢
     obtain ⟨Q', h1, h2⟩ := h.put m1 m2 j A' m c' ⟨f.all.take m, m⟩ hlm _ rfl (Nat.le_trans hb.size hg.size) ⟨_, hm⟩
      (((ho.stands (fun k e => hg.block k (ho.blk_lt k e) (by intro e2; injection e2 with e2; have := hge k e; omega))).mono (Nat.zero_le _)).at_ rfl rfl) (fun k e => .inr (hge k e)) (fun q hq1 hq2 _ => hq q hq1 hq2) hD
     exact dkPost_mk (by rw [Hk.out]) h1 rfl ((Tn.of_below hb).grown hg (fun k e => by injection e with e; exact .inl (e ▸ m2.bq))) h2)
   have Hfi := hid_ (fun (W : World) (hb : Below w.heap.size w W) => first_any (V j).1 f.all.length (V j).2 f.all f.fast m W ((m2.row j f hf).later hb) hmn hlen)
   obtain ⟨c0, c1, c2, c3, c4, -⟩ := dk_facts m1
   clear h hk hd hf m1 m2 hbad
   generalize (V j).1 = A at *
   generalize (V j).2 = c at *
   generalize f.all.take m = lm at *
   generalize f.all.length = n at *
   generalize f.fast = ff at *
   have e1 : decide ((m : Int) < 0) = false := decide_eq_false (by omega)
   have e2 : decide (n < m) = false := decide_eq_false (by omega)
   go_enter Tryz.func125, Tryz.ntmps125
   go_wp2_with fail
   refine Calls.mono Hf.out ?_
   rintro e w1 ⟨rfl, hb⟩
   have hz := hb.size
   obtain ⟨wz, Hwz, z1, z2, z3, Hb⟩ : ∃ wz, wz = w1.alloc (.cells #[.slice A n c, .int .i64 (ff : Nat)] 121) ∧ wz.cell? ⟨g, 1, none⟩ = some (.map (some b)) ∧ wz.cell? ⟨w1.heap.size, 0, none⟩ = some (.slice A n c) ∧ wz.cell? ⟨w1.heap.size, 1, none⟩ = some (.int .i64 (ff : Nat)) ∧ Hid (Below w.heap.size w wz) := by
    refine ⟨_, rfl, ?_, ?_, ?_, hid_ (hb.alloc hb.size _)⟩
    ·rw [(hb.alloc hb.size _).cell (p := ⟨g, 1, none⟩) hgl]; exact c1
    ·exact (whole_new w1 _ _).cell 0 _ rfl
    ·exact (whole_new w1 _ _).cell 1 _ rfl
   have Hwz' := hid_ Hwz
   have hlt1 := lt_of_cell z1
   have hlt2 := lt_of_cell z2
   clear hb Hwz
   go_wp2_with fail
   rw [← Hwz'.out]
   clear Hwz'
   have Hbd := hid_ Hb.out.drew
   have z1d : wz.drew.cell? ⟨g, 1, none⟩ = some (.map (some b)) := z1
   have z2d : wz.drew.cell? ⟨w1.heap.size, 0, none⟩ = some (.slice A n c) := z2
   have z3d : wz.drew.cell? ⟨w1.heap.size, 1, none⟩ = some (.int .i64 (ff : Nat)) := z3
   go_region_law (first
    | (go_simp; go_at_call 54; (with_reducible refine Calls.mono (Hfi.out _ Hbd.out) ?_); rintro e w2 ⟨A', c', rfl, ho2, hb2⟩; have Ho2 := hid_ (Own.mono ho2 Hbd.out.size); have Hb2 := hid_ (Hbd.out.trans (hb2.mono Hbd.out.size)); have z1e : w2.cell? ⟨g, 1, none⟩ = some (.map (some b)) := (hb2.cell (p := ⟨g, 1, none⟩) hlt1).trans z1; obtain ⟨w3, hrun3, hm3, hg3⟩ := put_run (World.ownsMap.kept Hown.out (grown_below Hb2.out (Nat.le_refl _) none) (by simp)) (by unfold maxLen; omega) (kx_key h1 h2) (.agg #[.slice A' m c', .int .i64 (m : Nat)]); have Hm3 := hid_ hm3; have Hg3 := hid_ hg3; clear ho2 hb2 hm3 hg3)
    | fail)
   all_goals
    go_wp2_with fail
    go_ret
    exact Hend.out w2 w3 A' c' _ Hb2.out Ho2.out Hm3.out Hg3.out
 ·have Hk := hid_ (show cutK d x size = askK d x by unfold cutK; rw [if_neg hk])
  have HD := hid_ (show cutD d x size = d by unfold cutD; rw [if_neg (fun hc => hk hc.2)])
  have Hf := hid_ (find_no g Q d w h x h1 h2 hk)
  have hk' : (askK d x == 0) = false := beq_eq_false_iff_ne.2 hk
  have hk2 : (askK d x != 0) = true := by simp [bne, hk']
  have H := hid_ h
  clear h hk
  generalize cutD d x size = d' at *
  generalize cutK d x size = k' at *
  generalize askK d x = k at *
  go_enter Tryz.func125, Tryz.ntmps125
  go_wp2_with fail
  refine Calls.mono Hf.out ?_
  rintro e w1 ⟨rfl, hb⟩
  have Hb := hid_ (hb.alloc hb.size (.cells #[.slice none 0 0, .int .i64 0] 121))
  clear hb
  go_wp2_with fail
  go_ret
  exact dkPost_same Hk.out.symm H.out HD.out Hb.out
end Dsk
end Go.Proofs.YthjhofmjhmnddaaGreat
/-
 The program's lay of bytes behind a file.
-/
namespace Go.Proofs.YthjhofmjhmnddaaGreat
open Go.RowKit
open Go.Maps (Keyed)
open Go.Proofs Go.Shelf
namespace Dsk
theorem layD_ok {d : DiskD} (h : DOk d) {j : Nat} (hj : j < 64) {b : List UInt8} (hb : usedF d.F + b.length ≤ d.room) : DOk (withF d (layF d.F j b)) := by
 refine ⟨h.room1, h.room2, ?_, lay_fast h.fast j _, ?_, h.left⟩
 ·show usedF (layF d.F j _) ≤ d.room
  rw [used_lay _ _ hj]
  omega
 ·intro i hi
  show layF d.F j _ i = none
  rw [layF, setF_other _ _ (by omega)]
  exact h.high i hi
theorem FilesIn.slot {w : World} {g b : Nat} {Q : Nat → Prop} {F : Files} {D : DataW Value} {V : Nat → Option Addr × Nat} (h : FilesIn w g b Q F D V) (j : Nat) (hj : j < 64) :
  ∃ A c, (Instr.lookup 78 (.map (some b)) (.int .i64 (j : Nat)) false).run Tryz.prog w = .ok (.agg #[.slice A (fileAt F j).all.length c, .int .i64 ((fileAt F j).fast : Nat)]) w ∧
   Own 0 w A (fileAt F j).all.length c (fileAt F j).all ∧ ∀ k, blockOf A = some k → (F j).isSome = true ∧ blockOf (V j).1 = some k := by
 have h3 := h.look (j : Nat) (by omega) (by omega) false
 rw [if_neg (by decide), Int.toNat_natCast] at h3
 cases hf : F j with
 | none =>
  rw [hf, if_neg (by simp)] at h3
  have e : fileAt F j = ⟨[], 0⟩ := by simp [fileAt, hf]
  rw [e]
  exact ⟨none, 0, h3, Own.none _ _, fun k e => by cases e⟩
 | some f =>
  rw [hf, if_pos ⟨by omega, rfl⟩, fileAt_some hf] at h3
  rw [fileAt_some hf]
  exact ⟨(V j).1, (V j).2, h3, h.row j f hf, fun k e => ⟨rfl, e⟩⟩
theorem map_eql (b : Nat) (W : World) : Sem.run Tryz.prog (binOp BinOp.eql 78 (.map (some b)) (.map none)) W = .ok (.bool false) W := by kernel_rfl
theorem map_eql_nil (W : World) : Sem.run Tryz.prog (binOp BinOp.eql 78 (.map none) (.map none)) W = .ok (.bool true) W := by kernel_rfl
set_option maxRecDepth 100000 in
set_option maxHeartbeats 4000000 in
theorem lay_some (j : Nat) (hj : j < 64) (Ab : Option Addr) (nb cb : Nat) (bs : List UInt8) (g b : Nat) (Q : Nat → Prop) (d : DiskD) (D : DataW Value) (V : Nat → Option Addr × Nat) (w : World) (h : Dk w g Q d) (m1 : Whole w g 80 (cellsD (some b) d)) (m2 : FilesIn w g b Q d.F D V)
  (hb : Sl w Ab nb cb bs) (hroom : usedF d.F + bs.length ≤ d.room) :
  Calls Tryz.prog 90 #[.pointer (some ⟨g, 0, none⟩), .int .i64 (j : Nat), .slice Ab nb cb] w (DkPost w g Q (.tuple #[]) (withF d (layF d.F j bs))) := by
 obtain ⟨A, c, hlook, hown, hblk⟩ := m2.slot j hj
 have hgl := m1.lt
 have hlen : (fileAt d.F j).all.length + bs.length ≤ 1048576 := by
  have := size_le_used d.F hj
  rw [size_fileAt] at this
  have := h.ok.room2
  omega
 have Hown := hid_ (m2.owns h.ok.high)
 have hgA : blockOf A ≠ some g := fun e => (m2.blk j g (hblk g e).1 (hblk g e).2).2.2 rfl
 have hbA : blockOf A ≠ some b := fun e => (m2.blk j b (hblk b e).1 (hblk b e).2).2.1 rfl
 have hlA : ∀ k, blockOf A = some k → k < w.heap.size := hown.blk_lt
 have hnb : nb = bs.length := hb.len.symm
 have Hend := hid_ (fun (w1 w2 w' : World) (A' : Option Addr) (N c' n' : Nat) (hN : N = (fileAt d.F j).all.length + nb) (ho : Own 0 w1 A' N c' ((fileAt d.F j).all ++ bs)) (hg1 : (w.alloc (.cells #[.slice A (fileAt d.F j).all.length c, .int .i64 ((fileAt d.F j).fast : Nat)] 121)).grownBy w1 (blockOf A)) (hat : blockOf A' = blockOf A ∨ blockOf A' = some (w.heap.size + 1))
   (hg2 : w1.grownBy w2 (some w.heap.size)) (hm : w'.ownsMap Tryz.prog 3 elemR b n' (D.put (kx (j : Nat)) (.held (.agg #[.slice A' N c', .int .i64 ((fileAt d.F j).fast : Nat)])))) (hg3 : w2.grownBy w' (some b)) =>
  show DkPost w g Q (.tuple #[]) (withF d (layF d.F j bs)) (.returned (.tuple #[])) w' from by
   have hbl := h.qlt b m2.bq
   have hs1 : w.heap.size + 1 ≤ w1.heap.size := by have := hg1.size; simpa using this
   have hs2 : w1.heap.size ≤ w2.heap.size := hg2.size
   have hs3 : w2.heap.size ≤ w'.heap.size := hg3.size
   have hq : ∀ q, q < w.heap.size → q ≠ b → blockOf A ≠ some q → w'.heap[q]? = w.heap[q]? := fun q hq hne hnA =>
    (hg3.block q (by omega) (by intro e; injection e with e; exact hne e)).trans ((hg2.block q (by omega) (by intro e; injection e with e; omega)).trans ((hg1.block q (by simp; omega) (fun e => hnA e.symm)).trans (Below.heap_alloc _ _ q hq)))
   have hA' : ∀ k, blockOf A' = some k → ((d.F j).isSome = true ∧ blockOf (V j).1 = some k) ∨ w.heap.size ≤ k := by
    intro k e
    rcases hat with e2 | e2
    ·rw [e2] at e; exact .inl (hblk k e)
    ·rw [e2] at e; injection e with e; exact .inr (by omega)
   have hw1 : ∀ k, blockOf A' = some k → k ≠ b ∧ k ≠ w.heap.size ∧ k < w1.heap.size := by
    intro k e
    refine ⟨?_, ?_, ho.blk_lt k e⟩
    ·rcases hA' k e with ⟨h1, h2⟩ | h1
     ·exact (m2.blk j k h1 h2).2.1
     ·omega
    ·rcases hat with e2 | e2
     ·rw [e2] at e; have := hlA k e; omega
     ·rw [e2] at e; injection e with e; omega
   have hD := layD_ok h.ok hj hroom
   obtain ⟨Q', h1, h2⟩ := h.put m1 m2 j A' N c' ⟨(fileAt d.F j).all ++ bs, (fileAt d.F j).fast⟩ (show N = ((fileAt d.F j).all ++ bs).length by rw [List.length_append]; omega) _ rfl (by omega) ⟨_, hm⟩
    (ho.stands (fun k e => (hg3.block k (by have := (hw1 k e).2.2; omega) (by intro e2; injection e2 with e2; exact (hw1 k e).1 e2)).trans (hg2.block k (hw1 k e).2.2 (by intro e2; injection e2 with e2; exact (hw1 k e).2.1 e2))))
    hA' (fun q hq1 hq2 hq3 => hq q (h.qlt q hq1) hq2 (fun e => hq3 (hblk q e).1 (hblk q e).2)) hD
   refine dkPost_mk rfl h1 rfl ?_ h2
   refine ((((Tn.refl Q w).alloc _).grown hg1 (fun k e => ?_)).grown hg2 (fun k e => ?_)).grown hg3 (fun k e => ?_)
   ·exact .inl (m2.blk j k (hblk k e).1 (hblk k e).2).1
   ·injection e with e; exact .inr (by omega)
   ·injection e with e; exact .inl (e ▸ m2.bq))
 obtain ⟨c0, c1, c2, c3, c4, -⟩ := dk_facts m1
 have HownA := hid_ (hown.alloc (.cells #[.slice A (fileAt d.F j).all.length c, .int .i64 ((fileAt d.F j).fast : Nat)] 121))
 have HslB := hid_ (hb.below ((Below.refl _ _).alloc (Nat.le_refl _) (.cells #[.slice A (fileAt d.F j).all.length c, .int .i64 ((fileAt d.F j).fast : Nat)] 121)))
 have HB := hid_ (whole_new w 121 #[.slice A (fileAt d.F j).all.length c, .int .i64 ((fileAt d.F j).fast : Nat)])
 have HG := hid_ (m1.alloc (.cells #[.slice A (fileAt d.F j).all.length c, .int .i64 ((fileAt d.F j).fast : Nat)] 121))
 have HownM := hid_ (World.ownsMap.alloc Hown.out (.cells #[.slice A (fileAt d.F j).all.length c, .int .i64 ((fileAt d.F j).fast : Nat)] 121))
 have HbA := hid_ hbA
 have HgA := hid_ hgA
 have HlA := hid_ hlA
 clear h m1 m2 hb hown hblk hgA hbA hlA hroom
 generalize withF d (layF d.F j bs) = d' at *
 generalize (fileAt d.F j).all = l at *
 generalize (fileAt d.F j).fast = ff at *
 have Hnb := hid_ hnb
 obtain ⟨n, hn⟩ : ∃ n, n = l.length := ⟨_, rfl⟩
 have hnn : n + nb ≤ 1048576 := by omega
 simp only [← hn] at *
 clear hn hnb hlen
 have heq := map_eql b
 go_enter Tryz.func90, Tryz.ntmps90
 go_wp2_with (first
  | (at_builtin; refine wpList_bytesG rfl (.tmp 23) (.tmp 24) rfl 0 A n c l rfl HownA.out Ab nb cb bs rfl HslB.out (n + nb) (l ++ bs) rfl rfl (by omega) (Nat.zero_le _) ?_; intro A' c' w1 ho hb hg hat; rw [own_blockOf] at hg hat; rw [own_blockOf] at hat; have Ho := hid_ ho; have Hg := hid_ hg; have Hat := hid_ hat; have B1 := hid_ (whole_grown HB.out hg (fun e => by have := HlA.out _ e; omega)); have G1 := hid_ (whole_grown HG.out hg HgA.out); have M1 := hid_ (World.ownsMap.kept HownM.out hg (fun e => HbA.out e.symm)); have b0 := B1.out.cell 0 _ rfl; have bf := B1.out.free 0; have hz1 : w.heap.size + 1 ≤ w1.heap.size := (by have := hg.size; simpa using this); clear ho hb hg hat)
  | fail)
 have B2 := hid_ (B1.out.store 0 (.slice A' (n + nb) c'))
 have hgne : g ≠ w.heap.size := by omega
 have G2 := hid_ (G1.out.far (p := ⟨w.heap.size, 0, none⟩) hgne (.slice A' (n + nb) c'))
 have hbl : b < w.heap.size := Hown.out.lt
 have hbne : b ≠ w.heap.size := by omega
 have M2 := hid_ (World.ownsMap.setCell M1.out (a := ⟨w.heap.size, 0, none⟩) hbne (.slice A' (n + nb) c'))
 have Hg2 := hid_ (grown_set w1 w.heap.size 0 (.slice A' (n + nb) c'))
 clear b0 bf
 generalize hwz : w1.setCell ⟨w.heap.size, 0, none⟩ (.slice A' (n + nb) c') = wz at *
 clear hwz
 have z1 := G2.out.cell 1 _ rfl
 have z2 := B2.out.cell 0 _ rfl
 have z3 := B2.out.cell 1 _ rfl
 go_still_tail 6, (by kernel_rfl)
 have M3 := hid_ M2.out.drew
 have Hg3 := hid_ (grown_drew Hg2.out)
 go_wp2_with (first
  | (at_mapUpdate; refine wpList_mapUpdate_own _ rfl _ _ _ 78 rfl 3 121 keyLaw Tryz.underlying78 _ b 64 _ rfl M3.out (by unfold maxLen; omega) _ _ _ rfl rfl (kx_key (by omega) (by omega)) (.held (.agg #[.slice A' (n + nb) c', .int .i64 (ff : Nat)])) [] rfl ?_; intro w2 hm hg)
  | fail)
 go_end0
 exact Hend.out w1 _ w2 A' (n + nb) c' 65 (by rw [Hnb.out]) Ho.out Hg.out (by simpa using Hat.out) Hg3.out hm hg
end Dsk
end Go.Proofs.YthjhofmjhmnddaaGreat
/-
 The program's lay of bytes behind a file, where there is no map yet.
-/
namespace Go.Proofs.YthjhofmjhmnddaaGreat
open Go.RowKit
open Go.Maps (Keyed)
open Go.Proofs Go.Shelf
namespace Dsk
theorem dkPost_from {w wA w' : World} {g : Nat} {Q QA : Nat → Prop} {v : Value} {d : DiskD} {e : Ending} (h0 : Tn Q w wA) (hq : ∀ q, QA q → Q q ∨ w.heap.size ≤ q) (hs : w.heap.size ≤ wA.heap.size) (h : DkPost wA g QA v d e w') : DkPost w g Q v d e w' := by
 obtain ⟨he, Q', h1, h2, h3⟩ := h
 refine ⟨he, Q', h1, h0.trans h2 hq, fun q hq2 => ?_⟩
 rcases h3 q hq2 with h4 | h4
 ·exact hq q h4
 ·exact .inr (by omega)
set_option maxRecDepth 100000 in
set_option maxHeartbeats 4000000 in
theorem lay_none (j : Nat) (hj : j < 64) (Ab : Option Addr) (nb cb : Nat) (bs : List UInt8) (g : Nat) (Q : Nat → Prop) (d : DiskD) (w : World) (h0 : Dk w g Q d) (m0 : Whole w g 80 (cellsD none d)) (hF : d.F = noF)
  (hb0 : Sl w Ab nb cb bs) (hQb : ∀ a, Ab = some a → bs ≠ [] → a.block ≠ g) (hroom : usedF d.F + bs.length ≤ d.room) :
  Calls Tryz.prog 90 #[.pointer (some ⟨g, 0, none⟩), .int .i64 (j : Nat), .slice Ab nb cb] w (DkPost w g Q (.tuple #[]) (withF d (layF d.F j bs))) := by
 have hgl0 := m0.lt
 obtain ⟨c00, c10, c20, c30, c40, cf0⟩ := dk_facts m0
 have cf1 := cf0 1
 obtain ⟨wA, HwA, m1, m2, h, hb, H0, HqA, hszA⟩ : ∃ wA, (w.alloc (.map #[] 0)).setCell ⟨g, 1, none⟩ (.map (some w.heap.size)) = wA ∧ Whole wA g 80 (cellsD (some w.heap.size) d) ∧ FilesIn wA g w.heap.size (fun q => Q q ∨ q = w.heap.size) d.F (.map []) (fun _ => (none, 0)) ∧ Dk wA g (fun q => Q q ∨ q = w.heap.size) d ∧ Sl wA Ab nb cb bs ∧ Hid (Tn Q w wA) ∧ Hid (∀ q, (Q q ∨ q = w.heap.size) → Q q ∨ w.heap.size ≤ q) ∧ w.heap.size ≤ wA.heap.size := by
  have e1 : Whole ((w.alloc (.map #[] 0)).setCell ⟨g, 1, none⟩ (.map (some w.heap.size))) g 80 (cellsD (some w.heap.size) d) := (m0.alloc (.map #[] 0)).store 1 _
  have e2 : FilesIn ((w.alloc (.map #[] 0)).setCell ⟨g, 1, none⟩ (.map (some w.heap.size))) g w.heap.size (fun q => Q q ∨ q = w.heap.size) d.F (.map []) (fun _ => (none, 0)) := by
   rw [hF]
   exact (files_made w g w.heap.size rfl (by omega) _ (.inr rfl)).stands (fun q hq hne => Below.heap_setCell _ _ _ q hne)
  refine ⟨_, rfl, e1, e2, ⟨h0.ok, .inl h0.qg, ?_, .inr ⟨_, _, _, e1, e2⟩⟩, ?_, hid_ (((Tn.refl Q w).alloc _).set (.inl h0.qg) 1 _), hid_ (fun q hq => ?_), by simp⟩
  ·rintro q (hq | rfl)
   ·have := h0.qlt q hq; simp; omega
   ·simp
  ·exact sl_farg (hb0.below ((Below.refl _ _).alloc (Nat.le_refl _) _)) hQb 1 _
  ·rcases hq with hq | hq
   ·exact .inl hq
   ·exact .inr (by omega)
 clear h0 m0 hb0 hF hQb
 obtain ⟨A, c, hlook, hown, hblk⟩ := m2.slot j hj
 have hgl := m1.lt
 have hlen : (fileAt d.F j).all.length + bs.length ≤ 1048576 := by
  have := size_le_used d.F hj
  rw [size_fileAt] at this
  have := h.ok.room2
  omega
 have Hown := hid_ (m2.owns h.ok.high)
 have hgA : blockOf A ≠ some g := fun e => (m2.blk j g (hblk g e).1 (hblk g e).2).2.2 rfl
 have hbA : blockOf A ≠ some w.heap.size := fun e => (m2.blk j w.heap.size (hblk w.heap.size e).1 (hblk w.heap.size e).2).2.1 rfl
 have hlA : ∀ k, blockOf A = some k → k < wA.heap.size := hown.blk_lt
 have hnb : nb = bs.length := hb.len.symm
 have Hend := hid_ (fun (w1 w2 w' : World) (A' : Option Addr) (N c' n' : Nat) (hN : N = (fileAt d.F j).all.length + nb) (ho : Own 0 w1 A' N c' ((fileAt d.F j).all ++ bs)) (hg1 : (wA.alloc (.cells #[.slice A (fileAt d.F j).all.length c, .int .i64 ((fileAt d.F j).fast : Nat)] 121)).grownBy w1 (blockOf A)) (hat : blockOf A' = blockOf A ∨ blockOf A' = some (wA.heap.size + 1))
   (hg2 : w1.grownBy w2 (some wA.heap.size)) (hm : w'.ownsMap Tryz.prog 3 elemR w.heap.size n' ((DataW.map [] : DataW Value).put (kx (j : Nat)) (.held (.agg #[.slice A' N c', .int .i64 ((fileAt d.F j).fast : Nat)])))) (hg3 : w2.grownBy w' (some w.heap.size)) =>
  show DkPost wA g (fun q => Q q ∨ q = w.heap.size) (.tuple #[]) (withF d (layF d.F j bs)) (.returned (.tuple #[])) w' from by
   have hbl := h.qlt w.heap.size m2.bq
   have hs1 : wA.heap.size + 1 ≤ w1.heap.size := by have := hg1.size; simpa using this
   have hs2 : w1.heap.size ≤ w2.heap.size := hg2.size
   have hs3 : w2.heap.size ≤ w'.heap.size := hg3.size
   have hq : ∀ q, q < wA.heap.size → q ≠ w.heap.size → blockOf A ≠ some q → w'.heap[q]? = wA.heap[q]? := fun q hq hne hnA =>
    (hg3.block q (by omega) (by intro e; injection e with e; exact hne e)).trans ((hg2.block q (by omega) (by intro e; injection e with e; omega)).trans ((hg1.block q (by simp; omega) (fun e => hnA e.symm)).trans (Below.heap_alloc _ _ q hq)))
   have hA' : ∀ k, blockOf A' = some k → ((d.F j).isSome = true ∧ blockOf ((fun _ : Nat => ((none : Option Addr), 0)) j).1 = some k) ∨ wA.heap.size ≤ k := by
    intro k e
    rcases hat with e2 | e2
    ·rw [e2] at e; exact .inl (hblk k e)
    ·rw [e2] at e; injection e with e; exact .inr (by omega)
   have hw1 : ∀ k, blockOf A' = some k → k ≠ w.heap.size ∧ k ≠ wA.heap.size ∧ k < w1.heap.size := by
    intro k e
    refine ⟨?_, ?_, ho.blk_lt k e⟩
    ·rcases hA' k e with ⟨h1, h2⟩ | h1
     ·exact (m2.blk j k h1 h2).2.1
     ·omega
    ·rcases hat with e2 | e2
     ·rw [e2] at e; have := hlA k e; omega
     ·rw [e2] at e; injection e with e; omega
   have hD := layD_ok h.ok hj hroom
   obtain ⟨Q', h1, h2⟩ := h.put m1 m2 j A' N c' ⟨(fileAt d.F j).all ++ bs, (fileAt d.F j).fast⟩ (show N = ((fileAt d.F j).all ++ bs).length by rw [List.length_append]; omega) _ rfl (by omega) ⟨_, hm⟩
    (ho.stands (fun k e => (hg3.block k (by have := (hw1 k e).2.2; omega) (by intro e2; injection e2 with e2; exact (hw1 k e).1 e2)).trans (hg2.block k (hw1 k e).2.2 (by intro e2; injection e2 with e2; exact (hw1 k e).2.1 e2))))
    hA' (fun q hq1 hq2 hq3 => hq q (h.qlt q hq1) hq2 (fun e => hq3 (hblk q e).1 (hblk q e).2)) hD
   refine dkPost_mk rfl h1 rfl ?_ h2
   refine ((((Tn.refl _ wA).alloc _).grown hg1 (fun k e => ?_)).grown hg2 (fun k e => ?_)).grown hg3 (fun k e => ?_)
   ·exact .inl (m2.blk j k (hblk k e).1 (hblk k e).2).1
   ·injection e with e; exact .inr (by omega)
   ·injection e with e; exact .inl (e ▸ m2.bq))
 obtain ⟨c0, c1, c2, c3, c4, -⟩ := dk_facts m1
 have HownA := hid_ (hown.alloc (.cells #[.slice A (fileAt d.F j).all.length c, .int .i64 ((fileAt d.F j).fast : Nat)] 121))
 have HslB := hid_ (hb.below ((Below.refl _ _).alloc (Nat.le_refl _) (.cells #[.slice A (fileAt d.F j).all.length c, .int .i64 ((fileAt d.F j).fast : Nat)] 121)))
 have HB := hid_ (whole_new wA 121 #[.slice A (fileAt d.F j).all.length c, .int .i64 ((fileAt d.F j).fast : Nat)])
 have HG := hid_ (m1.alloc (.cells #[.slice A (fileAt d.F j).all.length c, .int .i64 ((fileAt d.F j).fast : Nat)] 121))
 have HownM := hid_ (World.ownsMap.alloc Hown.out (.cells #[.slice A (fileAt d.F j).all.length c, .int .i64 ((fileAt d.F j).fast : Nat)] 121))
 have HbA := hid_ hbA
 have HgA := hid_ hgA
 have HlA := hid_ hlA
 clear h m1 m2 hb hown hblk hgA hbA hlA hroom
 generalize withF d (layF d.F j bs) = d' at *
 generalize (fileAt d.F j).all = l at *
 generalize (fileAt d.F j).fast = ff at *
 have Hnb := hid_ hnb
 obtain ⟨n, hn⟩ : ∃ n, n = l.length := ⟨_, rfl⟩
 have hnn : n + nb ≤ 1048576 := by omega
 simp only [← hn] at *
 clear hn hnb hlen
 have heq := map_eql_nil
 have hmm := @run_makeMap Tryz.prog
 go_enter Tryz.func90, Tryz.ntmps90
 go_wp2_with (first
  | (at_builtin; refine wpList_bytesG rfl (.tmp 23) (.tmp 24) rfl 0 A n c l rfl HownA.out Ab nb cb bs rfl HslB.out (n + nb) (l ++ bs) rfl rfl (by omega) (Nat.zero_le _) ?_; intro A' c' w1 ho hb hg hat; rw [own_blockOf] at hg hat; rw [own_blockOf] at hat; have Ho := hid_ ho; have Hg := hid_ hg; have Hat := hid_ hat; have B1 := hid_ (whole_grown HB.out hg (fun e => by have := HlA.out _ e; omega)); have G1 := hid_ (whole_grown HG.out hg HgA.out); have M1 := hid_ (World.ownsMap.kept HownM.out hg (fun e => HbA.out e.symm)); have b0 := B1.out.cell 0 _ rfl; have bf := B1.out.free 0; have hz1 : wA.heap.size + 1 ≤ w1.heap.size := (by have := hg.size; simpa using this); clear ho hb hg hat)
  | fail)
 have B2 := hid_ (B1.out.store 0 (.slice A' (n + nb) c'))
 have hgne : g ≠ wA.heap.size := by omega
 have G2 := hid_ (G1.out.far (p := ⟨wA.heap.size, 0, none⟩) hgne (.slice A' (n + nb) c'))
 have hbl : w.heap.size < wA.heap.size := Hown.out.lt
 have hbne : w.heap.size ≠ wA.heap.size := by omega
 have M2 := hid_ (World.ownsMap.setCell M1.out (a := ⟨wA.heap.size, 0, none⟩) hbne (.slice A' (n + nb) c'))
 have Hg2 := hid_ (grown_set w1 wA.heap.size 0 (.slice A' (n + nb) c'))
 clear b0 bf
 generalize hwz : w1.setCell ⟨wA.heap.size, 0, none⟩ (.slice A' (n + nb) c') = wz at *
 clear hwz
 have z1 := G2.out.cell 1 _ rfl
 have z2 := B2.out.cell 0 _ rfl
 have z3 := B2.out.cell 1 _ rfl
 go_still_tail 6, (by kernel_rfl)
 have M3 := hid_ M2.out.drew
 have Hg3 := hid_ (grown_drew Hg2.out)
 go_wp2_with (first
  | (at_mapUpdate; refine wpList_mapUpdate_own _ rfl _ _ _ 78 rfl 3 121 keyLaw Tryz.underlying78 _ w.heap.size 64 _ rfl M3.out (by unfold maxLen; omega) _ _ _ rfl rfl (kx_key (by omega) (by omega)) (.held (.agg #[.slice A' (n + nb) c', .int .i64 (ff : Nat)])) [] rfl ?_; intro w2 hm hg)
  | fail)
 go_end0
 exact dkPost_from H0.out HqA.out hszA (Hend.out w1 _ w2 A' (n + nb) c' 65 (by rw [Hnb.out]) Ho.out Hg.out (by simpa using Hat.out) Hg3.out hm hg)
end Dsk
end Go.Proofs.YthjhofmjhmnddaaGreat
/-
 The program's Append to a disk.
-/
namespace Go.Proofs.YthjhofmjhmnddaaGreat
open Go.RowKit
open Go.Maps (Keyed)
open Go.Proofs Go.Shelf
namespace Dsk
theorem lay_any (j : Nat) (hj : j < 64) (Ab : Option Addr) (nb cb : Nat) (bs : List UInt8) (g : Nat) (Q : Nat → Prop) (d : DiskD) (w : World) (h : Dk w g Q d)
  (hb : Sl w Ab nb cb bs) (hQb : ∀ a, Ab = some a → bs ≠ [] → a.block ≠ g) (hroom : usedF d.F + bs.length ≤ d.room) :
  Calls Tryz.prog 90 #[.pointer (some ⟨g, 0, none⟩), .int .i64 (j : Nat), .slice Ab nb cb] w (DkPost w g Q (.tuple #[]) (withF d (layF d.F j bs))) := by
 rcases h.mem with ⟨m1, m2⟩ | ⟨b, D, V, m1, m2⟩
 ·exact lay_none j hj Ab nb cb bs g Q d w h m1 m2 hb hQb hroom
 ·exact lay_some j hj Ab nb cb bs g b Q d D V w h m1 m2 hb hroom
theorem append_nil (x : Int) (Ab : Option Addr) (nb cb : Nat) (w : World) : Calls Tryz.prog 59 #[.pointer none, .int .i64 x, .slice Ab nb cb] w (fun e w' => e = .returned (.int .i64 13) ∧ w = w') := by
 go_enter Tryz.func59, Tryz.ntmps59
 go_wp2_with fail
 refine Calls.mono (up_nil _) ?_
 rintro e w1 ⟨rfl, rfl⟩
 go_wp2_with fail
 go_ret
 exact ⟨rfl, rfl⟩
theorem append_down (x : Int) (Ab : Option Addr) (nb cb : Nat) (g : Nat) (Q : Nat → Prop) (d : DiskD) (w : World) (h : Dk w g Q d) (hd : d.down = true) : Calls Tryz.prog 59 #[.pointer (some ⟨g, 0, none⟩), .int .i64 x, .slice Ab nb cb] w (DkPost w g Q (.int .i64 10) d) := by
 have Hu := hid_ (up_any g Q d w h)
 rw [hd] at Hu
 have H := hid_ h
 clear h hd
 go_enter Tryz.func59, Tryz.ntmps59
 go_wp2_with fail
 refine Calls.mono Hu.out ?_
 rintro e w1 ⟨rfl, rfl⟩
 go_wp2_with fail
 go_ret
 exact dkPost_same rfl H.out rfl (Below.refl _ _)
theorem append_bad (x : Int) (hx : x < 0 ∨ 64 ≤ x) (Ab : Option Addr) (nb cb : Nat) (g : Nat) (Q : Nat → Prop) (d : DiskD) (w : World) (h : Dk w g Q d) (hd : d.down = false) : Calls Tryz.prog 59 #[.pointer (some ⟨g, 0, none⟩), .int .i64 x, .slice Ab nb cb] w (DkPost w g Q (.int .i64 1) d) := by
 have Hu := hid_ (up_any g Q d w h)
 rw [hd] at Hu
 have H := hid_ h
 clear h hd
 rcases hx with hx | hx
 ·have e1 : decide (x < 0) = true := decide_eq_true hx
  go_enter Tryz.func59, Tryz.ntmps59
  go_wp2_with fail
  refine Calls.mono Hu.out ?_
  rintro e w1 ⟨rfl, rfl⟩
  go_wp2_with fail
  go_ret
  exact dkPost_same rfl H.out rfl (Below.refl _ _)
 ·have e1 : decide (x < 0) = false := decide_eq_false (by omega)
  have e2 : decide (64 ≤ x) = true := decide_eq_true hx
  go_enter Tryz.func59, Tryz.ntmps59
  go_wp2_with fail
  refine Calls.mono Hu.out ?_
  rintro e w1 ⟨rfl, rfl⟩
  go_wp2_with fail
  go_ret
  exact dkPost_same rfl H.out rfl (Below.refl _ _)
set_option maxRecDepth 100000 in
set_option maxHeartbeats 2000000 in
theorem append_on (j : Nat) (hj : j < 64) (Ab : Option Addr) (nb cb : Nat) (bs : List UInt8) (g : Nat) (Q : Nat → Prop) (d : DiskD) (w : World) (h : Dk w g Q d) (hd : d.down = false)
  (hb : Sl w Ab nb cb bs) (hQb : ∀ a, Ab = some a → bs ≠ [] → ¬ Q a.block) (hnb : nb ≤ 140737488355328) :
  Calls Tryz.prog 59 #[.pointer (some ⟨g, 0, none⟩), .int .i64 (j : Nat), .slice Ab nb cb] w (DkPost w g Q (.int .i64 (appK d (j : Nat) bs.length)) (appD d (j : Nat) bs)) := by
 have Hu := hid_ (up_any g Q d w h)
 rw [hd] at Hu
 have H := hid_ h
 have hlen : bs.length = nb := hb.len
 have hcb := hb.cap
 have hcm := hb.max
 have hused := h.ok.used
 have hroom2 := h.ok.room2
 have ej1 : decide ((j : Int) < 0) = false := decide_eq_false (by omega)
 have ej2 : decide (64 ≤ j) = false := decide_eq_false (by omega)
 have ej3 : decide ((64 : Int) ≤ (j : Int)) = false := decide_eq_false (by omega)
 have ej4 : decide ((j : Int) ≥ (64 : Int)) = false := decide_eq_false (by omega)
 have HUs := hid_ (fun (W : World) (hb : Below w.heap.size w W) => used_any g Q d W (h.below hb))
 obtain ⟨mm, m0⟩ := h.cells
 obtain ⟨c0, c1, c2, c3, c4, -⟩ := dk_facts m0
 have hgl := m0.lt
 have Hd := hid_ hd
 clear m0
 by_cases hfull : d.room < usedF d.F + nb
 ·have HK := hid_ (show appK d (j : Nat) bs.length = 9 by unfold appK; rw [hd, hlen]; simp only [Bool.false_eq_true, if_false]; rw [if_neg (by omega), if_pos hfull])
  have HD := hid_ (show appD d (j : Nat) bs = d by unfold appD; rw [hd, hlen]; simp only [Bool.false_eq_true, if_false]; rw [if_neg (by omega), if_pos hfull])
  clear h hd hb hQb hlen
  generalize appK d (j : Nat) bs.length = k' at *
  generalize appD d (j : Nat) bs = d' at *
  rcases d with ⟨room, F, armed, left, down⟩
  simp only at *
  generalize hu : usedF F = u at *
  clear hu
  have e3 : IntKind.i64.wrap ((room : Int) - (u : Int)) = (room : Int) - (u : Int) := IntWalk.i64_in _ (by omega)
  have e4 : decide ((nb : Int) > (room : Int) - (u : Int)) = true := decide_eq_true (by omega)
  have e5 : decide ((room : Int) - (u : Int) < (nb : Int)) = true := decide_eq_true (by omega)
  go_enter Tryz.func59, Tryz.ntmps59
  go_wp2_with fail
  refine Calls.mono Hu.out ?_
  rintro e w1 ⟨rfl, rfl⟩
  go_wp2_with fail
  have Hbd := hid_ (Below.drew (Below.refl w.heap.size w))
  have c0d : w.drew.cell? ⟨g, 0, none⟩ = some (.int .i64 (room : Nat)) := c0
  go_region_law (first
   | (go_simp; go_at_call 88; (with_reducible refine Calls.mono (HUs.out _ Hbd.out) ?_); rintro e w2 ⟨rfl, hb2⟩; have Hb2 := hid_ (Hbd.out.trans (hb2.mono Hbd.out.size)); have c0e : w2.cell? ⟨g, 0, none⟩ = some (.int .i64 (room : Nat)) := (hb2.cell (p := ⟨g, 0, none⟩) hgl).trans c0; clear hb2)
   | fail)
  all_goals
   go_wp2_with fail
   go_ret
   exact dkPost_same HK.out.symm H.out HD.out Hb2.out
 ·have hQ0 : ∀ a, Ab = some a → bs ≠ [] → a.block ≠ g := fun a e hne e2 => hQb a e hne (e2 ▸ h.qg)
  have hle := takeN_le d nb
  have HTk := hid_ (fun (W : World) (hb : Below w.heap.size w W) => take_any nb (by omega) g Q d W (h.below hb))
  have HLay := hid_ (fun (wa wb : World) (Qa : Nat → Prop) (hba : Below w.heap.size w wa) (hD : Dk wb g Qa (takeD d nb)) (hT : Tn Q wa wb) =>
   lay_any j hj Ab (takeN d nb) cb (bs.take (takeN d nb)) g Qa (takeD d nb) wb hD (((hb.below hba).tn hT hQb).upto (takeN d nb) hle) (fun a e hne => hQ0 a e (fun e2 => hne (by rw [e2]; simp)))
    (by show usedF d.F + _ ≤ d.room; rw [List.length_take]; omega))
  have hK : appK d (j : Nat) bs.length = if takeN d nb < nb then 10 else 0 := by unfold appK; rw [hd, hlen]; simp only [Bool.false_eq_true, if_false]; rw [if_neg (by omega), if_neg hfull]
  have hD : appD d (j : Nat) bs = ⟨d.room, layF d.F j (bs.take (takeN d nb)), d.armed, leftN d nb, if takeN d nb < nb then true else false⟩ := by
   unfold appD; rw [hd, hlen]; simp only [Bool.false_eq_true, if_false]; rw [if_neg (by omega), if_neg hfull]; unfold appF; rw [hlen, hd, Int.toNat_natCast]
  have hOk := appD_ok h.ok (j : Nat) bs
  have HE1 := hid_ (fun (hlt : takeN d nb < nb) (w2 w3 : World) (Q2 Q3 : Nat → Prop) (h2 : Tn Q w w2) (hq2 : ∀ q, Q2 q → Q q ∨ w.heap.size ≤ q) (h3 : Dk w3 g Q3 (withF (takeD d nb) (layF (takeD d nb).F j (bs.take (takeN d nb))))) (h4 : Tn Q2 w2 w3) (hq3 : ∀ q, Q3 q → Q2 q ∨ w2.heap.size ≤ q) =>
   show DkPost w g Q (.int .i64 (appK d (j : Nat) bs.length)) (appD d (j : Nat) bs) (.returned (.int .i64 10)) (w3.setCell ⟨g, 4, none⟩ (.bool true)) from by
    rw [hK, if_pos hlt]
    have hc := h3.cell (d' := appD d (j : Nat) bs) hOk (by rw [hD]; rfl) 4 (.bool true) (fun m => by rw [hD, if_pos hlt]; rfl)
    refine dkPost_mk rfl hc rfl ((h2.trans h4 hq2).set (.inl h.qg) 4 _) (fun q hq => ?_)
    rcases hq3 q hq with h5 | h5
    ·exact hq2 q h5
    ·have := h2.size; exact .inr (by omega))
  have HE0 := hid_ (fun (hlt : ¬ takeN d nb < nb) (w2 w3 : World) (Q2 Q3 : Nat → Prop) (h2 : Tn Q w w2) (hq2 : ∀ q, Q2 q → Q q ∨ w.heap.size ≤ q) (h3 : Dk w3 g Q3 (withF (takeD d nb) (layF (takeD d nb).F j (bs.take (takeN d nb))))) (h4 : Tn Q2 w2 w3) (hq3 : ∀ q, Q3 q → Q2 q ∨ w2.heap.size ≤ q) =>
   show DkPost w g Q (.int .i64 (appK d (j : Nat) bs.length)) (appD d (j : Nat) bs) (.returned (.int .i64 0)) w3 from by
    rw [hK, if_neg hlt]
    refine dkPost_mk rfl h3 (by rw [hD, if_neg hlt]; unfold withF takeD; rw [hd]) (h2.trans h4 hq2) (fun q hq => ?_)
    rcases hq3 q hq with h5 | h5
    ·exact hq2 q h5
    ·have := h2.size; exact .inr (by omega))
  clear h hb hQb hQ0 hlen hK hD hOk
  generalize withF (takeD d nb) (layF (takeD d nb).F j (bs.take (takeN d nb))) = dl at *
  generalize appK d (j : Nat) bs.length = k' at *
  generalize appD d (j : Nat) bs = d' at *
  generalize takeD d nb = dt at *
  generalize takeN d nb = tk at *
  rcases d with ⟨room, F, armed, left, down⟩
  simp only at *
  subst hd
  generalize hu : usedF F = u at *
  clear hu
  have e3 : IntKind.i64.wrap ((room : Int) - (u : Int)) = (room : Int) - (u : Int) := IntWalk.i64_in _ (by omega)
  have e4 : decide ((nb : Int) > (room : Int) - (u : Int)) = false := decide_eq_false (by omega)
  have e5 : decide ((room : Int) - (u : Int) < (nb : Int)) = false := decide_eq_false (by omega)
  have y1 : (0 : Int) ≤ (tk : Int) := by omega
  have y2 : (tk : Int) ≤ (cb : Int) := by omega
  go_enter Tryz.func59, Tryz.ntmps59
  go_wp2_with fail
  refine Calls.mono Hu.out ?_
  rintro e w1 ⟨rfl, rfl⟩
  go_wp2_with fail
  have Hbd := hid_ (Below.drew (Below.refl w.heap.size w))
  have c0d : w.drew.cell? ⟨g, 0, none⟩ = some (.int .i64 (room : Nat)) := c0
  go_region_law (first
   | (go_simp; go_at_call 88; (with_reducible refine Calls.mono (HUs.out _ Hbd.out) ?_); rintro e w2 ⟨rfl, hb2⟩; have Hb2 := hid_ (Hbd.out.trans (hb2.mono Hbd.out.size)); have c0e : w2.cell? ⟨g, 0, none⟩ = some (.int .i64 (room : Nat)) := (hb2.cell (p := ⟨g, 0, none⟩) hgl).trans c0; clear hb2)
   | fail)
  all_goals
   go_wp2_with fail
   refine Calls.mono (HTk.out _ Hb2.out) ?_
   rintro e w3 ⟨rfl, Q3, hk3, ht3, hq3⟩
   have Hk3 := hid_ hk3
   have Ht3 := hid_ ht3
   have Hw3 := hid_ (Tn.trans (Tn.of_below Hb2.out) ht3 (fun q hq => .inl hq))
   have Hq3 := hid_ (fun q (hq : Q3 q) => show Q q ∨ w.heap.size ≤ q from by
    rcases hq3 q hq with h5 | h5
    ·exact .inl h5
    ·have := Hb2.out.size; exact .inr (by omega))
   clear hk3 ht3 hq3
   go_wp2_with fail
   refine Calls.mono (HLay.out _ w3 Q3 Hb2.out Hk3.out Ht3.out) ?_
   rintro e w4 ⟨rfl, Q4, hk4, ht4, hq4⟩
   have Hk4 := hid_ hk4
   have Ht4 := hid_ ht4
   have Hq4 := hid_ hq4
   obtain ⟨m4, hm4⟩ := hk4.cells
   have a4 := hm4.cell 4 _ rfl
   have f4 := hm4.free 4
   clear hk4 ht4 hq4 hm4
   by_cases hlt : tk < nb
   ·have e6 : decide (tk < nb) = true := decide_eq_true hlt
    have Hlt := hid_ hlt
    go_wp2_with fail
    go_ret
    exact HE1.out Hlt.out w3 w4 Q3 Q4 Hw3.out Hq3.out Hk4.out Ht4.out Hq4.out
   ·have e6 : decide (tk < nb) = false := decide_eq_false hlt
    have Hlt := hid_ hlt
    go_wp2_with fail
    go_ret
    exact HE0.out Hlt.out w3 w4 Q3 Q4 Hw3.out Hq3.out Hk4.out Ht4.out Hq4.out
theorem append_any (x : Int) (Ab : Option Addr) (nb cb : Nat) (bs : List UInt8) (g : Nat) (Q : Nat → Prop) (d : DiskD) (w : World) (h : Dk w g Q d)
  (hb : Sl w Ab nb cb bs) (hQb : ∀ a, Ab = some a → bs ≠ [] → ¬ Q a.block) (hnb : nb ≤ 140737488355328) :
  Calls Tryz.prog 59 #[.pointer (some ⟨g, 0, none⟩), .int .i64 x, .slice Ab nb cb] w (DkPost w g Q (.int .i64 (appK d x bs.length)) (appD d x bs)) := by
 cases hd : d.down
 ·by_cases hx : x < 0 ∨ 64 ≤ x
  ·have e1 : appK d x bs.length = 1 := by unfold appK; rw [hd]; simp only [Bool.false_eq_true, if_false]; rw [if_pos hx]
   have e2 : appD d x bs = d := by unfold appD; rw [hd]; simp only [Bool.false_eq_true, if_false]; rw [if_pos hx]
   rw [e1, e2]
   exact append_bad x hx Ab nb cb g Q d w h hd
  ·obtain ⟨j, rfl⟩ := Int.eq_ofNat_of_zero_le (show 0 ≤ x by omega)
   exact append_on j (by omega) Ab nb cb bs g Q d w h hd hb hQb hnb
 ·have e1 : appK d x bs.length = 10 := by unfold appK; rw [hd]; rfl
  have e2 : appD d x bs = d := by unfold appD; rw [hd]; rfl
  rw [e1, e2]
  exact append_down x Ab nb cb g Q d w h hd
end Dsk
end Go.Proofs.YthjhofmjhmnddaaGreat
/-
 The program's Crash of a disk.
-/
namespace Go.Proofs.YthjhofmjhmnddaaGreat
open Go.RowKit
open Go.Maps (Keyed)
open Go.Proofs Go.Shelf
namespace Dsk
def intVals (zs : List Int) : List Value := zs.map (Value.int .i64)
theorem intVals_len (zs : List Int) : (intVals zs).length = zs.length := List.length_map ..
theorem Row.int_at {w : World} {A : Option Addr} {n c : Nat} {zs : List Int} (h : Row w A n c (intVals zs)) {k : Nat} (hk : k < zs.length) : ∃ b off, A = some ⟨b, off, none⟩ ∧ w.cell? ⟨b, off + k, none⟩ = some (.int .i64 zs[k]) := by
 obtain ⟨b, off, e, hc⟩ := h.at_ (k := k) (by rw [intVals_len]; exact hk)
 exact ⟨b, off, e, by rw [hc]; simp [intVals]⟩
theorem Row.tn {Q : Nat → Prop} {w w' : World} {A : Option Addr} {n c : Nat} {vs : List Value} (h : Row w A n c vs) (k : Tn Q w w') (ha : ∀ a, A = some a → vs ≠ [] → ¬ Q a.block) : Row w' A n c vs := by
 refine ⟨?_, h.len, h.cap, h.max, h.nil⟩
 intro hne
 obtain ⟨b, off, e, hc⟩ := h.holds hne
 refine ⟨b, off, e, fun i u hu => ?_⟩
 have h1 := hc i u hu
 rw [← h1]
 exact World.cell?_of_block (k.block b (lt_of_cell h1) (ha _ e hne))
structure CrSt (w1 : World) (g : Nat) (Q : Nat → Prop) (d : DiskD) (keep : List Int) (k : Nat) (wr : World) : Prop where
 dk : ∃ Q', Dk wr g Q' (withF d (crashTo d.F keep k)) ∧ ∀ q, Q' q → Q q ∨ w1.heap.size ≤ q
 tn : Tn Q w1 wr
theorem CrSt.start {w1 : World} {g : Nat} {Q : Nat → Prop} {d : DiskD} {keep : List Int} (h : Dk w1 g Q d) : CrSt w1 g Q d keep 0 w1 :=
 ⟨⟨Q, by rw [crashTo_zero]; exact h, fun q hq => .inl hq⟩, Tn.refl _ _⟩
theorem CrSt.step {w1 wr wa w' : World} {g b : Nat} {Q Q1 : Nat → Prop} {d : DiskD} {keep : List Int} {k j : Nat} {f : FileD} {D : DataW Value} {V : Nat → Option Addr × Nat} (hd : DOk d) (hf : d.F j = some f) (hr : rank d.F j = k)
  (h : Dk wr g Q1 (withF d (crashTo d.F keep k))) (hq1 : ∀ q, Q1 q → Q q ∨ w1.heap.size ≤ q) (ht : Tn Q w1 wr) (m1 : Whole wr g 80 (cellsD (some b) (withF d (crashTo d.F keep k)))) (m2 : FilesIn wr g b Q1 (crashTo d.F keep k) D V)
  (A' : Option Addr) (m c' n' : Nat) (hm : m = f.fast + keepN keep k (f.all.length - f.fast)) (hb : Below wr.heap.size wr wa) (ho : Own wr.heap.size wa A' m c' (f.all.take m))
  (hmap : w'.ownsMap Tryz.prog 3 elemR b n' (D.put (kx (j : Nat)) (.held (.agg #[.slice A' m c', .int .i64 (m : Nat)])))) (hg : wa.grownBy w' (some b)) : CrSt w1 g Q d keep (k + 1) w' := by
 have hfast := hd.fast j f hf
 have hkl := keepN_le keep k (f.all.length - f.fast)
 have hbl := h.qlt b m2.bq
 have hq : ∀ q, Q1 q → q ≠ b → w'.heap[q]? = wr.heap[q]? := fun q hq hne => (hg.block q (Nat.lt_of_lt_of_le (h.qlt q hq) hb.size) (by intro e; injection e with e; exact hne e)).trans (hb.block q (h.qlt q hq))
 have hge : ∀ k, blockOf A' = some k → wr.heap.size ≤ k := fun k e => (World.ownsRow.lt ho k (by rw [own_blockOf]; exact e)).1
 have hOk := crashTo_ok hd keep (k + 1)
 rw [crashTo_succ d.F keep hr hf] at hOk
 have e1 : crashed keep k f = ⟨f.all.take m, m⟩ := by unfold crashed; rw [hm]
 rw [e1] at hOk
 obtain ⟨Q', h1, h2⟩ := h.put m1 m2 j A' m c' ⟨f.all.take m, m⟩ (show m = (f.all.take m).length by rw [List.length_take]; omega) m rfl (Nat.le_trans hb.size hg.size) ⟨_, hmap⟩
  ((ho.stands (fun k e => hg.block k (ho.blk_lt k e) (by intro e2; injection e2 with e2; have := hge k e; omega))).mono (Nat.zero_le _)) (fun k e => .inr (hge k e)) (fun q hq1 hq2 _ => hq q hq1 hq2) hOk
 refine ⟨⟨Q', ?_, fun q hq2 => ?_⟩, ?_⟩
 ·rw [crashTo_succ d.F keep hr hf, e1]
  exact h1
 ·rcases h2 q hq2 with h3 | h3
  ·exact hq1 q h3
  ·have := ht.size; exact .inr (by omega)
 ·exact (ht.then_below hb).grown hg (fun k e => by injection e with e; exact hq1 k (e ▸ m2.bq))
theorem crash_end {w w1 wr : World} {g : Nat} {Q : Nat → Prop} {d : DiskD} {keep : List Int} (hd : DOk d) (hqg : Q g) (h1 : Below w.heap.size w w1) (hql : ∀ q, Q q → q < w.heap.size) (s : CrSt w1 g Q d keep (filesF d.F).length wr) :
  DkPost w g Q (.tuple #[]) (crashD d keep) (.returned (.tuple #[])) (((wr.setCell ⟨g, 2, none⟩ (.bool false)).setCell ⟨g, 3, none⟩ (.int .i64 0)).setCell ⟨g, 4, none⟩ (.bool false)) := by
 obtain ⟨⟨Q', hk, hq⟩, ht⟩ := s
 have hO := crashTo_ok hd keep (filesF d.F).length
 have a1 := hk.cell (d' := ⟨d.room, crashF d.F keep, false, d.left, d.down⟩) ⟨hO.room1, hO.room2, hO.used, hO.fast, hO.high, hO.left⟩ rfl 2 (.bool false) (fun m => rfl)
 have a2 := a1.cell (d' := ⟨d.room, crashF d.F keep, false, 0, d.down⟩) ⟨hO.room1, hO.room2, hO.used, hO.fast, hO.high, Nat.zero_le _⟩ rfl 3 (.int .i64 0) (fun m => rfl)
 have a3 := a2.cell (d' := crashD d keep) (crashD_ok hd keep) rfl 4 (.bool false) (fun m => rfl)
 refine dkPost_mk rfl a3 rfl (((((Tn.of_below h1).trans ht (fun q hq => .inl hq)).set (.inl hqg) 2 _).set (.inl hqg) 3 _).set (.inl hqg) 4 _) (fun q hq2 => ?_)
 rcases hq q hq2 with h3 | h3
 ·exact .inl h3
 ·have := h1.size; exact .inr (by omega)
set_option maxRecDepth 100000 in
set_option maxHeartbeats 4000000 in
theorem crash_any (Ak : Option Addr) (nk ck : Nat) (keep : List Int) (g : Nat) (Q : Nat → Prop) (d : DiskD) (w : World) (h : Dk w g Q d) (hk : Row w Ak nk ck (intVals keep)) (hQk : ∀ a, Ak = some a → intVals keep ≠ [] → ¬ Q a.block) :
  Calls Tryz.prog 21 #[.pointer (some ⟨g, 0, none⟩), .slice Ak nk ck] w (DkPost w g Q (.tuple #[]) (crashD d keep)) := by
 have Hf := hid_ (files_any g Q d w h)
 have hnk : nk = keep.length := by have := hk.len; rw [intVals_len] at this; exact this.symm
 have Hnk := hid_ hnk
 have hnk2 := hk.le
 have Hk := hid_ hk
 have HQk := hid_ hQk
 have Hd := hid_ h.ok
 have H := hid_ h
 have Hql := hid_ h.qlt
 have hgl := h.qlt g h.qg
 have hL := files_len d.F
 clear h hk hQk hnk
 go_enter Tryz.func21, Tryz.ntmps21
 go_wp2_with fail
 refine Calls.mono Hf.out ?_
 rintro e w1 ⟨Af, cf, rfl, ho, hb⟩
 have Hb := hid_ hb
 have Ho := hid_ ho
 have S0 := hid_ (CrSt.start (keep := keep) (H.out.below hb))
 have hgl1 : w.heap.size ≤ w1.heap.size := hb.size
 clear ho hb Hf
 generalize hLn : (filesF d.F).length = L at *
 have HLn := hid_ hLn
 clear hLn
 go_wp2_with fail
 go_loopw [13] (fun v wr => ∃ k : Nat, k ≤ L ∧ v = .int .i64 (k : Nat) ∧ Hid (CrSt w1 g Q d keep k wr)) (fun v _ => L - (intOf v).toNat)
 case atStart => exact ⟨0, Nat.zero_le _, rfl, S0⟩
 case round =>
  obtain ⟨k, hkL, rfl, HS⟩ := hrel
  by_cases hlt : k < L
  ·have hkF : k < (filesF d.F).length := by have := HLn.out; omega
   obtain ⟨hr, hs, hj⟩ := filesTo_get d.F 64 k hkF
   obtain ⟨bf, off, rfl, hcell⟩ := Ho.out.row.at_ (k := k) (by unfold numVals; rw [List.length_map]; exact hkF)
   have hcell2 : w1.cell? ⟨bf, off + k, none⟩ = some (.int .i64 ((filesF d.F)[k] : Nat)) := by rw [hcell]; simp [numVals]
   have hbf : w.heap.size ≤ bf := (OwnV.from_ Ho.out bf rfl).1
   change rank d.F (filesF d.F)[k] = k at hr
   change (d.F (filesF d.F)[k]).isSome = true at hs
   change (filesF d.F)[k] < 64 at hj
   generalize (filesF d.F)[k] = j at *
   obtain ⟨f, hf⟩ := Option.isSome_iff_exists.1 hs
   obtain ⟨⟨Q1, hdk, hq1⟩, htn⟩ := HS.out
   have hfk : (withF d (crashTo d.F keep k)).F j = some f := crashTo_at d.F keep (by omega) hf
   have zc : wr.cell? ⟨bf, off + k, none⟩ = some (.int .i64 (j : Nat)) := by
    rw [← hcell2]
    exact World.cell?_of_block (htn.block bf (lt_of_cell hcell2) (fun hq => by have := Hql.out bf hq; omega))
   rcases hdk.mem with ⟨m1, m2⟩ | ⟨b, D, V, m1, m2⟩
   ·exact (files_some hfk m2).elim
   obtain ⟨A, c, hlook, hown, -⟩ := m2.slot j hj
   change crashTo d.F keep k j = some f at hfk
   rw [show (withF d (crashTo d.F keep k)).F = crashTo d.F keep k from rfl, fileAt_some hfk] at hlook hown
   have hfast := Hd.out.fast j f hf
   have hlen := len_small Hd.out hj hf
   have HEnd := hid_ (fun (wa w' : World) (A' : Option Addr) (m c' n' : Nat) (hm : m = f.fast + keepN keep k (f.all.length - f.fast)) (hb : Below wr.heap.size wr wa) (ho : Own wr.heap.size wa A' m c' (f.all.take m)) (hmap) (hg) =>
    (CrSt.step (w' := w') Hd.out hf hr hdk hq1 htn m1 m2 A' m c' n' hm hb ho hmap hg))
   have HownM := hid_ (m2.owns hdk.ok.high)
   have Hfi := hid_ (fun (m : Nat) (hm : m ≤ f.all.length) (W : World) (hb : Below wr.heap.size wr W) => first_any A f.all.length c f.all f.fast m W (hown.later hb) hm hlen)
   obtain ⟨z0, z1, z2, z3, z4, -⟩ := dk_facts m1
   have hgl2 := m1.lt
   have Hkr := hid_ (Row.tn Hk.out ((Tn.of_below Hb.out).trans htn (fun q hq => .inl hq)) HQk.out)
   have HwB := hid_ (Below.refl wr.heap.size wr)
   clear hdk hq1 htn m1 m2 hown hfk hf hr hs hcell hcell2
   generalize hlf : f.all = l at *
   generalize hff : f.fast = ff at *
   obtain ⟨n, hn⟩ : ∃ n, n = l.length := ⟨_, rfl⟩
   simp only [← hn] at *
   obtain ⟨lo, hlo⟩ : ∃ lo, n = ff + lo := ⟨n - ff, by omega⟩
   have e1 : (n : Int) - (ff : Int) = (lo : Nat) := by omega
   have e2 : IntKind.i64.wrap ((n : Int) - (ff : Int)) = (lo : Nat) := by rw [e1]; exact IntWalk.i64_in _ (by omega)
   have e3 : n - ff = lo := by omega
   rw [e3] at HEnd
   clear hn hlf hff hlo e3
   by_cases hkk : nk ≤ k
   ·have e4 : decide (k < nk) = false := decide_eq_false (by omega)
    have HK0 := hid_ (show ff = ff + keepN keep k lo by unfold keepN; rw [dif_neg (by have := Hnk.out; omega)]; rfl)
    have HSt := hid_ (Hfi.out ff (by omega))
    have y3 : IntKind.i64.wrap (ff : Int) = (ff : Int) := IntWalk.i64_in _ (by omega)
    have y4 : IntKind.i64.wrap ((ff : Int) + 0) = (ff : Int) := by rw [Int.add_zero]; exact y3
    have HBox := hid_ (whole_new wr 121 #[.slice A n c, .int .i64 (ff : Nat)])
    obtain ⟨wz, Hwz, b1, b2, b3, HB1⟩ : ∃ wz, wz = wr.alloc (.cells #[.slice A n c, .int .i64 (ff : Nat)] 121) ∧ wz.cell? ⟨g, 1, none⟩ = some (.map (some b)) ∧ wz.cell? ⟨wr.heap.size, 0, none⟩ = some (.slice A n c) ∧ wz.cell? ⟨wr.heap.size, 1, none⟩ = some (.int .i64 (ff : Nat)) ∧ Hid (Below wr.heap.size wr wz) := by
     refine ⟨_, rfl, ?_, ?_, ?_, hid_ (HwB.out.alloc (Nat.le_refl _) _)⟩
     ·rw [(HwB.out.alloc (Nat.le_refl _) _).cell (p := ⟨g, 1, none⟩) hgl2]; exact z1
     ·exact HBox.out.cell 0 _ rfl
     ·exact HBox.out.cell 1 _ rfl
    have Hwz' := hid_ Hwz
    have hlt1 := lt_of_cell b1
    clear HBox Hwz
    have hlt2 := lt_of_cell b2
    go_wp2_with fail
    rw [← Hwz'.out]
    clear Hwz'
    have HB2 := hid_ HB1.out.drew
    have b1d : wz.drew.cell? ⟨g, 1, none⟩ = some (.map (some b)) := b1
    have b2d : wz.drew.cell? ⟨wr.heap.size, 0, none⟩ = some (.slice A n c) := b2
    have b3d : wz.drew.cell? ⟨wr.heap.size, 1, none⟩ = some (.int .i64 (ff : Nat)) := b3
    go_region_law (first
     | (go_simp; go_at_call 54; (with_reducible refine Calls.mono (HSt.out _ HB2.out) ?_); rintro e w2 ⟨A', c', rfl, ho2, hb2⟩; have Ho2 := hid_ (Own.mono ho2 HB2.out.size); have Hb2 := hid_ (HB2.out.trans (hb2.mono HB2.out.size)); have z1e : w2.cell? ⟨g, 1, none⟩ = some (.map (some b)) := (hb2.cell (p := ⟨g, 1, none⟩) hlt1).trans b1; have z2e : w2.cell? ⟨wr.heap.size, 0, none⟩ = some (.slice A n c) := (hb2.cell (p := ⟨wr.heap.size, 0, none⟩) hlt2).trans b2; have z3e : w2.cell? ⟨wr.heap.size, 1, none⟩ = some (.int .i64 (ff : Nat)) := (hb2.cell (p := ⟨wr.heap.size, 1, none⟩) hlt2).trans b3; obtain ⟨w3, hrun3, hm3, hg3⟩ := put_run (World.ownsMap.kept HownM.out (grown_below Hb2.out (Nat.le_refl _) none) (by simp)) (by unfold maxLen; omega) (kx_key (x := (j : Nat)) (by omega) (by omega)) (.agg #[.slice A' ff c', .int .i64 (ff : Nat)]); have Hm3 := hid_ hm3; have Hg3 := hid_ hg3; clear ho2 hb2 hm3 hg3)
     | fail)
    all_goals
     go_wp2_with fail
     go_roundw
     case rel => exact ⟨k + 1, by omega, by go_num, hid_ (HEnd.out w2 w3 A' ff c' _ HK0.out Hb2.out Ho2.out Hm3.out Hg3.out)⟩
     case measure => simp [intOf]; omega
   ·have e4 : decide (k < nk) = true := decide_eq_true (by omega)
    have hkl : k < keep.length := by have := Hnk.out; omega
    obtain ⟨bk, ok, rfl, hck⟩ := Row.int_at Hkr.out hkl
    have HkN := hid_ (show keepN keep k lo = min (keep[k].toNat) lo by unfold keepN; rw [dif_pos hkl])
    generalize keep[k] = z at *
    have HBox := hid_ (whole_new wr 121 #[.slice A n c, .int .i64 (ff : Nat)])
    obtain ⟨wz, Hwz, b1, b2, b3, b4, HB1⟩ : ∃ wz, wz = wr.alloc (.cells #[.slice A n c, .int .i64 (ff : Nat)] 121) ∧ wz.cell? ⟨g, 1, none⟩ = some (.map (some b)) ∧ wz.cell? ⟨wr.heap.size, 0, none⟩ = some (.slice A n c) ∧ wz.cell? ⟨wr.heap.size, 1, none⟩ = some (.int .i64 (ff : Nat)) ∧ wz.cell? ⟨bk, ok + k, none⟩ = some (.int .i64 z) ∧ Hid (Below wr.heap.size wr wz) := by
     refine ⟨_, rfl, ?_, ?_, ?_, ?_, hid_ (HwB.out.alloc (Nat.le_refl _) _)⟩
     ·rw [(HwB.out.alloc (Nat.le_refl _) _).cell (p := ⟨g, 1, none⟩) hgl2]; exact z1
     ·exact HBox.out.cell 0 _ rfl
     ·exact HBox.out.cell 1 _ rfl
     ·rw [(HwB.out.alloc (Nat.le_refl _) _).cell (p := ⟨bk, ok + k, none⟩) (lt_of_cell hck)]; exact hck
    have Hwz' := hid_ Hwz
    have hlt1 := lt_of_cell b1
    clear HBox Hwz
    have hlt2 := lt_of_cell b2
    obtain ⟨st, hst⟩ : ∃ st, st = ff + min z.toNat lo := ⟨_, rfl⟩
    have hst2 : st ≤ n := by omega
    have HK0 := hid_ (show st = ff + keepN keep k lo by rw [HkN.out, hst])
    have HSt := hid_ (Hfi.out st (by omega))
    have y3 : IntKind.i64.wrap ((ff : Int) + min (max z 0) (lo : Int)) = ((st : Nat) : Int) := by rw [IntWalk.i64_in _ (by omega)]; omega
    clear hst
    go_wp2_with fail
    rw [← Hwz'.out]
    go_quiet (fail)
    generalize hwy : World.drewN wz _ = wy
    have HB3 : Hid (Below wr.heap.size wr wy) := hwy ▸ hid_ (show Below wr.heap.size wr (World.drewN wz _) from ⟨HB1.out.os, HB1.out.tape, HB1.out.output, HB1.out.size, HB1.out.block⟩)
    replace b1 : wy.cell? ⟨g, 1, none⟩ = some (.map (some b)) := hwy ▸ b1
    replace b2 : wy.cell? ⟨wr.heap.size, 0, none⟩ = some (.slice A n c) := hwy ▸ b2
    replace b3 : wy.cell? ⟨wr.heap.size, 1, none⟩ = some (.int .i64 (ff : Nat)) := hwy ▸ b3
    replace hlt1 : g < wy.heap.size := lt_of_cell b1
    replace hlt2 : wr.heap.size < wy.heap.size := lt_of_cell b2
    clear hwy Hwz' b4
    go_wp2_with fail
    have HB2 := hid_ HB3.out.drew
    have b1d : wy.drew.cell? ⟨g, 1, none⟩ = some (.map (some b)) := b1
    have b2d : wy.drew.cell? ⟨wr.heap.size, 0, none⟩ = some (.slice A n c) := b2
    have b3d : wy.drew.cell? ⟨wr.heap.size, 1, none⟩ = some (.int .i64 (ff : Nat)) := b3
    go_region_law (first
     | (go_simp; go_at_call 54; (with_reducible refine Calls.mono (HSt.out _ HB2.out) ?_); rintro e w2 ⟨A', c', rfl, ho2, hb2⟩; have Ho2 := hid_ (Own.mono ho2 HB2.out.size); have Hb2 := hid_ (HB2.out.trans (hb2.mono HB2.out.size)); have z1e : w2.cell? ⟨g, 1, none⟩ = some (.map (some b)) := (hb2.cell (p := ⟨g, 1, none⟩) hlt1).trans b1; have z2e : w2.cell? ⟨wr.heap.size, 0, none⟩ = some (.slice A n c) := (hb2.cell (p := ⟨wr.heap.size, 0, none⟩) hlt2).trans b2; have z3e : w2.cell? ⟨wr.heap.size, 1, none⟩ = some (.int .i64 (ff : Nat)) := (hb2.cell (p := ⟨wr.heap.size, 1, none⟩) hlt2).trans b3; obtain ⟨w3, hrun3, hm3, hg3⟩ := put_run (World.ownsMap.kept HownM.out (grown_below Hb2.out (Nat.le_refl _) none) (by simp)) (by unfold maxLen; omega) (kx_key (x := (j : Nat)) (by omega) (by omega)) (.agg #[.slice A' st c', .int .i64 ((st : Nat) : Nat)]); have Hm3 := hid_ hm3; have Hg3 := hid_ hg3; clear ho2 hb2 hm3 hg3)
     | fail)
    all_goals
     go_wp2_with fail
     go_roundw
     case rel => exact ⟨k + 1, by omega, by go_num, hid_ (HEnd.out w2 w3 A' st c' _ HK0.out Hb2.out Ho2.out Hm3.out Hg3.out)⟩
     case measure => simp [intOf]; omega
  ·obtain rfl : k = L := by omega
   have hltf : decide (k < k) = false := decide_eq_false (by omega)
   obtain ⟨⟨Q', hk', -⟩, -⟩ := HS.out
   obtain ⟨m', hm'⟩ := hk'.cells
   obtain ⟨z0, z1, z2, z3, z4, zf⟩ := dk_facts hm'
   clear hk' hm'
   go_wp2_with fail
   go_end0
   exact crash_end Hd.out H.out.qg Hb.out Hql.out (by rw [HLn.out]; exact HS.out)
end Dsk
end Go.Proofs.YthjhofmjhmnddaaGreat
/-
 The chapter's example of package disk comes; a disk in a law's hands.
-/
namespace Go.Proofs.YthjhofmjhmnddaaGreat
open Go.RowKit
open Go.Maps (Keyed)
open Go.Proofs Go.Shelf
namespace Dsk
structure DkB (B : Nat) (w0 w : World) (g : Nat) (Q : Nat → Prop) (d : DiskD) : Prop where
 dk : Dk w g Q d
 below : Below B w0 w
 own : ∀ q, Q q → B ≤ q
 base : B ≤ w0.heap.size
theorem DkB.size {B : Nat} {w0 w : World} {g : Nat} {Q : Nat → Prop} {d : DiskD} (h : DkB B w0 w g Q d) : B ≤ w.heap.size := Nat.le_trans h.base h.below.size
theorem DkB.post {B : Nat} {w0 w w' : World} {g : Nat} {Q : Nat → Prop} {d d' : DiskD} {v : Value} {e : Ending} (h : DkB B w0 w g Q d) (k : DkPost w g Q v d' e w') : e = .returned v ∧ (∃ Q', DkB B w0 w' g Q' d' ∧ ∀ q, Q' q → Q q ∨ w.heap.size ≤ q) ∧ Tn Q w w' := by
 obtain ⟨he, Q', h1, h2, h3⟩ := k
 refine ⟨he, ⟨Q', ⟨h1, h2.below h.below h.own h.size, fun q hq => ?_, h.base⟩, h3⟩, h2⟩
 rcases h3 q hq with h4 | h4
 ·exact h.own q h4
 ·have := h.size; omega
theorem DkB.later {B : Nat} {w0 w w' : World} {g : Nat} {Q : Nat → Prop} {d : DiskD} (h : DkB B w0 w g Q d) (k : Below w.heap.size w w') : DkB B w0 w' g Q d := ⟨h.dk.below k, h.below.trans (k.mono h.size), h.own, h.base⟩
theorem DkB.alloc {B : Nat} {w0 w : World} {g : Nat} {Q : Nat → Prop} {d : DiskD} (h : DkB B w0 w g Q d) (o : Obj) : DkB B w0 (w.alloc o) g Q d := h.later ((Below.refl _ _).alloc (Nat.le_refl _) o)
theorem DkB.drew {B : Nat} {w0 w : World} {g : Nat} {Q : Nat → Prop} {d : DiskD} (h : DkB B w0 w g Q d) : DkB B w0 w.drew g Q d := h.later (Below.drew (Below.refl _ _))
def a0 : DiskD := newD 10
def a1 : DiskD := appD a0 1 [97, 98]
def a2 : DiskD := syncD a1 1
def a3 : DiskD := appD a2 1 [99, 100]
def a4 : DiskD := crashD a3 [1]
end Dsk
end Go.Proofs.YthjhofmjhmnddaaGreat
