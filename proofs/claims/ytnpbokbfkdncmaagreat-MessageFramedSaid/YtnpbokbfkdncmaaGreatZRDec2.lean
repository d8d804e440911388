/-
  The reference's Decode of data of kind 2.
-/
import Derived.Test.YtnpbokbfkdncmaaGreatZGRD1
namespace Go.Proofs.YtnpbokbfkdncmaaGreat
set_option linter.unusedSimpArgs false
set_option linter.unusedVariables false
open Go.RowKit Ru Fm
set_option maxRecDepth 100000 in
set_option maxHeartbeats 16000000 in
theorem rdec2_any (A : Option Addr) (n c : Nat) (b d r : List UInt8) (w : World) (hs : Sl w A n c b) (hc : cutF b = (0, d, r)) (hk : hd d = 2) : Calls Tryz.prog 12 #[.slice A n c] w (RDPost w d r) := by
  have HD := hid_ (fun (s1 : List UInt8 × Bool) (h1 : takeS 1 (d, false) = s1) => show sreadF d = (⟨2, (numB s1.1 8), 0, 0, 0, 0, 0, false, (spanS (hd (takeS 8 s1).1) (takeS 1 (takeS 8 s1))).1, [], []⟩, (spanS (hd (takeS 8 s1).1) (takeS 1 (takeS 8 s1))).2) by unfold sreadF; dsimp only; rw [h1, hk, show partsF ((2 : Nat) : Int) = ⟨true, false, false, false, true, false, false⟩ from parts_2]; simp [stT, stB, stA, stV, spL, meL, idL])
  have Hwf := hid_ (sreadF_wf d)
  have Hbn := hid_ (b_ne hc)
  have Hs := hid_ hs
  have Hcut := hid_ (Fr.refcut_any A n c b (w.alloc (.cells #[.int .i64 0, .int .u64 0, .int .u64 0, .int .u64 0, .int .u64 0, .int .u64 0, .int .i64 0, .bool false, .slice none 0 0, .slice none 0 0, .slice none 0 0] 30)) (hs.below ((Below.refl _ _).alloc (Nat.le_refl _) _)))
  unfold Fr.RefCut at Hcut
  rw [hc] at Hcut
  have Hby := hid_ (fun W g Q h => show Calls Tryz.prog 27 #[.pointer (some ⟨g, 0, none⟩)] W (RrPost W g Q (.int .u8 (2 : Nat)) (takeS 1 (d, false))) from by have hh := rbyte_any g Q (d, false) W h; rw [show hd (d, false).1 = 2 from hk] at hh; exact hh)
  have HD := hid_ (HD.out _ rfl)
  generalize takeS 1 (d, false) = s1 at *
  have W0 := hid_ (whole_new w 30 #[.int .i64 0, .int .u64 0, .int .u64 0, .int .u64 0, .int .u64 0, .int .u64 0, .int .i64 0, .bool false, .slice none 0 0, .slice none 0 0, .slice none 0 0])
  have Hb0 := hid_ (((Below.refl w.heap.size w).alloc (Nat.le_refl _) (.cells #[.int .i64 0, .int .u64 0, .int .u64 0, .int .u64 0, .int .u64 0, .int .u64 0, .int .i64 0, .bool false, .slice none 0 0, .slice none 0 0, .slice none 0 0] 30)))
  have hsz0 : (w.alloc (.cells #[.int .i64 0, .int .u64 0, .int .u64 0, .int .u64 0, .int .u64 0, .int .u64 0, .int .i64 0, .bool false, .slice none 0 0, .slice none 0 0, .slice none 0 0] 30)).heap.size = w.heap.size + 1 := by simp
  clear hs hc hk
  go_enter Tryz.func12, Tryz.ntmps12
  go_wp2_with fail
  refine Calls.mono Hcut.out ?_
  rintro e w1 ⟨A1, n1, c1, A2, n2, c2, rfl, h1, h2, i1, -, hb1⟩
  try dsimp only at h1 h2
  have hn2 := h2.len
  have hlt1 : w.heap.size < w1.heap.size := by have := hb1.size; omega
  have R1 := hid_ (rr_start Hs.out Hbn.out h1 i1 hlt1)
  have RA1 := hid_ (rr_startA Hs.out Hbn.out h1 i1 hlt1)
  have W1 := hid_ ((W0.out.below hb1 W0.out.lt).alloc (.cells #[.slice A1 n1 c1, .bool false] 57))
  have Hb1 := hid_ ((Hb0.out.trans (hb1.mono Hb0.out.size)).alloc (Hb0.out.trans (hb1.mono Hb0.out.size)).size (.cells #[.slice A1 n1 c1, .bool false] 57))
  clear h1 h2 i1 hb1
  go_wp2_with fail
  refine Calls.mono (Hby.out _ _ _ RA1.out) ?_
  rintro e w2 ⟨rfl, hr2, hg2⟩
  have hlt2 : w1.heap.size < w2.heap.size := hr2.lt
  have RA2 := hid_ (hr2.alloc (.cells (packCells ⟨2, 0, 0, 0, 0, 0, 0, false, [], [], []⟩ ⟨none, 0, none, 0, none, 0⟩) 30))
  have hr2 := (hr2.alloc (.cells (packCells ⟨2, 0, 0, 0, 0, 0, 0, false, [], [], []⟩ ⟨none, 0, none, 0, none, 0⟩) 30)).sub (Q_all w.heap.size w2.heap.size (by omega))
  have S2 := hid_ (show Rs w w1.heap.size w2.heap.size (w2.alloc (.cells (packCells ⟨2, 0, 0, 0, 0, 0, 0, false, [], [], []⟩ ⟨none, 0, none, 0, none, 0⟩) 30)) s1 ⟨2, 0, 0, 0, 0, 0, 0, false, [], [], []⟩ ⟨none, 0, none, 0, none, 0⟩ from
    ⟨hr2, (W1.out.grown hg2 (by intro e; injection e with e; omega)).alloc _, whole_new _ _ _, (below_grown_ Hb1.out hg2 (by omega) (by simp <;> omega)).alloc (by omega) _, hlt1, hlt2⟩)
  clear hr2 hg2
  have hq1 : w.heap.size ≠ w1.heap.size := by omega
  have hq2 : w.heap.size ≠ w2.heap.size := by omega
  have hq3 : w1.heap.size ≠ w2.heap.size := by omega
  go_wp2_with fail
  refine Calls.mono (rrnumber_any _ _ s1 _ RA2.out) ?_
  rintro e w3 ⟨rfl, hr, hg⟩
  have RT3 := hid_ hr
  have hr := hr.sub (Q_all w.heap.size w2.heap.size (by omega))
  have T3 := hid_ (S2.out.call hg hr)
  clear hr hg
  generalize numB s1.1 8 = x3 at *
  generalize takeS 8 s1 = s3 at *
  have RA3 := hid_ (RT3.out.store (q := w2.heap.size) (show w.heap.size ≤ w2.heap.size by omega) (by omega) 1 (.int .u64 (x3 : Nat)))
  have S3 := hid_ (T3.out.set ⟨2, x3, 0, 0, 0, 0, 0, false, [], [], []⟩ ⟨none, 0, none, 0, none, 0⟩ 1 (.int .u64 (x3 : Nat)) rfl)
  have f3 : ∀ o, w3.frozen? ⟨w2.heap.size, o, none⟩ = false := fun o => T3.out.pk.free o
  obtain ⟨p0, p1, p2, p3, p4, p5, p6, p7, p8, p9, p10⟩ := pack_facts T3.out.pk
  have r3 : ∀ o, w3.frozen? ⟨w.heap.size, o, none⟩ = false := fun o => T3.out.res.free o
  obtain ⟨t0, t1, t2, t3, t4, t5, t6, t7, t8, t9, t10⟩ := pack_facts T3.out.res
  dsimp only [zeroP] at p0 p1 p2 p3 p4 p5 p6 p7 p8 p9 p10 t0 t1 t2 t3 t4 t5 t6 t7 t8 t9 t10
  go_wp2_with fail
  refine Calls.mono (rbyte_any _ _ s3 _ RA3.out) ?_
  rintro e w4 ⟨rfl, hr, hg⟩
  have RT4 := hid_ hr
  have hr := hr.sub (Q_all w.heap.size w2.heap.size (by omega))
  have T4 := hid_ (S3.out.call hg hr)
  clear hr hg
  have hlt4 := hd_lt s3.1
  generalize hd s3.1 = N at *
  generalize takeS 1 s3 = s4 at *
  clear f3 r3 p0 t0 p1 t1 p2 t2 p3 t3 p4 t4 p5 t5 p6 t6 p7 t7 p8 t8 p9 t9 p10 t10
  have RA4 := hid_ RT4.out
  have S4 := hid_ (T4.out)
  have f4 : ∀ o, w4.frozen? ⟨w2.heap.size, o, none⟩ = false := fun o => T4.out.pk.free o
  obtain ⟨p0, p1, p2, p3, p4, p5, p6, p7, p8, p9, p10⟩ := pack_facts T4.out.pk
  have r4 : ∀ o, w4.frozen? ⟨w.heap.size, o, none⟩ = false := fun o => T4.out.res.free o
  obtain ⟨t0, t1, t2, t3, t4, t5, t6, t7, t8, t9, t10⟩ := pack_facts T4.out.res
  dsimp only [zeroP] at p0 p1 p2 p3 p4 p5 p6 p7 p8 p9 p10 t0 t1 t2 t3 t4 t5 t6 t7 t8 t9 t10
  have L0 := hid_ (Lr.start S4.out)
  have hgB : w2.heap.size < w4.heap.size := S4.out.pk.lt
  have hN : N ≤ 255 := by omega
  clear p0 t0 p1 t1 p2 t2 p3 t3 p4 t4 p5 t5 p6 t6 p7 t7 p8 t8 p9 t9 p10 t10 f4 r4
  go_wp2_with fail
  go_loopw [10] (fun vi wr => ∃ (k : Nat) (A : Option Addr) (c : Nat) (acc : List SpanD) (s' : List UInt8 × Bool), k ≤ N ∧ vi = .int .i64 (k : Nat) ∧ Hid (Lr w w1.heap.size w2.heap.size w4.heap.size wr s' ⟨2, x3, 0, 0, 0, 0, 0, false, acc, [], []⟩ ⟨A, c, none, 0, none, 0⟩ A) ∧ Hid (wr.ownsRow w4.heap.size 44 8 (.slice A k c) k (cellsAll acc)) ∧ Hid (acc.length = k) ∧ Hid (spanS N s4 = (acc ++ (spanS (N - k) s').1, (spanS (N - k) s').2)) ∧ Hid (Rr wr w1.heap.size (fun q => w.heap.size ≤ q) s')) (fun vi _ => N - (intOf vi).toNat)
  case atStart => exact ⟨0, none, 0, [], s4, by omega, rfl, L0, hid_ (World.ownsRow_nil _ _ _ _), hid_ rfl, hid_ (by simp), RA4⟩
  case round =>
    obtain ⟨k, A, c, acc, ⟨lf, bad⟩, hk, rfl, HL, HO, HA, HE, HR⟩ := hrel
    have b1 := Rr.bad_cell HL.out.rd
    dsimp only at b1
    by_cases hlt : k < N
    · have hlt2 : decide (k < N) = true := decide_eq_true hlt
      cases bad
      · have hc8 : wr.cell? ⟨w2.heap.size, 8, none⟩ = some (.slice A k c) := by
          have := HL.out.st.pk.cell 8 (.slice A acc.length c) rfl
          rwa [HA.out] at this
        have hgp : w2.heap.size < wr.heap.size := HL.out.st.pk.lt
        have hrp : w1.heap.size < wr.heap.size := HL.out.rd.lt
        obtain ⟨m, hm⟩ : ∃ m, N - k = m + 1 := ⟨N - k - 1, by omega⟩
        obtain ⟨A3, n3, c3, hw3, -, hst3⟩ := HR.out.open_ HL.out.st.below
        dsimp only at hw3 hst3
        have b0 := hw3.cell 0 _ rfl
        have Hw3 := hid_ hw3
        have hkb : decide ((cutSpanF lf).1 ≠ 0) = ((cutSpanF lf).1 != 0) := by by_cases h : (cutSpanF lf).1 = 0 <;> simp [h]
        have HX := hid_ (show spanS (m + 1) (lf, false) = ((cutSpanF lf).2.1 :: (spanS m ((cutSpanF lf).2.2, ((cutSpanF lf).1 != 0))).1, (spanS m ((cutSpanF lf).2.2, ((cutSpanF lf).1 != 0))).2) by
          rw [spanS, if_neg (by simp), hkb])
        have Hcu := hid_ (refcut_in w.heap.size w A3 n3 c3 lf wr hst3 HL.out.st.below HL.out.st.below.size)
        clear hkb hw3 hst3
        unfold SpanCutIn at Hcu
        generalize (cutSpanF lf).1 = K at *
        generalize (cutSpanF lf).2.1 = x at *
        generalize (cutSpanF lf).2.2 = rest at *
        have Hm := hid_ hm
        clear hm
        obtain ⟨i0, hi0, hz0, hz1, hz2⟩ := info_parts info_span
        have Hi0 := hid_ hi0
        have Hz0 := hid_ hz0
        have Hz1 := hid_ hz1
        have Hz2 := hid_ hz2
        clear hi0 hz0 hz1 hz2
        have HAp := hid_ (show cellsAll acc ++ cellsOf x = cellsAll (acc ++ [x]) by rw [cellsAll_append]; simp [cellsAll])
        have HAl := hid_ (show (acc ++ [x]).length = k + 1 by rw [List.length_append, HA.out]; rfl)
        clear hc8
        go_wp2_with fail
        refine Calls.mono Hcu.out ?_
        rintro e wa ⟨A4, n4, c4, rfl, hst4, hba⟩
        have hga := grown_below hba (Nat.le_refl _) (some w1.heap.size)
        have La := hid_ (HL.out.call hga (HL.out.rd.below hba))
        have Oa := hid_ (HL.out.kept HO.out hga (show w1.heap.size < w4.heap.size by omega))
        have Wa := hid_ (Hw3.out.below hba Hw3.out.lt)
        have hgz := grown_trans (grown_set wa w1.heap.size 1 (.bool (K != 0))) (grown_set _ w1.heap.size 0 (.slice A4 n4 c4))
        have Wz := hid_ (show Whole ((wa.setCell ⟨w1.heap.size, 1, none⟩ (.bool (K != 0))).setCell ⟨w1.heap.size, 0, none⟩ (.slice A4 n4 c4)) w1.heap.size 57 #[.slice A4 n4 c4, .bool (K != 0)] from (Wa.out.store 1 _).store 0 _)
        have hbz := (La.out.st.below.setCell (p := ⟨w1.heap.size, 1, none⟩) (show w.heap.size ≤ w1.heap.size by omega) (.bool (K != 0))).setCell (p := ⟨w1.heap.size, 0, none⟩) (show w.heap.size ≤ w1.heap.size by omega) (.slice A4 n4 c4)
        have Rz := hid_ (Rr.close_ (bad := (K != 0)) Wz.out hst4 hbz (by omega))
        have Lz := hid_ (La.out.call hgz (Rz.out.sub (Q_row (by omega) (by omega) (fun a e => (La.out.row a e).1))))
        have Oz := hid_ (La.out.kept Oa.out hgz (show w1.heap.size < w4.heap.size by omega))
        have q0 := Wa.out.cell 0 _ rfl
        have q1 := Wa.out.cell 1 (.bool false) rfl
        have qf := fun o => Wa.out.free o
        have hc8a : wa.cell? ⟨w2.heap.size, 8, none⟩ = some (.slice A k c) := by
          have := La.out.st.pk.cell 8 (.slice A acc.length c) rfl
          rwa [HA.out] at this
        have hza : w2.heap.size < wa.heap.size := La.out.st.pk.lt
        have hzr : w1.heap.size < wa.heap.size := La.out.rd.lt
        have hq6 : w1.heap.size ≠ wa.heap.size := by omega
        have hq7 : w2.heap.size ≠ wa.heap.size := by omega
        have hszB := La.out.size
        clear hst4 hba hga hgz hbz b0 b1
        go_wp2_with (at_builtin; refine wpList_app _ rfl (.tmp 152) (.tmp 154) 26 rfl w4.heap.size 44 i0 _ 8 80 Tryz.underlying26 Hi0.out Hz0.out Hz1.out Hz2.out rfl (by omega) (.slice A k c) k (cellsAll acc) rfl (World.ownsRow.alloc (World.ownsRow.alloc Oz.out _) _) (some ⟨wa.heap.size + 1, 0, none⟩) 1 1 (cellsOf x) rfl rfl (holds_new _ #[.int .u64 (x.trace : Nat), .int .u64 (x.id : Nat), .int .u64 (x.parent : Nat), .int .u64 (x.start : Nat), .int .u64 (x.len : Nat), .string x.service, .string x.name, .bool x.fail] 44 (wa.heap.size + 1) (by simp)) (fun e => by cases e) (spcells_one _) (k + 1) (cellsAll (acc ++ [x])) (by omega) HAp.out (by unfold maxLen; omega) (by omega) (by simp; omega) ?_; intro A' c' wv ho7 hg7 hw7; have Ov := hid_ ho7; have Lv := hid_ (((Lz.out.alloc _).alloc _).app hg7 hw7 (own_lt ho7)); have Rv := hid_ (((Rz.out.alloc _).alloc _).grown hg7 (fun e => by have := (World.ownsRow.lt Oz.out _ e.symm).1; omega) (fun q e => by have := (World.ownsRow.lt Oz.out _ e).1; show w.heap.size ≤ q; omega)); have hc7 := (cellRr_of Lv.out.st 8 (.slice A acc.length c) (v' := .slice A k c) rfl (by rw [HA.out])).1; have hf7 : wv.frozen? ⟨w2.heap.size, 8, none⟩ = false := Lv.out.st.pk.free _; clear ho7 hg7 hw7)
        go_roundw
        case rel => exact ⟨k + 1, A', c', acc ++ [x], (rest, (K != 0)), by omega, by go_num, hid_ (Lv.out.set ⟨2, x3, 0, 0, 0, 0, 0, false, (acc ++ [x]), [], []⟩ ⟨A', c', none, 0, none, 0⟩ 8 (.slice A' (k + 1) c') (by simp [packCells, HA.out])), hid_ (Lv.out.kept Ov.out (grown_set _ _ _ _) (show w2.heap.size < w4.heap.size by omega)), HAl, hid_ (by rw [HE.out, Hm.out, HX.out, show N - (k + 1) = m by have := Hm.out; omega]; simp), hid_ (Rv.out.store (q := w2.heap.size) (show w.heap.size ≤ w2.heap.size by omega) (by omega) 8 (.slice A' (k + 1) c'))⟩
        case measure => simp [intOf] <;> omega
      · have HD2 := hid_ (show sreadF d = (⟨2, x3, 0, 0, 0, 0, 0, false, acc, [], []⟩, (lf, true)) by
          rw [HD.out, HE.out]
          have e : spanS (N - k) (lf, true) = ([], (lf, true)) := by cases N - k <;> simp [spanS]
          rw [e, List.append_nil])
        have HD := HD2
        have r4 : ∀ o, wr.frozen? ⟨w.heap.size, o, none⟩ = false := fun o => HL.out.st.res.free o
        obtain ⟨t0, t1, t2, t3, t4, t5, t6, t7, t8, t9, t10⟩ := pack_facts HL.out.st.res
        dsimp only [zeroP] at t0 t1 t2 t3 t4 t5 t6 t7 t8 t9 t10
        have p0 := (pack_facts HL.out.st.pk).1
        dsimp only at p0
        go_wp2_with fail
        have Hy2 : Whole ((((((((((((wr.setCell ⟨w.heap.size, 0, none⟩ (.int .i64 0)).setCell ⟨w.heap.size, 1, none⟩ (.int .u64 0)).setCell ⟨w.heap.size, 2, none⟩ (.int .u64 0)).setCell ⟨w.heap.size, 3, none⟩ (.int .u64 0)).setCell ⟨w.heap.size, 4, none⟩ (.int .u64 0)).setCell ⟨w.heap.size, 5, none⟩ (.int .u64 0)).setCell ⟨w.heap.size, 6, none⟩ (.int .i64 0)).setCell ⟨w.heap.size, 7, none⟩ (.bool false)).setCell ⟨w.heap.size, 8, none⟩ (.slice none 0 0)).setCell ⟨w.heap.size, 9, none⟩ (.slice none 0 0)).setCell ⟨w.heap.size, 10, none⟩ (.slice none 0 0))) w.heap.size 30 (packCells ⟨0, 0, 0, 0, 0, 0, 0, false, [], [], []⟩ ⟨none, 0, none, 0, none, 0⟩) ∧ Below w.heap.size w ((((((((((((wr.setCell ⟨w.heap.size, 0, none⟩ (.int .i64 0)).setCell ⟨w.heap.size, 1, none⟩ (.int .u64 0)).setCell ⟨w.heap.size, 2, none⟩ (.int .u64 0)).setCell ⟨w.heap.size, 3, none⟩ (.int .u64 0)).setCell ⟨w.heap.size, 4, none⟩ (.int .u64 0)).setCell ⟨w.heap.size, 5, none⟩ (.int .u64 0)).setCell ⟨w.heap.size, 6, none⟩ (.int .i64 0)).setCell ⟨w.heap.size, 7, none⟩ (.bool false)).setCell ⟨w.heap.size, 8, none⟩ (.slice none 0 0)).setCell ⟨w.heap.size, 9, none⟩ (.slice none 0 0)).setCell ⟨w.heap.size, 10, none⟩ (.slice none 0 0))) := ⟨HL.out.st.res.pack ⟨0, 0, 0, 0, 0, 0, 0, false, [], [], []⟩ ⟨none, 0, none, 0, none, 0⟩, below_pack HL.out.st.below (Nat.le_refl _) ⟨0, 0, 0, 0, 0, 0, 0, false, [], [], []⟩ ⟨none, 0, none, 0, none, 0⟩⟩
        clear r4 b1 p0 t0 t1 t2 t3 t4 t5 t6 t7 t8 t9 t10
        generalize (((((((((((wr.setCell ⟨w.heap.size, 0, none⟩ (.int .i64 0)).setCell ⟨w.heap.size, 1, none⟩ (.int .u64 0)).setCell ⟨w.heap.size, 2, none⟩ (.int .u64 0)).setCell ⟨w.heap.size, 3, none⟩ (.int .u64 0)).setCell ⟨w.heap.size, 4, none⟩ (.int .u64 0)).setCell ⟨w.heap.size, 5, none⟩ (.int .u64 0)).setCell ⟨w.heap.size, 6, none⟩ (.int .i64 0)).setCell ⟨w.heap.size, 7, none⟩ (.bool false)).setCell ⟨w.heap.size, 8, none⟩ (.slice none 0 0)).setCell ⟨w.heap.size, 9, none⟩ (.slice none 0 0)).setCell ⟨w.heap.size, 10, none⟩ (.slice none 0 0)) = W9 at Hy2 ⊢
        obtain ⟨Hy, Hby⟩ := Hy2
        obtain ⟨y0, y1, y2, y3, y4, y5, y6, y7, y8, y9, y10⟩ := pack_facts Hy
        dsimp only at y0 y1 y2 y3 y4 y5 y6 y7 y8 y9 y10
        refine bodyPost_ret (v := .tuple #[packVal ⟨0, 0, 0, 0, 0, 0, 0, false, [], [], []⟩ ⟨none, 0, none, 0, none, 0⟩, .int .i64 6]) (by simp [results, Tryz.results12, go_sem, y0, y1, y2, y3, y4, y5, y6, y7, y8, y9, y10]) rfl ?_
        exact rd_bad HD.out (fun h => by have := h.1; injection this with _ h; cases h) Hby
    · have hlt2 : decide (k < N) = false := decide_eq_false hlt
      obtain rfl : k = N := by omega
      have HD2 := hid_ (show sreadF d = (⟨2, x3, 0, 0, 0, 0, 0, false, acc, [], []⟩, (lf, bad)) by
        rw [HD.out, HE.out, Nat.sub_self]
        simp [spanS])
      have HD := HD2
      have PI : Hid (PackIn wr ⟨2, x3, 0, 0, 0, 0, 0, false, acc, [], []⟩ ⟨A, c, none, 0, none, 0⟩) := hid_ (⟨(by have := OwnSp.row (show OwnSp _ _ A k c _ from HO.out); dsimp only; rw [HA.out]; exact this), MemRow.none _, Row.none _⟩)
      have EL : Elsewhere ⟨2, x3, 0, 0, 0, 0, 0, false, acc, [], []⟩ ⟨A, c, none, 0, none, 0⟩ w.heap.size := ⟨(fun a e _ => by have := (HL.out.row a e).1; have := HL.out.st.o1; omega), (fun a e => by cases e), (fun a e => by cases e)⟩
      have f4 : ∀ o, wr.frozen? ⟨w2.heap.size, o, none⟩ = false := fun o => HL.out.st.pk.free o
      obtain ⟨p0, p1, p2, p3, p4, p5, p6, p7, p8, p9, p10⟩ := pack_facts HL.out.st.pk
      have r4 : ∀ o, wr.frozen? ⟨w.heap.size, o, none⟩ = false := fun o => HL.out.st.res.free o
      obtain ⟨t0, t1, t2, t3, t4, t5, t6, t7, t8, t9, t10⟩ := pack_facts HL.out.st.res
      dsimp only [zeroP] at p0 p1 p2 p3 p4 p5 p6 p7 p8 p9 p10 t0 t1 t2 t3 t4 t5 t6 t7 t8 t9 t10
      have Hri := hid_ (show Calls Tryz.prog 21 #[.agg #[.int .i64 2, .int .u64 (x3 : Nat), .int .u64 0, .int .u64 0, .int .u64 0, .int .u64 0, .int .i64 0, .bool false, .slice A acc.length c, .slice none 0 0, .slice none 0 0]] wr (KindIs wr (kindP (rightP ⟨2, x3, 0, 0, 0, 0, 0, false, acc, [], []⟩))) from refpack_any ⟨2, x3, 0, 0, 0, 0, 0, false, acc, [], []⟩ ⟨A, c, none, 0, none, 0⟩ _ PI.out (by have h := Hwf.out; rw [HD.out] at h; exact h))
      skip
      obtain ⟨A3, n3, c3, hw3, hs3, -⟩ := HL.out.st.rd
      try dsimp only at hw3 hs3
      have g0 := hw3.cell 0 (.slice A3 n3 c3) rfl
      have g1 := hw3.cell 1 (.bool bad) rfl
      have hn3 := hs3.len
      clear hw3 hs3
      cases bad
      rotate_left
      · skip
        go_wp2_with fail
        have Hy2 : Whole ((((((((((((wr.setCell ⟨w.heap.size, 0, none⟩ (.int .i64 0)).setCell ⟨w.heap.size, 1, none⟩ (.int .u64 0)).setCell ⟨w.heap.size, 2, none⟩ (.int .u64 0)).setCell ⟨w.heap.size, 3, none⟩ (.int .u64 0)).setCell ⟨w.heap.size, 4, none⟩ (.int .u64 0)).setCell ⟨w.heap.size, 5, none⟩ (.int .u64 0)).setCell ⟨w.heap.size, 6, none⟩ (.int .i64 0)).setCell ⟨w.heap.size, 7, none⟩ (.bool false)).setCell ⟨w.heap.size, 8, none⟩ (.slice none 0 0)).setCell ⟨w.heap.size, 9, none⟩ (.slice none 0 0)).setCell ⟨w.heap.size, 10, none⟩ (.slice none 0 0))) w.heap.size 30 (packCells ⟨0, 0, 0, 0, 0, 0, 0, false, [], [], []⟩ ⟨none, 0, none, 0, none, 0⟩) ∧ Below w.heap.size w ((((((((((((wr.setCell ⟨w.heap.size, 0, none⟩ (.int .i64 0)).setCell ⟨w.heap.size, 1, none⟩ (.int .u64 0)).setCell ⟨w.heap.size, 2, none⟩ (.int .u64 0)).setCell ⟨w.heap.size, 3, none⟩ (.int .u64 0)).setCell ⟨w.heap.size, 4, none⟩ (.int .u64 0)).setCell ⟨w.heap.size, 5, none⟩ (.int .u64 0)).setCell ⟨w.heap.size, 6, none⟩ (.int .i64 0)).setCell ⟨w.heap.size, 7, none⟩ (.bool false)).setCell ⟨w.heap.size, 8, none⟩ (.slice none 0 0)).setCell ⟨w.heap.size, 9, none⟩ (.slice none 0 0)).setCell ⟨w.heap.size, 10, none⟩ (.slice none 0 0))) := ⟨HL.out.st.res.pack ⟨0, 0, 0, 0, 0, 0, 0, false, [], [], []⟩ ⟨none, 0, none, 0, none, 0⟩, below_pack HL.out.st.below (Nat.le_refl _) ⟨0, 0, 0, 0, 0, 0, 0, false, [], [], []⟩ ⟨none, 0, none, 0, none, 0⟩⟩
        clear f4 r4 b1 p0 t0 p1 t1 p2 t2 p3 t3 p4 t4 p5 t5 p6 t6 p7 t7 p8 t8 p9 t9 p10 t10 g0 g1
        generalize (((((((((((wr.setCell ⟨w.heap.size, 0, none⟩ (.int .i64 0)).setCell ⟨w.heap.size, 1, none⟩ (.int .u64 0)).setCell ⟨w.heap.size, 2, none⟩ (.int .u64 0)).setCell ⟨w.heap.size, 3, none⟩ (.int .u64 0)).setCell ⟨w.heap.size, 4, none⟩ (.int .u64 0)).setCell ⟨w.heap.size, 5, none⟩ (.int .u64 0)).setCell ⟨w.heap.size, 6, none⟩ (.int .i64 0)).setCell ⟨w.heap.size, 7, none⟩ (.bool false)).setCell ⟨w.heap.size, 8, none⟩ (.slice none 0 0)).setCell ⟨w.heap.size, 9, none⟩ (.slice none 0 0)).setCell ⟨w.heap.size, 10, none⟩ (.slice none 0 0)) = W9 at Hy2 ⊢
        obtain ⟨Hy, Hby⟩ := Hy2
        obtain ⟨y0, y1, y2, y3, y4, y5, y6, y7, y8, y9, y10⟩ := pack_facts Hy
        dsimp only at y0 y1 y2 y3 y4 y5 y6 y7 y8 y9 y10
        refine bodyPost_ret (v := .tuple #[packVal ⟨0, 0, 0, 0, 0, 0, 0, false, [], [], []⟩ ⟨none, 0, none, 0, none, 0⟩, .int .i64 6]) (by simp [results, Tryz.results12, go_sem, y0, y1, y2, y3, y4, y5, y6, y7, y8, y9, y10]) rfl ?_
        exact rd_bad HD.out (fun h => by have := h.1; injection this with _ h; cases h) Hby
      by_cases hl : 0 < n3
      · have e3 : decide ((0 : Int) < (n3 : Int)) = true := decide_eq_true (by omega)
        go_wp2_with fail
        have Hy2 : Whole ((((((((((((wr.setCell ⟨w.heap.size, 0, none⟩ (.int .i64 0)).setCell ⟨w.heap.size, 1, none⟩ (.int .u64 0)).setCell ⟨w.heap.size, 2, none⟩ (.int .u64 0)).setCell ⟨w.heap.size, 3, none⟩ (.int .u64 0)).setCell ⟨w.heap.size, 4, none⟩ (.int .u64 0)).setCell ⟨w.heap.size, 5, none⟩ (.int .u64 0)).setCell ⟨w.heap.size, 6, none⟩ (.int .i64 0)).setCell ⟨w.heap.size, 7, none⟩ (.bool false)).setCell ⟨w.heap.size, 8, none⟩ (.slice none 0 0)).setCell ⟨w.heap.size, 9, none⟩ (.slice none 0 0)).setCell ⟨w.heap.size, 10, none⟩ (.slice none 0 0))) w.heap.size 30 (packCells ⟨0, 0, 0, 0, 0, 0, 0, false, [], [], []⟩ ⟨none, 0, none, 0, none, 0⟩) ∧ Below w.heap.size w ((((((((((((wr.setCell ⟨w.heap.size, 0, none⟩ (.int .i64 0)).setCell ⟨w.heap.size, 1, none⟩ (.int .u64 0)).setCell ⟨w.heap.size, 2, none⟩ (.int .u64 0)).setCell ⟨w.heap.size, 3, none⟩ (.int .u64 0)).setCell ⟨w.heap.size, 4, none⟩ (.int .u64 0)).setCell ⟨w.heap.size, 5, none⟩ (.int .u64 0)).setCell ⟨w.heap.size, 6, none⟩ (.int .i64 0)).setCell ⟨w.heap.size, 7, none⟩ (.bool false)).setCell ⟨w.heap.size, 8, none⟩ (.slice none 0 0)).setCell ⟨w.heap.size, 9, none⟩ (.slice none 0 0)).setCell ⟨w.heap.size, 10, none⟩ (.slice none 0 0))) := ⟨HL.out.st.res.pack ⟨0, 0, 0, 0, 0, 0, 0, false, [], [], []⟩ ⟨none, 0, none, 0, none, 0⟩, below_pack HL.out.st.below (Nat.le_refl _) ⟨0, 0, 0, 0, 0, 0, 0, false, [], [], []⟩ ⟨none, 0, none, 0, none, 0⟩⟩
        clear f4 r4 b1 p0 t0 p1 t1 p2 t2 p3 t3 p4 t4 p5 t5 p6 t6 p7 t7 p8 t8 p9 t9 p10 t10 g0 g1
        generalize (((((((((((wr.setCell ⟨w.heap.size, 0, none⟩ (.int .i64 0)).setCell ⟨w.heap.size, 1, none⟩ (.int .u64 0)).setCell ⟨w.heap.size, 2, none⟩ (.int .u64 0)).setCell ⟨w.heap.size, 3, none⟩ (.int .u64 0)).setCell ⟨w.heap.size, 4, none⟩ (.int .u64 0)).setCell ⟨w.heap.size, 5, none⟩ (.int .u64 0)).setCell ⟨w.heap.size, 6, none⟩ (.int .i64 0)).setCell ⟨w.heap.size, 7, none⟩ (.bool false)).setCell ⟨w.heap.size, 8, none⟩ (.slice none 0 0)).setCell ⟨w.heap.size, 9, none⟩ (.slice none 0 0)).setCell ⟨w.heap.size, 10, none⟩ (.slice none 0 0)) = W9 at Hy2 ⊢
        obtain ⟨Hy, Hby⟩ := Hy2
        obtain ⟨y0, y1, y2, y3, y4, y5, y6, y7, y8, y9, y10⟩ := pack_facts Hy
        dsimp only at y0 y1 y2 y3 y4 y5 y6 y7 y8 y9 y10
        refine bodyPost_ret (v := .tuple #[packVal ⟨0, 0, 0, 0, 0, 0, 0, false, [], [], []⟩ ⟨none, 0, none, 0, none, 0⟩, .int .i64 6]) (by simp [results, Tryz.results12, go_sem, y0, y1, y2, y3, y4, y5, y6, y7, y8, y9, y10]) rfl ?_
        exact rd_bad HD.out (fun h => by have := h.1; injection this with h _; rw [h] at hn3; simp at hn3; omega) Hby
      have e3 : decide ((0 : Int) < (n3 : Int)) = false := decide_eq_false (by omega)
      by_cases hl2 : 0 < n2
      · have e4 : decide ((0 : Int) < (n2 : Int)) = true := decide_eq_true (by omega)
        go_wp2_with fail
        have Hy2 : Whole ((((((((((((wr.setCell ⟨w.heap.size, 0, none⟩ (.int .i64 0)).setCell ⟨w.heap.size, 1, none⟩ (.int .u64 0)).setCell ⟨w.heap.size, 2, none⟩ (.int .u64 0)).setCell ⟨w.heap.size, 3, none⟩ (.int .u64 0)).setCell ⟨w.heap.size, 4, none⟩ (.int .u64 0)).setCell ⟨w.heap.size, 5, none⟩ (.int .u64 0)).setCell ⟨w.heap.size, 6, none⟩ (.int .i64 0)).setCell ⟨w.heap.size, 7, none⟩ (.bool false)).setCell ⟨w.heap.size, 8, none⟩ (.slice none 0 0)).setCell ⟨w.heap.size, 9, none⟩ (.slice none 0 0)).setCell ⟨w.heap.size, 10, none⟩ (.slice none 0 0))) w.heap.size 30 (packCells ⟨0, 0, 0, 0, 0, 0, 0, false, [], [], []⟩ ⟨none, 0, none, 0, none, 0⟩) ∧ Below w.heap.size w ((((((((((((wr.setCell ⟨w.heap.size, 0, none⟩ (.int .i64 0)).setCell ⟨w.heap.size, 1, none⟩ (.int .u64 0)).setCell ⟨w.heap.size, 2, none⟩ (.int .u64 0)).setCell ⟨w.heap.size, 3, none⟩ (.int .u64 0)).setCell ⟨w.heap.size, 4, none⟩ (.int .u64 0)).setCell ⟨w.heap.size, 5, none⟩ (.int .u64 0)).setCell ⟨w.heap.size, 6, none⟩ (.int .i64 0)).setCell ⟨w.heap.size, 7, none⟩ (.bool false)).setCell ⟨w.heap.size, 8, none⟩ (.slice none 0 0)).setCell ⟨w.heap.size, 9, none⟩ (.slice none 0 0)).setCell ⟨w.heap.size, 10, none⟩ (.slice none 0 0))) := ⟨HL.out.st.res.pack ⟨0, 0, 0, 0, 0, 0, 0, false, [], [], []⟩ ⟨none, 0, none, 0, none, 0⟩, below_pack HL.out.st.below (Nat.le_refl _) ⟨0, 0, 0, 0, 0, 0, 0, false, [], [], []⟩ ⟨none, 0, none, 0, none, 0⟩⟩
        clear f4 r4 b1 p0 t0 p1 t1 p2 t2 p3 t3 p4 t4 p5 t5 p6 t6 p7 t7 p8 t8 p9 t9 p10 t10 g0 g1
        generalize (((((((((((wr.setCell ⟨w.heap.size, 0, none⟩ (.int .i64 0)).setCell ⟨w.heap.size, 1, none⟩ (.int .u64 0)).setCell ⟨w.heap.size, 2, none⟩ (.int .u64 0)).setCell ⟨w.heap.size, 3, none⟩ (.int .u64 0)).setCell ⟨w.heap.size, 4, none⟩ (.int .u64 0)).setCell ⟨w.heap.size, 5, none⟩ (.int .u64 0)).setCell ⟨w.heap.size, 6, none⟩ (.int .i64 0)).setCell ⟨w.heap.size, 7, none⟩ (.bool false)).setCell ⟨w.heap.size, 8, none⟩ (.slice none 0 0)).setCell ⟨w.heap.size, 9, none⟩ (.slice none 0 0)).setCell ⟨w.heap.size, 10, none⟩ (.slice none 0 0)) = W9 at Hy2 ⊢
        obtain ⟨Hy, Hby⟩ := Hy2
        obtain ⟨y0, y1, y2, y3, y4, y5, y6, y7, y8, y9, y10⟩ := pack_facts Hy
        dsimp only at y0 y1 y2 y3 y4 y5 y6 y7 y8 y9 y10
        refine bodyPost_ret (v := .tuple #[packVal ⟨0, 0, 0, 0, 0, 0, 0, false, [], [], []⟩ ⟨none, 0, none, 0, none, 0⟩, .int .i64 6]) (by simp [results, Tryz.results12, go_sem, y0, y1, y2, y3, y4, y5, y6, y7, y8, y9, y10]) rfl ?_
        exact rd_bad HD.out (fun h => by rw [h.2.1] at hn2; simp at hn2; omega) Hby
      have e4 : decide ((0 : Int) < (n2 : Int)) = false := decide_eq_false (by omega)
      obtain rfl : lf = [] := List.eq_nil_of_length_eq_zero (by omega)
      have hr0 : r = [] := List.eq_nil_of_length_eq_zero (by omega)
      have Hr0 := hid_ hr0
      have hpl := HL.out.st.pk.lt
      have hrl := HL.out.st.res.lt
      clear hr0
      cases hrp : rightP ⟨2, x3, 0, 0, 0, 0, 0, false, acc, [], []⟩
      · have Hrp := hid_ hrp
        rw [hrp, show kindP false = 6 from rfl] at Hri
        have e6 : ((6 : Int) != 0) = true := by decide
        clear hrp
        go_wp2_with fail
        refine Calls.mono Hri.out ?_
        rintro e w9 ⟨rfl, hb9⟩
        have Q9 := hid_ (HL.out.st.res.below hb9 hrl)
        have B9 := hid_ (HL.out.st.below.trans (hb9.mono HL.out.st.below.size))
        clear f4 r4 b1 p0 t0 p1 t1 p2 t2 p3 t3 p4 t4 p5 t5 p6 t6 p7 t7 p8 t8 p9 t9 p10 t10 g0 g1
        have r9 : ∀ o, w9.frozen? ⟨w.heap.size, o, none⟩ = false := fun o => Q9.out.free o
        obtain ⟨t0, t1, t2, t3, t4, t5, t6, t7, t8, t9, t10⟩ := pack_facts Q9.out
        dsimp only [zeroP] at t0 t1 t2 t3 t4 t5 t6 t7 t8 t9 t10
        go_wp2_with fail
        have Hy2 : Whole ((((((((((((w9.setCell ⟨w.heap.size, 0, none⟩ (.int .i64 0)).setCell ⟨w.heap.size, 1, none⟩ (.int .u64 0)).setCell ⟨w.heap.size, 2, none⟩ (.int .u64 0)).setCell ⟨w.heap.size, 3, none⟩ (.int .u64 0)).setCell ⟨w.heap.size, 4, none⟩ (.int .u64 0)).setCell ⟨w.heap.size, 5, none⟩ (.int .u64 0)).setCell ⟨w.heap.size, 6, none⟩ (.int .i64 0)).setCell ⟨w.heap.size, 7, none⟩ (.bool false)).setCell ⟨w.heap.size, 8, none⟩ (.slice none 0 0)).setCell ⟨w.heap.size, 9, none⟩ (.slice none 0 0)).setCell ⟨w.heap.size, 10, none⟩ (.slice none 0 0))) w.heap.size 30 (packCells ⟨0, 0, 0, 0, 0, 0, 0, false, [], [], []⟩ ⟨none, 0, none, 0, none, 0⟩) ∧ Below w.heap.size w ((((((((((((w9.setCell ⟨w.heap.size, 0, none⟩ (.int .i64 0)).setCell ⟨w.heap.size, 1, none⟩ (.int .u64 0)).setCell ⟨w.heap.size, 2, none⟩ (.int .u64 0)).setCell ⟨w.heap.size, 3, none⟩ (.int .u64 0)).setCell ⟨w.heap.size, 4, none⟩ (.int .u64 0)).setCell ⟨w.heap.size, 5, none⟩ (.int .u64 0)).setCell ⟨w.heap.size, 6, none⟩ (.int .i64 0)).setCell ⟨w.heap.size, 7, none⟩ (.bool false)).setCell ⟨w.heap.size, 8, none⟩ (.slice none 0 0)).setCell ⟨w.heap.size, 9, none⟩ (.slice none 0 0)).setCell ⟨w.heap.size, 10, none⟩ (.slice none 0 0))) := ⟨Q9.out.pack ⟨0, 0, 0, 0, 0, 0, 0, false, [], [], []⟩ ⟨none, 0, none, 0, none, 0⟩, below_pack B9.out (Nat.le_refl _) ⟨0, 0, 0, 0, 0, 0, 0, false, [], [], []⟩ ⟨none, 0, none, 0, none, 0⟩⟩
        generalize (((((((((((w9.setCell ⟨w.heap.size, 0, none⟩ (.int .i64 0)).setCell ⟨w.heap.size, 1, none⟩ (.int .u64 0)).setCell ⟨w.heap.size, 2, none⟩ (.int .u64 0)).setCell ⟨w.heap.size, 3, none⟩ (.int .u64 0)).setCell ⟨w.heap.size, 4, none⟩ (.int .u64 0)).setCell ⟨w.heap.size, 5, none⟩ (.int .u64 0)).setCell ⟨w.heap.size, 6, none⟩ (.int .i64 0)).setCell ⟨w.heap.size, 7, none⟩ (.bool false)).setCell ⟨w.heap.size, 8, none⟩ (.slice none 0 0)).setCell ⟨w.heap.size, 9, none⟩ (.slice none 0 0)).setCell ⟨w.heap.size, 10, none⟩ (.slice none 0 0)) = W9 at Hy2 ⊢
        obtain ⟨Hy, Hby⟩ := Hy2
        obtain ⟨y0, y1, y2, y3, y4, y5, y6, y7, y8, y9, y10⟩ := pack_facts Hy
        dsimp only at y0 y1 y2 y3 y4 y5 y6 y7 y8 y9 y10
        refine bodyPost_ret (v := .tuple #[packVal ⟨0, 0, 0, 0, 0, 0, 0, false, [], [], []⟩ ⟨none, 0, none, 0, none, 0⟩, .int .i64 6]) (by simp [results, Tryz.results12, go_sem, y0, y1, y2, y3, y4, y5, y6, y7, y8, y9, y10]) rfl ?_
        exact rd_bad HD.out (fun h => by have := h.2.2; rw [Hrp.out] at this; cases this) Hby
      · have Hrp := hid_ hrp
        rw [hrp, show kindP true = 0 from rfl] at Hri
        have e6 : ((0 : Int) != 0) = false := by decide
        clear hrp
        go_wp2_with fail
        refine Calls.mono Hri.out ?_
        rintro e w9 ⟨rfl, hb9⟩
        have Q9 := hid_ (HL.out.st.res.below hb9 hrl)
        have K9 := hid_ (HL.out.st.pk.below hb9 hpl)
        have B9 := hid_ (HL.out.st.below.trans (hb9.mono HL.out.st.below.size))
        clear f4 r4 b1 p0 t0 p1 t1 p2 t2 p3 t3 p4 t4 p5 t5 p6 t6 p7 t7 p8 t8 p9 t9 p10 t10 g0 g1
        have r9 : ∀ o, w9.frozen? ⟨w.heap.size, o, none⟩ = false := fun o => Q9.out.free o
        obtain ⟨t0, t1, t2, t3, t4, t5, t6, t7, t8, t9, t10⟩ := pack_facts Q9.out
        obtain ⟨p0, p1, p2, p3, p4, p5, p6, p7, p8, p9, p10⟩ := pack_facts K9.out
        dsimp only [zeroP] at p0 p1 p2 p3 p4 p5 p6 p7 p8 p9 p10 t0 t1 t2 t3 t4 t5 t6 t7 t8 t9 t10
        go_wp2_with fail
        have Hy2 : Whole ((((((((((((w9.setCell ⟨w.heap.size, 0, none⟩ (.int .i64 2)).setCell ⟨w.heap.size, 1, none⟩ (.int .u64 (x3 : Nat))).setCell ⟨w.heap.size, 2, none⟩ (.int .u64 0)).setCell ⟨w.heap.size, 3, none⟩ (.int .u64 0)).setCell ⟨w.heap.size, 4, none⟩ (.int .u64 0)).setCell ⟨w.heap.size, 5, none⟩ (.int .u64 0)).setCell ⟨w.heap.size, 6, none⟩ (.int .i64 0)).setCell ⟨w.heap.size, 7, none⟩ (.bool false)).setCell ⟨w.heap.size, 8, none⟩ (.slice A acc.length c)).setCell ⟨w.heap.size, 9, none⟩ (.slice none 0 0)).setCell ⟨w.heap.size, 10, none⟩ (.slice none 0 0))) w.heap.size 30 (packCells ⟨2, x3, 0, 0, 0, 0, 0, false, acc, [], []⟩ ⟨A, c, none, 0, none, 0⟩) ∧ Below w.heap.size w ((((((((((((w9.setCell ⟨w.heap.size, 0, none⟩ (.int .i64 2)).setCell ⟨w.heap.size, 1, none⟩ (.int .u64 (x3 : Nat))).setCell ⟨w.heap.size, 2, none⟩ (.int .u64 0)).setCell ⟨w.heap.size, 3, none⟩ (.int .u64 0)).setCell ⟨w.heap.size, 4, none⟩ (.int .u64 0)).setCell ⟨w.heap.size, 5, none⟩ (.int .u64 0)).setCell ⟨w.heap.size, 6, none⟩ (.int .i64 0)).setCell ⟨w.heap.size, 7, none⟩ (.bool false)).setCell ⟨w.heap.size, 8, none⟩ (.slice A acc.length c)).setCell ⟨w.heap.size, 9, none⟩ (.slice none 0 0)).setCell ⟨w.heap.size, 10, none⟩ (.slice none 0 0))) ∧ PackIn ((((((((((((w9.setCell ⟨w.heap.size, 0, none⟩ (.int .i64 2)).setCell ⟨w.heap.size, 1, none⟩ (.int .u64 (x3 : Nat))).setCell ⟨w.heap.size, 2, none⟩ (.int .u64 0)).setCell ⟨w.heap.size, 3, none⟩ (.int .u64 0)).setCell ⟨w.heap.size, 4, none⟩ (.int .u64 0)).setCell ⟨w.heap.size, 5, none⟩ (.int .u64 0)).setCell ⟨w.heap.size, 6, none⟩ (.int .i64 0)).setCell ⟨w.heap.size, 7, none⟩ (.bool false)).setCell ⟨w.heap.size, 8, none⟩ (.slice A acc.length c)).setCell ⟨w.heap.size, 9, none⟩ (.slice none 0 0)).setCell ⟨w.heap.size, 10, none⟩ (.slice none 0 0))) ⟨2, x3, 0, 0, 0, 0, 0, false, acc, [], []⟩ ⟨A, c, none, 0, none, 0⟩ := ⟨Q9.out.pack ⟨2, x3, 0, 0, 0, 0, 0, false, acc, [], []⟩ ⟨A, c, none, 0, none, 0⟩, below_pack B9.out (Nat.le_refl _) ⟨2, x3, 0, 0, 0, 0, 0, false, acc, [], []⟩ ⟨A, c, none, 0, none, 0⟩, packIn_set (p := ⟨2, x3, 0, 0, 0, 0, 0, false, acc, [], []⟩) (s := ⟨A, c, none, 0, none, 0⟩) (PI.out.below hb9) EL⟩
        clear r9 p0 t0 p1 t1 p2 t2 p3 t3 p4 t4 p5 t5 p6 t6 p7 t7 p8 t8 p9 t9 p10 t10
        generalize (((((((((((w9.setCell ⟨w.heap.size, 0, none⟩ (.int .i64 2)).setCell ⟨w.heap.size, 1, none⟩ (.int .u64 (x3 : Nat))).setCell ⟨w.heap.size, 2, none⟩ (.int .u64 0)).setCell ⟨w.heap.size, 3, none⟩ (.int .u64 0)).setCell ⟨w.heap.size, 4, none⟩ (.int .u64 0)).setCell ⟨w.heap.size, 5, none⟩ (.int .u64 0)).setCell ⟨w.heap.size, 6, none⟩ (.int .i64 0)).setCell ⟨w.heap.size, 7, none⟩ (.bool false)).setCell ⟨w.heap.size, 8, none⟩ (.slice A acc.length c)).setCell ⟨w.heap.size, 9, none⟩ (.slice none 0 0)).setCell ⟨w.heap.size, 10, none⟩ (.slice none 0 0)) = W9 at Hy2 ⊢
        obtain ⟨Hy, Hby, Hin⟩ := Hy2
        obtain ⟨y0, y1, y2, y3, y4, y5, y6, y7, y8, y9, y10⟩ := pack_facts Hy
        dsimp only at y0 y1 y2 y3 y4 y5 y6 y7 y8 y9 y10
        refine bodyPost_ret (v := .tuple #[packVal ⟨2, x3, 0, 0, 0, 0, 0, false, acc, [], []⟩ ⟨A, c, none, 0, none, 0⟩, .int .i64 0]) (by simp [results, Tryz.results12, go_sem, y0, y1, y2, y3, y4, y5, y6, y7, y8, y9, y10]) rfl ?_
        exact rd_good HD.out Hr0.out Hrp.out Hin Hby
end Go.Proofs.YtnpbokbfkdncmaaGreat
