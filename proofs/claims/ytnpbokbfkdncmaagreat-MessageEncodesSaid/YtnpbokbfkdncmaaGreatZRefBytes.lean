/-
  The reference's bytes of a right packet.
-/
import Derived.Test.YtnpbokbfkdncmaaGreatZGC
import Derived.Test.YtnpbokbfkdncmaaGreatZRefBal
namespace Go.Proofs.YtnpbokbfkdncmaaGreat
set_option linter.unusedSimpArgs false
set_option linter.unusedVariables false
open Go.RowKit Ru
theorem wr_later {B : Nat} {w0 w w' : World} {A : Option Addr} {n c : Nat} {p : PackD} {pre post : List UInt8} (h : Wr B w0 w A n c p pre post) (hB : B ≤ w.heap.size) (hb : Below w.heap.size w w') : Wr B w0 w' A n c p pre post :=
  ⟨h.own.later hb, h.all, h.len, h.below.trans (hb.mono hB), h.pos⟩
theorem wr_app {B : Nat} {w0 w w' : World} {A A' : Option Addr} {n c n' c' : Nat} {p : PackD} {pre post x : List UInt8} (h : Wr B w0 w A n c p pre (x ++ post)) (ho : Own B w' A' n' c' (pre ++ x)) (hb : Below B w0 w') : Wr B w0 w' A' n' c' p (pre ++ x) post := by
  have hl := ho.sl.len
  rw [List.length_append] at hl
  have h0 := h.own.sl.len
  have hp := h.pos
  exact ⟨ho, by rw [List.append_assoc]; exact h.all, h.len, hb, by omega⟩
theorem step_ballot {B : Nat} {w0 w : World} {A : Option Addr} {n c : Nat} {p : PackD} {pre post : List UInt8} (bn bd : Nat) (h : Wr B w0 w A n c p pre ([bn, bd].flatMap eight ++ post)) (hB : B ≤ w.heap.size) (h1 : bn < 18446744073709551616) (h2 : bd < 18446744073709551616) :
    Calls Tryz.prog 51 #[.slice A n c, .agg #[.int .u64 (bn : Nat), .int .u64 (bd : Nat)]] w (WrPost B w0 p (pre ++ [bn, bd].flatMap eight) post) := by
  refine Calls.mono (refballot_any B A n c pre bn bd w h.own hB (by have := h.n_le; omega) h1 h2) ?_
  rintro e w' ⟨A', c', rfl, ho, hb⟩
  exact ⟨A', n + 16, c', rfl, wr_app h ho (h.below.trans hb)⟩
theorem step_rspan {B : Nat} {w0 w : World} {A : Option Addr} {n c : Nat} {p : PackD} {pre post : List UInt8} (s : SpanD) (h : Wr B w0 w A n c p pre (putF s ++ post)) (hB : B ≤ w.heap.size) (hw : s.Wf) (hr : rightF s = 0) :
    Calls Tryz.prog 53 #[.slice A n c, spanVal s] w (fun e w' => ∃ A n c, e = .returned (.tuple #[.slice A n c, .int .i64 0]) ∧ Wr B w0 w' A n c p (pre ++ putF s) post) := by
  refine Calls.mono (refput_ok A n c pre s w h.own.sl (by have := h.n_le; omega) hw hr) ?_
  rintro e w' (⟨h1, _⟩ | ⟨_, A', n', c', rfl, ho, hb⟩)
  · exact absurd hr h1
  · exact ⟨A', n', c', rfl, wr_app h (ho.mono hB) (h.below.trans (hb.mono hB))⟩
theorem lit_flag (w : World) (t : Bool) (G : Nat) (hG : G = w.heap.size) : Sl (w.alloc (.cells #[.int .u8 (tB t)] 5)) (some ⟨G, 0, Option.none⟩) 1 1 [flag t] := by
  subst hG
  exact (own_lit w [flag t] _ (by cases t <;> rfl) 1 rfl (by omega) _ (Nat.le_refl _)).sl
abbrev AnsIn (B : Nat) (w : World) (g : Nat) (ok : Bool) (sn sd : Nat) (W : World) : Prop :=
  Below B w W ∧ g < W.heap.size ∧ W.cell? ⟨g, 4, none⟩ = some (.int .u64 (sn : Nat)) ∧ W.cell? ⟨g, 5, none⟩ = some (.int .u64 (sd : Nat)) ∧ W.cell? ⟨g, 7, none⟩ = some (.bool ok)
theorem ansIn_keep {B : Nat} {w W W' : World} {g sn sd : Nat} {ok : Bool} (hB : B ≤ w.heap.size) (h : AnsIn B w g ok sn sd W) (hb : Below W.heap.size W W') : AnsIn B w g ok sn sd W' := by
  obtain ⟨h0, hg, a0, a1, a2⟩ := h
  have k : ∀ o', W'.cell? ⟨g, o', none⟩ = W.cell? ⟨g, o', none⟩ := fun o' => hb.cell (p := ⟨g, o', none⟩) hg
  exact ⟨h0.trans (hb.mono (Nat.le_trans hB h0.size)), Nat.lt_of_lt_of_le hg hb.size, by rw [k]; exact a0, by rw [k]; exact a1, by rw [k]; exact a2⟩
theorem ansIn_low {B : Nat} {w W W' : World} {g sn sd : Nat} {ok : Bool} (hB : g < B) (h : AnsIn B w g ok sn sd W) (hb : Below B W W') : AnsIn B w g ok sn sd W' := by
  obtain ⟨h0, hg, a0, a1, a2⟩ := h
  have k : ∀ o', W'.cell? ⟨g, o', none⟩ = W.cell? ⟨g, o', none⟩ := fun o' => hb.cell (p := ⟨g, o', none⟩) hB
  exact ⟨h0.trans hb, Nat.lt_of_lt_of_le hg hb.size, by rw [k]; exact a0, by rw [k]; exact a1, by rw [k]; exact a2⟩
abbrev MemIn (B : Nat) (w : World) (g : Nat) (m : MemberD) (W : World) : Prop :=
  Below B w W ∧ g < W.heap.size ∧ W.cell? ⟨g, 0, none⟩ = some (.int .u64 (m.id : Nat)) ∧ W.cell? ⟨g, 1, none⟩ = some (.int .u64 (m.inc : Nat)) ∧ W.cell? ⟨g, 2, none⟩ = some (.int .i64 m.state)
theorem memIn_keep {B : Nat} {w W W' : World} {g : Nat} {m : MemberD} (hB : B ≤ w.heap.size) (h : MemIn B w g m W) (hb : Below W.heap.size W W') : MemIn B w g m W' := by
  obtain ⟨h0, hg, a0, a1, a2⟩ := h
  have k : ∀ o', W'.cell? ⟨g, o', none⟩ = W.cell? ⟨g, o', none⟩ := fun o' => hb.cell (p := ⟨g, o', none⟩) hg
  exact ⟨h0.trans (hb.mono (Nat.le_trans hB h0.size)), Nat.lt_of_lt_of_le hg hb.size, by rw [k]; exact a0, by rw [k]; exact a1, by rw [k]; exact a2⟩
theorem memIn_app {B : Nat} {w W W' : World} {g : Nat} {m : MemberD} {A : Option Addr} {n c : Nat} (h : MemIn B w g m W) (hb : Below B W W') (hg : W.grownBy W' (Value.slice A n c).ownBlock) (hx : Apart W A n c g) : MemIn B w g m W' := by
  obtain ⟨h0, hg0, a0, a1, a2⟩ := h
  exact ⟨h0.trans hb, Nat.lt_of_lt_of_le hg0 hg.size, hg.cell a0 (fun e => hx.1 e.symm), hg.cell a1 (fun e => hx.1 e.symm), hg.cell a2 (fun e => hx.1 e.symm)⟩
set_option maxRecDepth 100000 in
set_option maxHeartbeats 8000000 in
theorem refbytes1_any (p : PackD) (s : PackS) (w : World) (hp : PackIn w p s) (hw : p.Wf) (hr : RightD p) (hk : p.kind = 1) : Calls Tryz.prog 22 #[packVal p s] w (RowPost w.heap.size w (writtenF p)) := by
  have Hle := hid_ (written_le hr).2
  have Hwf := hid_ (show writtenF p = byteI 1 :: (eight p.trace ++ (byteI (p.spans.length : Int) :: (p.spans.flatMap putF ++ []))) by unfold writtenF; rw [hk, parts_1]; simp [optB])
  have hv1 := hr.v.1
  have hv2 := hr.v.2
  have q1 := hr.spans1
  have q2 := hr.members1
  have q3 := hr.ids1
  have Hr := hid_ hr
  clear hr
  obtain ⟨k, tr, bn, bd, sn, sd, v, ok, l1, l2, l3⟩ := p
  obtain ⟨a1, e1, a2, e2, a3, e3⟩ := s
  simp only at hk hv1 hv2 q1 q2 q3 Hwf Hle
  subst hk
  have Ha := hid_ (show Below w.heap.size w (w.alloc (.cells #[.int .i64 1, .int .u64 (tr : Nat), .int .u64 (bn : Nat), .int .u64 (bd : Nat), .int .u64 (sn : Nat), .int .u64 (sd : Nat), .int .i64 v, .bool ok, .slice a1 l1.length e1, .slice a2 l2.length e2, .slice a3 l3.length e3] 30)) from (Below.refl _ _).alloc (Nat.le_refl _) _)
  have B0 := hid_ (whole_new w 30 #[.int .i64 1, .int .u64 (tr : Nat), .int .u64 (bn : Nat), .int .u64 (bd : Nat), .int .u64 (sn : Nat), .int .u64 (sd : Nat), .int .i64 v, .bool ok, .slice a1 l1.length e1, .slice a2 l2.length e2, .slice a3 l3.length e3])
  have Htr := hid_ hw.trace
  have Hbn := hid_ hw.bn
  have Hbd := hid_ hw.bnode
  have Hsn := hid_ hw.sn
  have Hsd := hid_ hw.snode
  have Hp := hid_ hp
  have Hw := hid_ hw
  dsimp only at Htr Hbn Hbd Hsn Hsd
  clear hp hw
  have S0 := hid_ (wr_start (w.alloc (.cells #[.int .i64 1, .int .u64 (tr : Nat), .int .u64 (bn : Nat), .int .u64 (bd : Nat), .int .u64 (sn : Nat), .int .u64 (sd : Nat), .int .i64 v, .bool ok, .slice a1 l1.length e1, .slice a2 l2.length e2, .slice a3 l3.length e3] 30)) ⟨1, tr, bn, bd, sn, sd, v, ok, l1, l2, l3⟩ 1 1 (eight tr ++ (byteI (l1.length : Int) :: (l1.flatMap putF ++ []))) (by rw [Hwf.out]) (by rfl) Hle.out (w.heap.size + 1) (by simp))
  have hsa : (w.alloc (.cells #[.int .i64 1, .int .u64 (tr : Nat), .int .u64 (bn : Nat), .int .u64 (bd : Nat), .int .u64 (sn : Nat), .int .u64 (sd : Nat), .int .i64 v, .bool ok, .slice a1 l1.length e1, .slice a2 l2.length e2, .slice a3 l3.length e3] 30)).heap.size = w.heap.size + 1 := by simp
  go_enter Tryz.func22, Tryz.ntmps22
  go_wp2_with (first
    | (go_at_call 50; (with_reducible refine Calls.mono (refeight_any tr _ Htr.out) ?_); rintro e v1 ⟨F1, f1, rfl, ho', hb'⟩; have HE1 := hid_ ho'.sl; have T1 := hid_ (wr_later S0.out (by simp <;> omega) hb'); have hv1 := T1.out.size; have hn1 := T1.out.n_le; clear ho' hb')
    | (at_builtin; refine wpList_bytes rfl (.tmp 15) (.tmp 18) rfl (w.heap.size + 1) (some ⟨w.heap.size + 1, 0, none⟩) 1 1 _ rfl T1.out.own F1 8 f1 (eight tr) rfl HE1.out 9 _ (by omega) rfl (by omega) (by omega) ?_; intro A1 c1 w1 ho' hb'; have S1 := hid_ (wr_app T1.out ho' (T1.out.below.trans hb')); clear ho' hb'; have B1 := hid_ (B0.out.below S1.out.below (by omega)); have hz1 : w.heap.size + 1 ≤ w1.heap.size := Nat.le_trans (Nat.le_of_eq hsa.symm) S1.out.size; have x0 := B1.out.cell 0 _ rfl; have x1 := B1.out.cell 1 _ rfl; have x2 := B1.out.cell 2 _ rfl; have x3 := B1.out.cell 3 _ rfl; have x4 := B1.out.cell 4 _ rfl; have x5 := B1.out.cell 5 _ rfl; have x6 := B1.out.cell 6 _ rfl; have x7 := B1.out.cell 7 _ rfl; have x8 := B1.out.cell 8 _ rfl; have x9 := B1.out.cell 9 _ rfl; have x10 := B1.out.cell 10 _ rfl; skip)
    | (at_builtin; have hn2 := S1.out.n_le; refine wpList_bytes rfl (.tmp 96) (.tmp 101) rfl (w.heap.size + 1) A1 9 c1 _ rfl (S1.out.own.alloc _) (some ⟨w1.heap.size, 0, none⟩) 1 1 [byteI (l1.length : Int)] rfl (own_lit_at w1 [byteI (l1.length : Int)] _ (byte_lit (by omega)) (w1.heap.size) rfl).sl (9 + 1) _ rfl rfl (by omega) (by simp <;> omega) ?_; intro A2 c2 w2 ho' hb'; have S2 := hid_ (wr_byte S1.out ho' ((S1.out.below.alloc hz1 _).trans hb')); clear ho' hb'; clear x0 x1 x2 x3 x4 x5 x6 x7 x8 x9 x10; have B2 := hid_ (B0.out.below S2.out.below (by omega)); have hz2 : w.heap.size + 1 ≤ w2.heap.size := Nat.le_trans (Nat.le_of_eq hsa.symm) S2.out.size; have x0 := B2.out.cell 0 _ rfl; have x1 := B2.out.cell 1 _ rfl; have x2 := B2.out.cell 2 _ rfl; have x3 := B2.out.cell 3 _ rfl; have x4 := B2.out.cell 4 _ rfl; have x5 := B2.out.cell 5 _ rfl; have x6 := B2.out.cell 6 _ rfl; have x7 := B2.out.cell 7 _ rfl; have x8 := B2.out.cell 8 _ rfl; have x9 := B2.out.cell 9 _ rfl; have x10 := B2.out.cell 10 _ rfl; skip))
  have Hrw := hid_ (fun (W : World) (hb : Below (w.heap.size + 1) (w.alloc (.cells #[.int .i64 1, .int .u64 (tr : Nat), .int .u64 (bn : Nat), .int .u64 (bd : Nat), .int .u64 (sn : Nat), .int .u64 (sd : Nat), .int .i64 v, .bool ok, .slice a1 l1.length e1, .slice a2 l2.length e2, .slice a3 l3.length e3] 30)) W) => Hp.out.r1.below (Ha.out.trans (hb.mono (by omega))))
  have u1 := Hp.out.r1.cap
  have u2 := Hp.out.r1.max
  try dsimp only at u1 u2
  obtain ⟨pre, S3'⟩ : ∃ pre, Hid (Wr (w.heap.size + 1) (w.alloc (.cells #[.int .i64 1, .int .u64 (tr : Nat), .int .u64 (bn : Nat), .int .u64 (bd : Nat), .int .u64 (sn : Nat), .int .u64 (sd : Nat), .int .i64 v, .bool ok, .slice a1 l1.length e1, .slice a2 l2.length e2, .slice a3 l3.length e3] 30)) w2 A2 (9 + 1) c2 ⟨1, tr, bn, bd, sn, sd, v, ok, l1, l2, l3⟩ pre (l1.flatMap putF)) := ⟨_, hid_ (S2.out.to rfl (List.append_nil _))⟩
  clear x0 x1 x2 x3 x4 x5 x6 x7 x8 x9 x10
  go_loopw [3, 4] (fun va i wr => ∃ (k : Nat) (A : Option Addr) (n c : Nat), k ≤ l1.length ∧ i = .int .i64 (k : Nat) ∧ va = .slice A n c ∧ Hid (Wr (w.heap.size + 1) (w.alloc (.cells #[.int .i64 1, .int .u64 (tr : Nat), .int .u64 (bn : Nat), .int .u64 (bd : Nat), .int .u64 (sn : Nat), .int .u64 (sd : Nat), .int .i64 v, .bool ok, .slice a1 l1.length e1, .slice a2 l2.length e2, .slice a3 l3.length e3] 30)) wr A n c ⟨1, tr, bn, bd, sn, sd, v, ok, l1, l2, l3⟩ (pre ++ (l1.take k).flatMap putF) ((l1.drop k).flatMap putF)) ∧ w.heap.size + 1 ≤ wr.heap.size) (fun _ i _ => l1.length - (intOf i).toNat)
  case atStart => exact ⟨0, A2, (9 + 1), c2, by omega, rfl, rfl, hid_ (S3'.out.to (by simp) (by simp)), hz2⟩
  case round =>
    obtain ⟨k, A, n, c, hk, rfl, rfl, S, hz⟩ := hrel
    have Bk := hid_ (B0.out.below S.out.below (by omega))
    have x0 := Bk.out.cell 0 _ rfl
    have x6 := Bk.out.cell 8 _ rfl
    have x7 := Bk.out.cell 9 _ rfl
    have x8 := Bk.out.cell 10 _ rfl
    skip
    by_cases hlt : k < l1.length
    · have hrow := Hrw.out wr S.out.below
      try dsimp only at hrow
      have y1 : (k : Int) < (l1.length : Int) := by omega
      have y2 : (0 : Int) ≤ (k : Int) := by omega
      have Hdr := hid_ (flat_cons putF l1 hlt)
      have Htk := hid_ (show (l1.take (k + 1)).flatMap putF = (l1.take k).flatMap putF ++ putF l1[k] by rw [List.take_succ_eq_append_getElem hlt, List.flatMap_append, List.flatMap_cons, List.flatMap_nil, List.append_nil])
      obtain ⟨b, off, ha, hc⟩ := hrow.at_ hlt
      subst ha
      obtain ⟨c0, c1, c2, c3, c4, c5, c6, c7⟩ := hc
      have Hxw := hid_ (Hw.out.spans l1[k] (List.getElem_mem hlt))
      have Hxr := hid_ (Hr.out.spans2 l1[k] (List.getElem_mem hlt))
      generalize l1[k] = x at *
      go_wp2_with fail
      refine Calls.mono (step_rspan x (S.out.to rfl Hdr.out) hz Hxw.out Hxr.out) ?_
      rintro e w5 ⟨A5, n5, c5, rfl, S5⟩
      have S5 := hid_ S5
      clear c0 c1 c2 c3 c4 c6 c7 x0 x6 x7 x8
      go_wp2_with fail
      go_roundw
      case rel => exact ⟨k + 1, A5, n5, c5, by omega, by go_num, rfl, hid_ (S5.out.to (by rw [Htk.out, List.append_assoc]) rfl), by have := S5.out.size; omega⟩
      case measure => simp [intOf]; omega
    · obtain rfl : k = l1.length := by omega
      go_wp2_with fail
      go_ret
      exact (S.out.to rfl (by simp)).done (by omega) Ha.out
set_option maxRecDepth 100000 in
set_option maxHeartbeats 8000000 in
theorem refbytes2_any (p : PackD) (s : PackS) (w : World) (hp : PackIn w p s) (hw : p.Wf) (hr : RightD p) (hk : p.kind = 2) : Calls Tryz.prog 22 #[packVal p s] w (RowPost w.heap.size w (writtenF p)) := by
  have Hle := hid_ (written_le hr).2
  have Hwf := hid_ (show writtenF p = byteI 2 :: (eight p.trace ++ (byteI (p.spans.length : Int) :: (p.spans.flatMap putF ++ []))) by unfold writtenF; rw [hk, parts_2]; simp [optB])
  have hv1 := hr.v.1
  have hv2 := hr.v.2
  have q1 := hr.spans1
  have q2 := hr.members1
  have q3 := hr.ids1
  have Hr := hid_ hr
  clear hr
  obtain ⟨k, tr, bn, bd, sn, sd, v, ok, l1, l2, l3⟩ := p
  obtain ⟨a1, e1, a2, e2, a3, e3⟩ := s
  simp only at hk hv1 hv2 q1 q2 q3 Hwf Hle
  subst hk
  have Ha := hid_ (show Below w.heap.size w (w.alloc (.cells #[.int .i64 2, .int .u64 (tr : Nat), .int .u64 (bn : Nat), .int .u64 (bd : Nat), .int .u64 (sn : Nat), .int .u64 (sd : Nat), .int .i64 v, .bool ok, .slice a1 l1.length e1, .slice a2 l2.length e2, .slice a3 l3.length e3] 30)) from (Below.refl _ _).alloc (Nat.le_refl _) _)
  have B0 := hid_ (whole_new w 30 #[.int .i64 2, .int .u64 (tr : Nat), .int .u64 (bn : Nat), .int .u64 (bd : Nat), .int .u64 (sn : Nat), .int .u64 (sd : Nat), .int .i64 v, .bool ok, .slice a1 l1.length e1, .slice a2 l2.length e2, .slice a3 l3.length e3])
  have Htr := hid_ hw.trace
  have Hbn := hid_ hw.bn
  have Hbd := hid_ hw.bnode
  have Hsn := hid_ hw.sn
  have Hsd := hid_ hw.snode
  have Hp := hid_ hp
  have Hw := hid_ hw
  dsimp only at Htr Hbn Hbd Hsn Hsd
  clear hp hw
  have S0 := hid_ (wr_start (w.alloc (.cells #[.int .i64 2, .int .u64 (tr : Nat), .int .u64 (bn : Nat), .int .u64 (bd : Nat), .int .u64 (sn : Nat), .int .u64 (sd : Nat), .int .i64 v, .bool ok, .slice a1 l1.length e1, .slice a2 l2.length e2, .slice a3 l3.length e3] 30)) ⟨2, tr, bn, bd, sn, sd, v, ok, l1, l2, l3⟩ 2 2 (eight tr ++ (byteI (l1.length : Int) :: (l1.flatMap putF ++ []))) (by rw [Hwf.out]) (by rfl) Hle.out (w.heap.size + 1) (by simp))
  have hsa : (w.alloc (.cells #[.int .i64 2, .int .u64 (tr : Nat), .int .u64 (bn : Nat), .int .u64 (bd : Nat), .int .u64 (sn : Nat), .int .u64 (sd : Nat), .int .i64 v, .bool ok, .slice a1 l1.length e1, .slice a2 l2.length e2, .slice a3 l3.length e3] 30)).heap.size = w.heap.size + 1 := by simp
  go_enter Tryz.func22, Tryz.ntmps22
  go_wp2_with (first
    | (go_at_call 50; (with_reducible refine Calls.mono (refeight_any tr _ Htr.out) ?_); rintro e v1 ⟨F1, f1, rfl, ho', hb'⟩; have HE1 := hid_ ho'.sl; have T1 := hid_ (wr_later S0.out (by simp <;> omega) hb'); have hv1 := T1.out.size; have hn1 := T1.out.n_le; clear ho' hb')
    | (at_builtin; refine wpList_bytes rfl (.tmp 15) (.tmp 18) rfl (w.heap.size + 1) (some ⟨w.heap.size + 1, 0, none⟩) 1 1 _ rfl T1.out.own F1 8 f1 (eight tr) rfl HE1.out 9 _ (by omega) rfl (by omega) (by omega) ?_; intro A1 c1 w1 ho' hb'; have S1 := hid_ (wr_app T1.out ho' (T1.out.below.trans hb')); clear ho' hb'; have B1 := hid_ (B0.out.below S1.out.below (by omega)); have hz1 : w.heap.size + 1 ≤ w1.heap.size := Nat.le_trans (Nat.le_of_eq hsa.symm) S1.out.size; have x0 := B1.out.cell 0 _ rfl; have x1 := B1.out.cell 1 _ rfl; have x2 := B1.out.cell 2 _ rfl; have x3 := B1.out.cell 3 _ rfl; have x4 := B1.out.cell 4 _ rfl; have x5 := B1.out.cell 5 _ rfl; have x6 := B1.out.cell 6 _ rfl; have x7 := B1.out.cell 7 _ rfl; have x8 := B1.out.cell 8 _ rfl; have x9 := B1.out.cell 9 _ rfl; have x10 := B1.out.cell 10 _ rfl; skip)
    | (at_builtin; have hn2 := S1.out.n_le; refine wpList_bytes rfl (.tmp 96) (.tmp 101) rfl (w.heap.size + 1) A1 9 c1 _ rfl (S1.out.own.alloc _) (some ⟨w1.heap.size, 0, none⟩) 1 1 [byteI (l1.length : Int)] rfl (own_lit_at w1 [byteI (l1.length : Int)] _ (byte_lit (by omega)) (w1.heap.size) rfl).sl (9 + 1) _ rfl rfl (by omega) (by simp <;> omega) ?_; intro A2 c2 w2 ho' hb'; have S2 := hid_ (wr_byte S1.out ho' ((S1.out.below.alloc hz1 _).trans hb')); clear ho' hb'; clear x0 x1 x2 x3 x4 x5 x6 x7 x8 x9 x10; have B2 := hid_ (B0.out.below S2.out.below (by omega)); have hz2 : w.heap.size + 1 ≤ w2.heap.size := Nat.le_trans (Nat.le_of_eq hsa.symm) S2.out.size; have x0 := B2.out.cell 0 _ rfl; have x1 := B2.out.cell 1 _ rfl; have x2 := B2.out.cell 2 _ rfl; have x3 := B2.out.cell 3 _ rfl; have x4 := B2.out.cell 4 _ rfl; have x5 := B2.out.cell 5 _ rfl; have x6 := B2.out.cell 6 _ rfl; have x7 := B2.out.cell 7 _ rfl; have x8 := B2.out.cell 8 _ rfl; have x9 := B2.out.cell 9 _ rfl; have x10 := B2.out.cell 10 _ rfl; skip))
  have Hrw := hid_ (fun (W : World) (hb : Below (w.heap.size + 1) (w.alloc (.cells #[.int .i64 2, .int .u64 (tr : Nat), .int .u64 (bn : Nat), .int .u64 (bd : Nat), .int .u64 (sn : Nat), .int .u64 (sd : Nat), .int .i64 v, .bool ok, .slice a1 l1.length e1, .slice a2 l2.length e2, .slice a3 l3.length e3] 30)) W) => Hp.out.r1.below (Ha.out.trans (hb.mono (by omega))))
  have u1 := Hp.out.r1.cap
  have u2 := Hp.out.r1.max
  try dsimp only at u1 u2
  obtain ⟨pre, S3'⟩ : ∃ pre, Hid (Wr (w.heap.size + 1) (w.alloc (.cells #[.int .i64 2, .int .u64 (tr : Nat), .int .u64 (bn : Nat), .int .u64 (bd : Nat), .int .u64 (sn : Nat), .int .u64 (sd : Nat), .int .i64 v, .bool ok, .slice a1 l1.length e1, .slice a2 l2.length e2, .slice a3 l3.length e3] 30)) w2 A2 (9 + 1) c2 ⟨2, tr, bn, bd, sn, sd, v, ok, l1, l2, l3⟩ pre (l1.flatMap putF)) := ⟨_, hid_ (S2.out.to rfl (List.append_nil _))⟩
  clear x0 x1 x2 x3 x4 x5 x6 x7 x8 x9 x10
  go_loopw [3, 4] (fun va i wr => ∃ (k : Nat) (A : Option Addr) (n c : Nat), k ≤ l1.length ∧ i = .int .i64 (k : Nat) ∧ va = .slice A n c ∧ Hid (Wr (w.heap.size + 1) (w.alloc (.cells #[.int .i64 2, .int .u64 (tr : Nat), .int .u64 (bn : Nat), .int .u64 (bd : Nat), .int .u64 (sn : Nat), .int .u64 (sd : Nat), .int .i64 v, .bool ok, .slice a1 l1.length e1, .slice a2 l2.length e2, .slice a3 l3.length e3] 30)) wr A n c ⟨2, tr, bn, bd, sn, sd, v, ok, l1, l2, l3⟩ (pre ++ (l1.take k).flatMap putF) ((l1.drop k).flatMap putF)) ∧ w.heap.size + 1 ≤ wr.heap.size) (fun _ i _ => l1.length - (intOf i).toNat)
  case atStart => exact ⟨0, A2, (9 + 1), c2, by omega, rfl, rfl, hid_ (S3'.out.to (by simp) (by simp)), hz2⟩
  case round =>
    obtain ⟨k, A, n, c, hk, rfl, rfl, S, hz⟩ := hrel
    have Bk := hid_ (B0.out.below S.out.below (by omega))
    have x0 := Bk.out.cell 0 _ rfl
    have x6 := Bk.out.cell 8 _ rfl
    have x7 := Bk.out.cell 9 _ rfl
    have x8 := Bk.out.cell 10 _ rfl
    skip
    by_cases hlt : k < l1.length
    · have hrow := Hrw.out wr S.out.below
      try dsimp only at hrow
      have y1 : (k : Int) < (l1.length : Int) := by omega
      have y2 : (0 : Int) ≤ (k : Int) := by omega
      have Hdr := hid_ (flat_cons putF l1 hlt)
      have Htk := hid_ (show (l1.take (k + 1)).flatMap putF = (l1.take k).flatMap putF ++ putF l1[k] by rw [List.take_succ_eq_append_getElem hlt, List.flatMap_append, List.flatMap_cons, List.flatMap_nil, List.append_nil])
      obtain ⟨b, off, ha, hc⟩ := hrow.at_ hlt
      subst ha
      obtain ⟨c0, c1, c2, c3, c4, c5, c6, c7⟩ := hc
      have Hxw := hid_ (Hw.out.spans l1[k] (List.getElem_mem hlt))
      have Hxr := hid_ (Hr.out.spans2 l1[k] (List.getElem_mem hlt))
      generalize l1[k] = x at *
      go_wp2_with fail
      refine Calls.mono (step_rspan x (S.out.to rfl Hdr.out) hz Hxw.out Hxr.out) ?_
      rintro e w5 ⟨A5, n5, c5, rfl, S5⟩
      have S5 := hid_ S5
      clear c0 c1 c2 c3 c4 c6 c7 x0 x6 x7 x8
      go_wp2_with fail
      go_roundw
      case rel => exact ⟨k + 1, A5, n5, c5, by omega, by go_num, rfl, hid_ (S5.out.to (by rw [Htk.out, List.append_assoc]) rfl), by have := S5.out.size; omega⟩
      case measure => simp [intOf]; omega
    · obtain rfl : k = l1.length := by omega
      go_wp2_with fail
      go_ret
      exact (S.out.to rfl (by simp)).done (by omega) Ha.out
set_option maxRecDepth 100000 in
set_option maxHeartbeats 8000000 in
theorem refbytes3_any (p : PackD) (s : PackS) (w : World) (hp : PackIn w p s) (hw : p.Wf) (hr : RightD p) (hk : p.kind = 3) : Calls Tryz.prog 22 #[packVal p s] w (RowPost w.heap.size w (writtenF p)) := by
  have Hle := hid_ (written_le hr).2
  have Hwf := hid_ (show writtenF p = byteI 3 :: (byteI (p.members.length : Int) :: (p.members.flatMap memB ++ [])) by unfold writtenF; rw [hk, parts_3]; simp [optB])
  have hv1 := hr.v.1
  have hv2 := hr.v.2
  have q1 := hr.spans1
  have q2 := hr.members1
  have q3 := hr.ids1
  have Hr := hid_ hr
  clear hr
  obtain ⟨k, tr, bn, bd, sn, sd, v, ok, l1, l2, l3⟩ := p
  obtain ⟨a1, e1, a2, e2, a3, e3⟩ := s
  simp only at hk hv1 hv2 q1 q2 q3 Hwf Hle
  subst hk
  have Ha := hid_ (show Below w.heap.size w (w.alloc (.cells #[.int .i64 3, .int .u64 (tr : Nat), .int .u64 (bn : Nat), .int .u64 (bd : Nat), .int .u64 (sn : Nat), .int .u64 (sd : Nat), .int .i64 v, .bool ok, .slice a1 l1.length e1, .slice a2 l2.length e2, .slice a3 l3.length e3] 30)) from (Below.refl _ _).alloc (Nat.le_refl _) _)
  have B0 := hid_ (whole_new w 30 #[.int .i64 3, .int .u64 (tr : Nat), .int .u64 (bn : Nat), .int .u64 (bd : Nat), .int .u64 (sn : Nat), .int .u64 (sd : Nat), .int .i64 v, .bool ok, .slice a1 l1.length e1, .slice a2 l2.length e2, .slice a3 l3.length e3])
  have Htr := hid_ hw.trace
  have Hbn := hid_ hw.bn
  have Hbd := hid_ hw.bnode
  have Hsn := hid_ hw.sn
  have Hsd := hid_ hw.snode
  have Hp := hid_ hp
  have Hw := hid_ hw
  dsimp only at Htr Hbn Hbd Hsn Hsd
  clear hp hw
  have S0 := hid_ (wr_start (w.alloc (.cells #[.int .i64 3, .int .u64 (tr : Nat), .int .u64 (bn : Nat), .int .u64 (bd : Nat), .int .u64 (sn : Nat), .int .u64 (sd : Nat), .int .i64 v, .bool ok, .slice a1 l1.length e1, .slice a2 l2.length e2, .slice a3 l3.length e3] 30)) ⟨3, tr, bn, bd, sn, sd, v, ok, l1, l2, l3⟩ 3 3 (byteI (l2.length : Int) :: (l2.flatMap memB ++ [])) (by rw [Hwf.out]) (by rfl) Hle.out (w.heap.size + 1) (by simp))
  have hsa : (w.alloc (.cells #[.int .i64 3, .int .u64 (tr : Nat), .int .u64 (bn : Nat), .int .u64 (bd : Nat), .int .u64 (sn : Nat), .int .u64 (sd : Nat), .int .i64 v, .bool ok, .slice a1 l1.length e1, .slice a2 l2.length e2, .slice a3 l3.length e3] 30)).heap.size = w.heap.size + 1 := by simp
  go_enter Tryz.func22, Tryz.ntmps22
  go_wp2_with (first
    | (at_builtin; have hn1 := S0.out.n_le; refine wpList_bytes rfl (.tmp 123) (.tmp 128) rfl (w.heap.size + 1) (some ⟨w.heap.size + 1, 0, none⟩) 1 1 _ rfl (S0.out.own.alloc _) (some ⟨w.heap.size + 1 + 1, 0, none⟩) 1 1 [byteI (l2.length : Int)] rfl (own_lit_at ((w.alloc (.cells #[.int .i64 3, .int .u64 (tr : Nat), .int .u64 (bn : Nat), .int .u64 (bd : Nat), .int .u64 (sn : Nat), .int .u64 (sd : Nat), .int .i64 v, .bool ok, .slice a1 l1.length e1, .slice a2 l2.length e2, .slice a3 l3.length e3] 30)).alloc (.cells #[.int .u8 3] 5)) [byteI (l2.length : Int)] _ (byte_lit (by omega)) (w.heap.size + 1 + 1) (by simp)).sl (1 + 1) _ rfl rfl (by omega) (by simp <;> omega) ?_; intro A1 c1 w1 ho' hb'; have S1 := hid_ (wr_byte S0.out ho' ((S0.out.below.alloc (by simp <;> omega) _).trans hb')); clear ho' hb'; have B1 := hid_ (B0.out.below S1.out.below (by omega)); have hz1 : w.heap.size + 1 ≤ w1.heap.size := Nat.le_trans (Nat.le_of_eq hsa.symm) S1.out.size; have x0 := B1.out.cell 0 _ rfl; have x1 := B1.out.cell 1 _ rfl; have x2 := B1.out.cell 2 _ rfl; have x3 := B1.out.cell 3 _ rfl; have x4 := B1.out.cell 4 _ rfl; have x5 := B1.out.cell 5 _ rfl; have x6 := B1.out.cell 6 _ rfl; have x7 := B1.out.cell 7 _ rfl; have x8 := B1.out.cell 8 _ rfl; have x9 := B1.out.cell 9 _ rfl; have x10 := B1.out.cell 10 _ rfl; skip))
  have Hrw := hid_ (fun (W : World) (hb : Below (w.heap.size + 1) (w.alloc (.cells #[.int .i64 3, .int .u64 (tr : Nat), .int .u64 (bn : Nat), .int .u64 (bd : Nat), .int .u64 (sn : Nat), .int .u64 (sd : Nat), .int .i64 v, .bool ok, .slice a1 l1.length e1, .slice a2 l2.length e2, .slice a3 l3.length e3] 30)) W) => Hp.out.r2.below (Ha.out.trans (hb.mono (by omega))))
  have u1 := Hp.out.r2.cap
  have u2 := Hp.out.r2.max
  try dsimp only at u1 u2
  obtain ⟨pre, S2'⟩ : ∃ pre, Hid (Wr (w.heap.size + 1) (w.alloc (.cells #[.int .i64 3, .int .u64 (tr : Nat), .int .u64 (bn : Nat), .int .u64 (bd : Nat), .int .u64 (sn : Nat), .int .u64 (sd : Nat), .int .i64 v, .bool ok, .slice a1 l1.length e1, .slice a2 l2.length e2, .slice a3 l3.length e3] 30)) w1 A1 (1 + 1) c1 ⟨3, tr, bn, bd, sn, sd, v, ok, l1, l2, l3⟩ pre (l2.flatMap memB)) := ⟨_, hid_ (S1.out.to rfl (List.append_nil _))⟩
  clear x0 x1 x2 x3 x4 x5 x6 x7 x8 x9 x10
  go_loopw [3, 5] (fun va i wr => ∃ (k : Nat) (A : Option Addr) (n c : Nat), k ≤ l2.length ∧ i = .int .i64 (k : Nat) ∧ va = .slice A n c ∧ Hid (Wr (w.heap.size + 1) (w.alloc (.cells #[.int .i64 3, .int .u64 (tr : Nat), .int .u64 (bn : Nat), .int .u64 (bd : Nat), .int .u64 (sn : Nat), .int .u64 (sd : Nat), .int .i64 v, .bool ok, .slice a1 l1.length e1, .slice a2 l2.length e2, .slice a3 l3.length e3] 30)) wr A n c ⟨3, tr, bn, bd, sn, sd, v, ok, l1, l2, l3⟩ (pre ++ (l2.take k).flatMap memB) ((l2.drop k).flatMap memB)) ∧ w.heap.size + 1 ≤ wr.heap.size) (fun _ i _ => l2.length - (intOf i).toNat)
  case atStart => exact ⟨0, A1, (1 + 1), c1, by omega, rfl, rfl, hid_ (S2'.out.to (by simp) (by simp)), hz1⟩
  case round =>
    obtain ⟨k, A, n, c, hk, rfl, rfl, S, hz⟩ := hrel
    have Bk := hid_ (B0.out.below S.out.below (by omega))
    have x0 := Bk.out.cell 0 _ rfl
    have x6 := Bk.out.cell 8 _ rfl
    have x7 := Bk.out.cell 9 _ rfl
    have x8 := Bk.out.cell 10 _ rfl
    skip
    by_cases hlt : k < l2.length
    · have hrow := Hrw.out wr S.out.below
      try dsimp only at hrow
      have y1 : (k : Int) < (l2.length : Int) := by omega
      have y2 : (0 : Int) ≤ (k : Int) := by omega
      have Hdr := hid_ (flat_cons memB l2 hlt)
      have Htk := hid_ (show (l2.take (k + 1)).flatMap memB = (l2.take k).flatMap memB ++ memB l2[k] by rw [List.take_succ_eq_append_getElem hlt, List.flatMap_append, List.flatMap_cons, List.flatMap_nil, List.append_nil])
      obtain ⟨b, off, ha, hc⟩ := hrow.at_ hlt
      subst ha
      obtain ⟨c0, c1, c2⟩ := hc
      have Hxr := Hr.out.members2 l2[k] (List.getElem_mem hlt)
      have hs0 := Hxr.1
      have hs2 := Hxr.2
      clear Hxr
      have Hxm := hid_ (Hw.out.members l2[k] (List.getElem_mem hlt))
      generalize l2[k] = x at *
      have Hi1 := hid_ Hxm.out.id
      have Hi2 := hid_ Hxm.out.inc
      have S' := hid_ (S.out.to rfl (show (l2.drop k).flatMap memB = eight x.id ++ (eight x.inc ++ (byteI x.state :: (l2.drop (k + 1)).flatMap memB)) by rw [Hdr.out]; simp [memB]))
      generalize hpk : pre ++ (l2.take k).flatMap memB = pk at S'
      have Hpk := hid_ hpk
      clear hpk
      have hn := S.out.n_le
      have HO := hid_ (S'.out.own.alloc (.cells #[.int .u64 (x.id : Nat), .int .u64 (x.inc : Nat), .int .i64 x.state] 64))
      have hB : (w.heap.size + 1) ≤ wr.heap.size := hz
      have HX := hid_ (show Apart (wr.alloc (.cells #[.int .u64 (x.id : Nat), .int .u64 (x.inc : Nat), .int .i64 x.state] 64)) A n c wr.heap.size from ⟨fun e => by have := (World.ownsRow.lt S'.out.own _ e).2; omega, by simp⟩)
      have hS : MemIn (w.heap.size + 1) wr wr.heap.size x (wr.alloc (.cells #[.int .u64 (x.id : Nat), .int .u64 (x.inc : Nat), .int .i64 x.state] 64)) :=
        ⟨(Below.refl _ _).alloc hB _, by simp, (whole_new wr _ _).cell 0 _ rfl, (whole_new wr _ _).cell 1 _ rfl, (whole_new wr _ _).cell 2 _ rfl⟩
      go_wp2_with fail
      clear c0 c1 c2 x0 x6 x7 x8
      generalize wr.alloc (.cells #[.int .u64 (x.id : Nat), .int .u64 (x.inc : Nat), .int .i64 x.state] 64) = wb at *
      go_region_held3 (MemIn (w.heap.size + 1) wr wr.heap.size x) (first | assumption | (refine memIn_keep hB (by assumption) (by assumption)) | (refine memIn_keep hB (by assumption) (Below.drew (Below.refl _ _))) | (refine memIn_keep hB (by assumption) (Below.alloc (Below.refl _ _) (Nat.le_refl _) _)))
        (first
          | (go_at_call 50; (with_reducible refine Calls.mono (refeight_any x.id _ Hi1.out) ?_); rintro e w1 ⟨A1, f1, rfl, ho1, hb1⟩; have q1 := live_new (by with_reducible first | exact HO.out | exact HO.out.drew | exact HO.out.alloc _ | exact (HO.out.alloc _).drew) hb1 ho1; obtain ⟨o1, l1⟩ := q1; (try with_reducible (first | replace HL := hid_ (HL.out.below hb1) | have HL := hid_ ((live_litW HO.out x.state).below hb1) | have HL := hid_ ((live_litW HO.out x.state).drew.below hb1) | have HL := hid_ ((live_litW HO.out.drew x.state).below hb1))); replace HO := hid_ o1; have L1 := hid_ l1; replace HX := hid_ (show Apart w1 _ _ _ _ from HX.out.size (by have := hb1.size; first | omega | (simp at this; omega))); (try with_reducible (first | replace L2 := hid_ (L2.out.below hb1) | replace L2 := hid_ ((L2.out.alloc _).below hb1))); clear ho1 o1 l1)
          | (go_at_call 50; (with_reducible refine Calls.mono (refeight_any x.inc _ Hi2.out) ?_); rintro e w2 ⟨A2, f2, rfl, ho2, hb2⟩; have q2 := live_new (by with_reducible first | exact HO.out | exact HO.out.drew | exact HO.out.alloc _ | exact (HO.out.alloc _).drew) hb2 ho2; obtain ⟨o2, l2⟩ := q2; (try with_reducible (first | replace HL := hid_ (HL.out.below hb2) | have HL := hid_ ((live_litW HO.out x.state).below hb2) | have HL := hid_ ((live_litW HO.out x.state).drew.below hb2) | have HL := hid_ ((live_litW HO.out.drew x.state).below hb2))); replace HO := hid_ o2; have L2 := hid_ l2; replace HX := hid_ (show Apart w2 _ _ _ _ from HX.out.size (by have := hb2.size; first | omega | (simp at this; omega))); (try with_reducible (first | replace L1 := hid_ (L1.out.below hb2) | replace L1 := hid_ ((L1.out.alloc _).below hb2))); clear ho2 o2 l2)
          | (refine step_bytesG (by rfl) (.tmp 142) (.tmp 145) (by rfl) (w.heap.size + 1) A n c pk (by rfl) (by with_reducible first | exact HO.out | exact HO.out.drew | exact HO.out.alloc _ | exact (HO.out.alloc _).drew) _ 8 _ (eight x.id) (by rfl) ?_ (n + 8) (pk ++ eight x.id) (by omega) (by rfl) (by omega) ?_ ?_; (first | exact L1.out.sl | exact (L1.out.alloc _).sl); (exact Nat.le_trans hB (Below.size (And.left (by assumption)))); (intro A3 c3 w3 hoz hbz hgz hatz); have hSz := memIn_app (by assumption) hbz hgz (HX.out.size (by simp)); (try with_reducible (first | replace HL := hid_ (HL.out.app hgz hatz) | have HL := hid_ ((live_litW HO.out x.state).app hgz hatz) | have HL := hid_ ((live_litW HO.out x.state).drew.app hgz hatz) | have HL := hid_ ((live_litW HO.out.drew x.state).app hgz hatz))); replace HO := hid_ hoz; replace HX := hid_ ((HX.out.size (by simp)).app hgz.size hatz); (try with_reducible (first | replace L2 := hid_ (L2.out.app hgz hatz) | replace L2 := hid_ ((L2.out.alloc _).app hgz hatz))); clear hoz hgz hatz)
          | (refine step_bytesG (by rfl) (.tmp 146) (.tmp 149) (by rfl) (w.heap.size + 1) A3 (n + 8) c3 (pk ++ eight x.id) (by rfl) (by with_reducible first | exact HO.out | exact HO.out.drew | exact HO.out.alloc _ | exact (HO.out.alloc _).drew) _ 8 _ (eight x.inc) (by rfl) ?_ (n + 16) (pk ++ eight x.id ++ eight x.inc) (by omega) (by rfl) (by omega) ?_ ?_; (first | exact L2.out.sl | exact (L2.out.alloc _).sl); (exact Nat.le_trans hB (Below.size (And.left (by assumption)))); (intro A4 c4 w4 hoz hbz hgz hatz); have hSz := memIn_app (by assumption) hbz hgz (HX.out.size (by simp)); (try with_reducible (first | replace HL := hid_ (HL.out.app hgz hatz) | have HL := hid_ ((live_litW HO.out x.state).app hgz hatz) | have HL := hid_ ((live_litW HO.out x.state).drew.app hgz hatz) | have HL := hid_ ((live_litW HO.out.drew x.state).app hgz hatz))); replace HO := hid_ hoz; replace HX := hid_ ((HX.out.size (by simp)).app hgz.size hatz); clear hoz hgz hatz)
          | (refine step_bytesG (by rfl) (.tmp 150) (.tmp 154) (by rfl) (w.heap.size + 1) A4 (n + 16) c4 (pk ++ eight x.id ++ eight x.inc) (by rfl) (by with_reducible first | exact HO.out | exact HO.out.drew | exact HO.out.alloc _ | exact (HO.out.alloc _).drew) _ 1 _ [byteI x.state] (by rfl) ?_ (n + 17) (pk ++ eight x.id ++ eight x.inc ++ [byteI x.state]) (by omega) (by rfl) (by omega) ?_ ?_; (first | exact HL.out.sl | exact (live_litW HO.out x.state).sl | exact (live_litW HO.out x.state).drew.sl | exact (live_litW HO.out.drew x.state).sl); (exact Nat.le_trans hB (Below.size (And.left (by assumption)))); (intro A5 c5 w5 hoz hbz hgz hatz); have hSz := memIn_app (by assumption) hbz hgz (HX.out.size (by simp)); replace HO := hid_ hoz; replace HX := hid_ ((HX.out.size (by simp)).app hgz.size hatz); clear hoz hgz hatz)
          | fail)
      all_goals
        have hS9 : MemIn (w.heap.size + 1) wr wr.heap.size x w5 := by assumption
        have S6 := hid_ (wr_app (x := eight x.id ++ (eight x.inc ++ [byteI x.state])) (post := (l2.drop (k + 1)).flatMap memB) (S'.out.to rfl (by simp)) (by have h := HO.out; simpa using h) (S'.out.below.trans hS9.1))
        clear hS9
        go_wp2_with fail
        go_roundw
        case rel => exact ⟨k + 1, A5, n + 17, c5, by omega, by go_num, rfl, hid_ (S6.out.to (by rw [Htk.out, ← Hpk.out]; simp [memB]) rfl), by have := S6.out.size; omega⟩
        case measure => simp [intOf]; omega
    · obtain rfl : k = l2.length := by omega
      go_wp2_with fail
      go_ret
      exact (S.out.to rfl (by simp)).done (by omega) Ha.out
set_option maxRecDepth 100000 in
set_option maxHeartbeats 8000000 in
theorem refbytes4_any (p : PackD) (s : PackS) (w : World) (hp : PackIn w p s) (hw : p.Wf) (hr : RightD p) (hk : p.kind = 4) : Calls Tryz.prog 22 #[packVal p s] w (RowPost w.heap.size w (writtenF p)) := by
  have Hle := hid_ (written_le hr).2
  have Hwf := hid_ (show writtenF p = byteI 4 :: (eight p.trace ++ ([p.bn, p.bnode].flatMap eight ++ [])) by unfold writtenF; rw [hk, parts_4]; simp [optB])
  have hv1 := hr.v.1
  have hv2 := hr.v.2
  have q1 := hr.spans1
  have q2 := hr.members1
  have q3 := hr.ids1
  have Hr := hid_ hr
  clear hr
  obtain ⟨k, tr, bn, bd, sn, sd, v, ok, l1, l2, l3⟩ := p
  obtain ⟨a1, e1, a2, e2, a3, e3⟩ := s
  simp only at hk hv1 hv2 q1 q2 q3 Hwf Hle
  subst hk
  have Ha := hid_ (show Below w.heap.size w (w.alloc (.cells #[.int .i64 4, .int .u64 (tr : Nat), .int .u64 (bn : Nat), .int .u64 (bd : Nat), .int .u64 (sn : Nat), .int .u64 (sd : Nat), .int .i64 v, .bool ok, .slice a1 l1.length e1, .slice a2 l2.length e2, .slice a3 l3.length e3] 30)) from (Below.refl _ _).alloc (Nat.le_refl _) _)
  have B0 := hid_ (whole_new w 30 #[.int .i64 4, .int .u64 (tr : Nat), .int .u64 (bn : Nat), .int .u64 (bd : Nat), .int .u64 (sn : Nat), .int .u64 (sd : Nat), .int .i64 v, .bool ok, .slice a1 l1.length e1, .slice a2 l2.length e2, .slice a3 l3.length e3])
  have Htr := hid_ hw.trace
  have Hbn := hid_ hw.bn
  have Hbd := hid_ hw.bnode
  have Hsn := hid_ hw.sn
  have Hsd := hid_ hw.snode
  have Hp := hid_ hp
  have Hw := hid_ hw
  dsimp only at Htr Hbn Hbd Hsn Hsd
  clear hp hw
  have S0 := hid_ (wr_start (w.alloc (.cells #[.int .i64 4, .int .u64 (tr : Nat), .int .u64 (bn : Nat), .int .u64 (bd : Nat), .int .u64 (sn : Nat), .int .u64 (sd : Nat), .int .i64 v, .bool ok, .slice a1 l1.length e1, .slice a2 l2.length e2, .slice a3 l3.length e3] 30)) ⟨4, tr, bn, bd, sn, sd, v, ok, l1, l2, l3⟩ 4 4 (eight tr ++ ([bn, bd].flatMap eight ++ [])) (by rw [Hwf.out]) (by rfl) Hle.out (w.heap.size + 1) (by simp))
  have hsa : (w.alloc (.cells #[.int .i64 4, .int .u64 (tr : Nat), .int .u64 (bn : Nat), .int .u64 (bd : Nat), .int .u64 (sn : Nat), .int .u64 (sd : Nat), .int .i64 v, .bool ok, .slice a1 l1.length e1, .slice a2 l2.length e2, .slice a3 l3.length e3] 30)).heap.size = w.heap.size + 1 := by simp
  go_enter Tryz.func22, Tryz.ntmps22
  go_wp2_with (first
    | (go_at_call 50; (with_reducible refine Calls.mono (refeight_any tr _ Htr.out) ?_); rintro e v1 ⟨F1, f1, rfl, ho', hb'⟩; have HE1 := hid_ ho'.sl; have T1 := hid_ (wr_later S0.out (by simp <;> omega) hb'); have hv1 := T1.out.size; have hn1 := T1.out.n_le; clear ho' hb')
    | (at_builtin; refine wpList_bytes rfl (.tmp 15) (.tmp 18) rfl (w.heap.size + 1) (some ⟨w.heap.size + 1, 0, none⟩) 1 1 _ rfl T1.out.own F1 8 f1 (eight tr) rfl HE1.out 9 _ (by omega) rfl (by omega) (by omega) ?_; intro A1 c1 w1 ho' hb'; have S1 := hid_ (wr_app T1.out ho' (T1.out.below.trans hb')); clear ho' hb'; have B1 := hid_ (B0.out.below S1.out.below (by omega)); have hz1 : w.heap.size + 1 ≤ w1.heap.size := Nat.le_trans (Nat.le_of_eq hsa.symm) S1.out.size; have x0 := B1.out.cell 0 _ rfl; have x1 := B1.out.cell 1 _ rfl; have x2 := B1.out.cell 2 _ rfl; have x3 := B1.out.cell 3 _ rfl; have x4 := B1.out.cell 4 _ rfl; have x5 := B1.out.cell 5 _ rfl; have x6 := B1.out.cell 6 _ rfl; have x7 := B1.out.cell 7 _ rfl; have x8 := B1.out.cell 8 _ rfl; have x9 := B1.out.cell 9 _ rfl; have x10 := B1.out.cell 10 _ rfl; skip))
  refine Calls.mono (step_ballot bn bd S1.out hz1 Hbn.out Hbd.out) ?_
  rintro e w2 ⟨A2, n2, c2, rfl, S2⟩
  have S2 := hid_ S2
  clear x0 x1 x2 x3 x4 x5 x6 x7 x8 x9 x10
  have B2 := hid_ (B0.out.below S2.out.below (by omega))
  have hz2 : w.heap.size + 1 ≤ w2.heap.size := Nat.le_trans (Nat.le_of_eq hsa.symm) S2.out.size
  have x0 := B2.out.cell 0 _ rfl
  have x1 := B2.out.cell 1 _ rfl
  have x2 := B2.out.cell 2 _ rfl
  have x3 := B2.out.cell 3 _ rfl
  have x4 := B2.out.cell 4 _ rfl
  have x5 := B2.out.cell 5 _ rfl
  have x6 := B2.out.cell 6 _ rfl
  have x7 := B2.out.cell 7 _ rfl
  have x8 := B2.out.cell 8 _ rfl
  have x9 := B2.out.cell 9 _ rfl
  have x10 := B2.out.cell 10 _ rfl
  skip
  go_wp2_with fail
  go_ret
  exact S2.out.done (by omega) Ha.out
set_option maxRecDepth 100000 in
set_option maxHeartbeats 8000000 in
theorem refbytes5_any (p : PackD) (s : PackS) (w : World) (hp : PackIn w p s) (hw : p.Wf) (hr : RightD p) (hk : p.kind = 5) : Calls Tryz.prog 22 #[packVal p s] w (RowPost w.heap.size w (writtenF p)) := by
  have Hle := hid_ (written_le hr).2
  have Hwf := hid_ (show writtenF p = byteI 5 :: (eight p.trace ++ ([p.bn, p.bnode].flatMap eight ++ ((flag p.ok :: [p.sn, p.snode].flatMap eight) ++ (byteI p.v :: [])))) by unfold writtenF; rw [hk, parts_5]; simp [optB])
  have hv1 := hr.v.1
  have hv2 := hr.v.2
  have q1 := hr.spans1
  have q2 := hr.members1
  have q3 := hr.ids1
  have Hr := hid_ hr
  clear hr
  obtain ⟨k, tr, bn, bd, sn, sd, v, ok, l1, l2, l3⟩ := p
  obtain ⟨a1, e1, a2, e2, a3, e3⟩ := s
  simp only at hk hv1 hv2 q1 q2 q3 Hwf Hle
  subst hk
  have Ha := hid_ (show Below w.heap.size w (w.alloc (.cells #[.int .i64 5, .int .u64 (tr : Nat), .int .u64 (bn : Nat), .int .u64 (bd : Nat), .int .u64 (sn : Nat), .int .u64 (sd : Nat), .int .i64 v, .bool ok, .slice a1 l1.length e1, .slice a2 l2.length e2, .slice a3 l3.length e3] 30)) from (Below.refl _ _).alloc (Nat.le_refl _) _)
  have B0 := hid_ (whole_new w 30 #[.int .i64 5, .int .u64 (tr : Nat), .int .u64 (bn : Nat), .int .u64 (bd : Nat), .int .u64 (sn : Nat), .int .u64 (sd : Nat), .int .i64 v, .bool ok, .slice a1 l1.length e1, .slice a2 l2.length e2, .slice a3 l3.length e3])
  have Htr := hid_ hw.trace
  have Hbn := hid_ hw.bn
  have Hbd := hid_ hw.bnode
  have Hsn := hid_ hw.sn
  have Hsd := hid_ hw.snode
  have Hp := hid_ hp
  have Hw := hid_ hw
  dsimp only at Htr Hbn Hbd Hsn Hsd
  clear hp hw
  have S0 := hid_ (wr_start (w.alloc (.cells #[.int .i64 5, .int .u64 (tr : Nat), .int .u64 (bn : Nat), .int .u64 (bd : Nat), .int .u64 (sn : Nat), .int .u64 (sd : Nat), .int .i64 v, .bool ok, .slice a1 l1.length e1, .slice a2 l2.length e2, .slice a3 l3.length e3] 30)) ⟨5, tr, bn, bd, sn, sd, v, ok, l1, l2, l3⟩ 5 5 (eight tr ++ ([bn, bd].flatMap eight ++ ((flag ok :: [sn, sd].flatMap eight) ++ (byteI v :: [])))) (by rw [Hwf.out]) (by rfl) Hle.out (w.heap.size + 1) (by simp))
  have hsa : (w.alloc (.cells #[.int .i64 5, .int .u64 (tr : Nat), .int .u64 (bn : Nat), .int .u64 (bd : Nat), .int .u64 (sn : Nat), .int .u64 (sd : Nat), .int .i64 v, .bool ok, .slice a1 l1.length e1, .slice a2 l2.length e2, .slice a3 l3.length e3] 30)).heap.size = w.heap.size + 1 := by simp
  go_enter Tryz.func22, Tryz.ntmps22
  go_wp2_with (first
    | (go_at_call 50; (with_reducible refine Calls.mono (refeight_any tr _ Htr.out) ?_); rintro e v1 ⟨F1, f1, rfl, ho', hb'⟩; have HE1 := hid_ ho'.sl; have T1 := hid_ (wr_later S0.out (by simp <;> omega) hb'); have hv1 := T1.out.size; have hn1 := T1.out.n_le; clear ho' hb')
    | (at_builtin; refine wpList_bytes rfl (.tmp 15) (.tmp 18) rfl (w.heap.size + 1) (some ⟨w.heap.size + 1, 0, none⟩) 1 1 _ rfl T1.out.own F1 8 f1 (eight tr) rfl HE1.out 9 _ (by omega) rfl (by omega) (by omega) ?_; intro A1 c1 w1 ho' hb'; have S1 := hid_ (wr_app T1.out ho' (T1.out.below.trans hb')); clear ho' hb'; have B1 := hid_ (B0.out.below S1.out.below (by omega)); have hz1 : w.heap.size + 1 ≤ w1.heap.size := Nat.le_trans (Nat.le_of_eq hsa.symm) S1.out.size; have x0 := B1.out.cell 0 _ rfl; have x1 := B1.out.cell 1 _ rfl; have x2 := B1.out.cell 2 _ rfl; have x3 := B1.out.cell 3 _ rfl; have x4 := B1.out.cell 4 _ rfl; have x5 := B1.out.cell 5 _ rfl; have x6 := B1.out.cell 6 _ rfl; have x7 := B1.out.cell 7 _ rfl; have x8 := B1.out.cell 8 _ rfl; have x9 := B1.out.cell 9 _ rfl; have x10 := B1.out.cell 10 _ rfl; skip))
  refine Calls.mono (step_ballot bn bd S1.out hz1 Hbn.out Hbd.out) ?_
  rintro e w2 ⟨A2, n2, c2, rfl, S2⟩
  have S2 := hid_ S2
  clear x0 x1 x2 x3 x4 x5 x6 x7 x8 x9 x10
  have B2 := hid_ (B0.out.below S2.out.below (by omega))
  have hz2 : w.heap.size + 1 ≤ w2.heap.size := Nat.le_trans (Nat.le_of_eq hsa.symm) S2.out.size
  have x0 := B2.out.cell 0 _ rfl
  have x1 := B2.out.cell 1 _ rfl
  have x2 := B2.out.cell 2 _ rfl
  have x3 := B2.out.cell 3 _ rfl
  have x4 := B2.out.cell 4 _ rfl
  have x5 := B2.out.cell 5 _ rfl
  have x6 := B2.out.cell 6 _ rfl
  have x7 := B2.out.cell 7 _ rfl
  have x8 := B2.out.cell 8 _ rfl
  have x9 := B2.out.cell 9 _ rfl
  have x10 := B2.out.cell 10 _ rfl
  skip
  go_wp2_with fail
  obtain ⟨pre, S3'⟩ : ∃ pre, Hid (Wr (w.heap.size + 1) (w.alloc (.cells #[.int .i64 5, .int .u64 (tr : Nat), .int .u64 (bn : Nat), .int .u64 (bd : Nat), .int .u64 (sn : Nat), .int .u64 (sd : Nat), .int .i64 v, .bool ok, .slice a1 l1.length e1, .slice a2 l2.length e2, .slice a3 l3.length e3] 30)) w2 A2 n2 c2 ⟨5, tr, bn, bd, sn, sd, v, ok, l1, l2, l3⟩ pre ((flag ok :: [sn, sd].flatMap eight) ++ (byteI v :: []))) := ⟨_, S2⟩
  have HO := hid_ S3'.out.own
  have hS : AnsIn (w.heap.size + 1) w2 w.heap.size ok sn sd w2 := ⟨Below.refl _ _, by omega, x4, x5, x7⟩
  have hB : (w.heap.size + 1) ≤ w2.heap.size := hz2
  have hlow : w.heap.size < (w.heap.size + 1) := by omega
  have hn3 := S2.out.n_le
  clear x0 x1 x2 x3 x4 x5 x6 x7 x8 x9 x10
  go_region_held3 (AnsIn (w.heap.size + 1) w2 w.heap.size ok sn sd) (first | assumption | (refine ansIn_keep hB (by assumption) (by assumption)) | (refine ansIn_keep hB (by assumption) (Below.drew (Below.refl _ _))) | (refine ansIn_keep hB (by assumption) (Below.alloc (Below.refl _ _) (Nat.le_refl _) _)) | (refine ansIn_low hlow (by assumption) (by assumption)))
    (first
      | (go_at_call 52; (with_reducible refine Calls.mono (reftruth_any ok _) ?_); rintro e w' ⟨rfl, rfl⟩)
      | (refine step_bytesG (by rfl) (.tmp 55) (.tmp 59) (by rfl) (w.heap.size + 1) A2 n2 c2 pre (by rfl) ?_ _ 1 _ [flag ok] (by rfl) ?_ (n2 + 1) (pre ++ [flag ok]) (by omega) (by rfl) (by omega) ?_ ?_; (first | exact HO.out | exact HO.out.drew | exact HO.out.alloc _ | exact HO.out.drew.alloc _ | exact (HO.out.alloc _).drew); (first | exact lit_flag _ _ _ (by simp) | exact (lit_flag _ _ _ (by simp)).below (Below.drew (Below.refl _ _))); (exact Nat.le_trans hB (Below.size (And.left (by assumption)))); (intro A3 c3 w3 hoz hbz hgz hatz); have HO3 := hid_ hoz; clear hoz hgz hatz)
      | (go_at_call 51; (with_reducible refine Calls.mono (refballot_any (w.heap.size + 1) A3 (n2 + 1) c3 (pre ++ [flag ok]) sn sd _ ?_ ?_ ?_ Hsn.out Hsd.out) ?_); (first | exact HO3.out | exact HO3.out.drew); (exact Nat.le_trans hB (Below.size (And.left (by assumption)))); omega; rintro e w3 ⟨A3, c3, rfl, hoz, hbz⟩; have HO4 := hid_ hoz; clear hoz)
      | fail)
  have S3 := hid_ (wr_app S3'.out (by have h := HO4.out; rw [List.append_assoc] at h; exact h) (S3'.out.below.trans (And.left (by assumption))))
  have B3 := hid_ (B0.out.below S3.out.below (by omega))
  have hz3 : w.heap.size + 1 ≤ w3.heap.size := Nat.le_trans (Nat.le_of_eq hsa.symm) S3.out.size
  have x0 := B3.out.cell 0 _ rfl
  have x1 := B3.out.cell 1 _ rfl
  have x2 := B3.out.cell 2 _ rfl
  have x3 := B3.out.cell 3 _ rfl
  have x4 := B3.out.cell 4 _ rfl
  have x5 := B3.out.cell 5 _ rfl
  have x6 := B3.out.cell 6 _ rfl
  have x7 := B3.out.cell 7 _ rfl
  have x8 := B3.out.cell 8 _ rfl
  have x9 := B3.out.cell 9 _ rfl
  have x10 := B3.out.cell 10 _ rfl
  skip
  go_wp2_with (first
    | (at_builtin; have hn4 := S3.out.n_le; refine wpList_bytes rfl (.tmp 77) (.tmp 81) rfl (w.heap.size + 1) A3 (n2 + 1 + 16) c3 _ rfl (S3.out.own.alloc _) (some ⟨w3.heap.size, 0, none⟩) 1 1 [byteI v] rfl (own_lit_at w3 [byteI v] _ (byte_lit (by omega)) (w3.heap.size) rfl).sl ((n2 + 1 + 16) + 1) _ rfl rfl (by omega) (by simp <;> omega) ?_; intro A4 c4 w4 ho' hb'; have S4 := hid_ (wr_byte S3.out ho' ((S3.out.below.alloc hz3 _).trans hb')); clear ho' hb'; clear x0 x1 x2 x3 x4 x5 x6 x7 x8 x9 x10; have B4 := hid_ (B0.out.below S4.out.below (by omega)); have hz4 : w.heap.size + 1 ≤ w4.heap.size := Nat.le_trans (Nat.le_of_eq hsa.symm) S4.out.size; have x0 := B4.out.cell 0 _ rfl; have x1 := B4.out.cell 1 _ rfl; have x2 := B4.out.cell 2 _ rfl; have x3 := B4.out.cell 3 _ rfl; have x4 := B4.out.cell 4 _ rfl; have x5 := B4.out.cell 5 _ rfl; have x6 := B4.out.cell 6 _ rfl; have x7 := B4.out.cell 7 _ rfl; have x8 := B4.out.cell 8 _ rfl; have x9 := B4.out.cell 9 _ rfl; have x10 := B4.out.cell 10 _ rfl; skip))
  go_ret
  exact S4.out.done (by omega) Ha.out
set_option maxRecDepth 100000 in
set_option maxHeartbeats 8000000 in
theorem refbytes6_any (p : PackD) (s : PackS) (w : World) (hp : PackIn w p s) (hw : p.Wf) (hr : RightD p) (hk : p.kind = 6) : Calls Tryz.prog 22 #[packVal p s] w (RowPost w.heap.size w (writtenF p)) := by
  have Hle := hid_ (written_le hr).2
  have Hwf := hid_ (show writtenF p = byteI 6 :: (eight p.trace ++ ([p.bn, p.bnode].flatMap eight ++ (byteI p.v :: []))) by unfold writtenF; rw [hk, parts_6]; simp [optB])
  have hv1 := hr.v.1
  have hv2 := hr.v.2
  have q1 := hr.spans1
  have q2 := hr.members1
  have q3 := hr.ids1
  have Hr := hid_ hr
  clear hr
  obtain ⟨k, tr, bn, bd, sn, sd, v, ok, l1, l2, l3⟩ := p
  obtain ⟨a1, e1, a2, e2, a3, e3⟩ := s
  simp only at hk hv1 hv2 q1 q2 q3 Hwf Hle
  subst hk
  have Ha := hid_ (show Below w.heap.size w (w.alloc (.cells #[.int .i64 6, .int .u64 (tr : Nat), .int .u64 (bn : Nat), .int .u64 (bd : Nat), .int .u64 (sn : Nat), .int .u64 (sd : Nat), .int .i64 v, .bool ok, .slice a1 l1.length e1, .slice a2 l2.length e2, .slice a3 l3.length e3] 30)) from (Below.refl _ _).alloc (Nat.le_refl _) _)
  have B0 := hid_ (whole_new w 30 #[.int .i64 6, .int .u64 (tr : Nat), .int .u64 (bn : Nat), .int .u64 (bd : Nat), .int .u64 (sn : Nat), .int .u64 (sd : Nat), .int .i64 v, .bool ok, .slice a1 l1.length e1, .slice a2 l2.length e2, .slice a3 l3.length e3])
  have Htr := hid_ hw.trace
  have Hbn := hid_ hw.bn
  have Hbd := hid_ hw.bnode
  have Hsn := hid_ hw.sn
  have Hsd := hid_ hw.snode
  have Hp := hid_ hp
  have Hw := hid_ hw
  dsimp only at Htr Hbn Hbd Hsn Hsd
  clear hp hw
  have S0 := hid_ (wr_start (w.alloc (.cells #[.int .i64 6, .int .u64 (tr : Nat), .int .u64 (bn : Nat), .int .u64 (bd : Nat), .int .u64 (sn : Nat), .int .u64 (sd : Nat), .int .i64 v, .bool ok, .slice a1 l1.length e1, .slice a2 l2.length e2, .slice a3 l3.length e3] 30)) ⟨6, tr, bn, bd, sn, sd, v, ok, l1, l2, l3⟩ 6 6 (eight tr ++ ([bn, bd].flatMap eight ++ (byteI v :: []))) (by rw [Hwf.out]) (by rfl) Hle.out (w.heap.size + 1) (by simp))
  have hsa : (w.alloc (.cells #[.int .i64 6, .int .u64 (tr : Nat), .int .u64 (bn : Nat), .int .u64 (bd : Nat), .int .u64 (sn : Nat), .int .u64 (sd : Nat), .int .i64 v, .bool ok, .slice a1 l1.length e1, .slice a2 l2.length e2, .slice a3 l3.length e3] 30)).heap.size = w.heap.size + 1 := by simp
  go_enter Tryz.func22, Tryz.ntmps22
  go_wp2_with (first
    | (go_at_call 50; (with_reducible refine Calls.mono (refeight_any tr _ Htr.out) ?_); rintro e v1 ⟨F1, f1, rfl, ho', hb'⟩; have HE1 := hid_ ho'.sl; have T1 := hid_ (wr_later S0.out (by simp <;> omega) hb'); have hv1 := T1.out.size; have hn1 := T1.out.n_le; clear ho' hb')
    | (at_builtin; refine wpList_bytes rfl (.tmp 15) (.tmp 18) rfl (w.heap.size + 1) (some ⟨w.heap.size + 1, 0, none⟩) 1 1 _ rfl T1.out.own F1 8 f1 (eight tr) rfl HE1.out 9 _ (by omega) rfl (by omega) (by omega) ?_; intro A1 c1 w1 ho' hb'; have S1 := hid_ (wr_app T1.out ho' (T1.out.below.trans hb')); clear ho' hb'; have B1 := hid_ (B0.out.below S1.out.below (by omega)); have hz1 : w.heap.size + 1 ≤ w1.heap.size := Nat.le_trans (Nat.le_of_eq hsa.symm) S1.out.size; have x0 := B1.out.cell 0 _ rfl; have x1 := B1.out.cell 1 _ rfl; have x2 := B1.out.cell 2 _ rfl; have x3 := B1.out.cell 3 _ rfl; have x4 := B1.out.cell 4 _ rfl; have x5 := B1.out.cell 5 _ rfl; have x6 := B1.out.cell 6 _ rfl; have x7 := B1.out.cell 7 _ rfl; have x8 := B1.out.cell 8 _ rfl; have x9 := B1.out.cell 9 _ rfl; have x10 := B1.out.cell 10 _ rfl; skip))
  refine Calls.mono (step_ballot bn bd S1.out hz1 Hbn.out Hbd.out) ?_
  rintro e w2 ⟨A2, n2, c2, rfl, S2⟩
  have S2 := hid_ S2
  clear x0 x1 x2 x3 x4 x5 x6 x7 x8 x9 x10
  have B2 := hid_ (B0.out.below S2.out.below (by omega))
  have hz2 : w.heap.size + 1 ≤ w2.heap.size := Nat.le_trans (Nat.le_of_eq hsa.symm) S2.out.size
  have x0 := B2.out.cell 0 _ rfl
  have x1 := B2.out.cell 1 _ rfl
  have x2 := B2.out.cell 2 _ rfl
  have x3 := B2.out.cell 3 _ rfl
  have x4 := B2.out.cell 4 _ rfl
  have x5 := B2.out.cell 5 _ rfl
  have x6 := B2.out.cell 6 _ rfl
  have x7 := B2.out.cell 7 _ rfl
  have x8 := B2.out.cell 8 _ rfl
  have x9 := B2.out.cell 9 _ rfl
  have x10 := B2.out.cell 10 _ rfl
  skip
  go_wp2_with (first
    | (at_builtin; have hn3 := S2.out.n_le; refine wpList_bytes rfl (.tmp 77) (.tmp 81) rfl (w.heap.size + 1) A2 n2 c2 _ rfl (S2.out.own.alloc _) (some ⟨w2.heap.size, 0, none⟩) 1 1 [byteI v] rfl (own_lit_at w2 [byteI v] _ (byte_lit (by omega)) (w2.heap.size) rfl).sl (n2 + 1) _ rfl rfl (by omega) (by simp <;> omega) ?_; intro A3 c3 w3 ho' hb'; have S3 := hid_ (wr_byte S2.out ho' ((S2.out.below.alloc hz2 _).trans hb')); clear ho' hb'; clear x0 x1 x2 x3 x4 x5 x6 x7 x8 x9 x10; have B3 := hid_ (B0.out.below S3.out.below (by omega)); have hz3 : w.heap.size + 1 ≤ w3.heap.size := Nat.le_trans (Nat.le_of_eq hsa.symm) S3.out.size; have x0 := B3.out.cell 0 _ rfl; have x1 := B3.out.cell 1 _ rfl; have x2 := B3.out.cell 2 _ rfl; have x3 := B3.out.cell 3 _ rfl; have x4 := B3.out.cell 4 _ rfl; have x5 := B3.out.cell 5 _ rfl; have x6 := B3.out.cell 6 _ rfl; have x7 := B3.out.cell 7 _ rfl; have x8 := B3.out.cell 8 _ rfl; have x9 := B3.out.cell 9 _ rfl; have x10 := B3.out.cell 10 _ rfl; skip))
  go_ret
  exact S3.out.done (by omega) Ha.out
set_option maxRecDepth 100000 in
set_option maxHeartbeats 8000000 in
theorem refbytes7_any (p : PackD) (s : PackS) (w : World) (hp : PackIn w p s) (hw : p.Wf) (hr : RightD p) (hk : p.kind = 7) : Calls Tryz.prog 22 #[packVal p s] w (RowPost w.heap.size w (writtenF p)) := by
  have Hle := hid_ (written_le hr).2
  have Hwf := hid_ (show writtenF p = byteI 7 :: (eight p.trace ++ ([p.bn, p.bnode].flatMap eight ++ ((flag p.ok :: [p.sn, p.snode].flatMap eight) ++ []))) by unfold writtenF; rw [hk, parts_7]; simp [optB])
  have hv1 := hr.v.1
  have hv2 := hr.v.2
  have q1 := hr.spans1
  have q2 := hr.members1
  have q3 := hr.ids1
  have Hr := hid_ hr
  clear hr
  obtain ⟨k, tr, bn, bd, sn, sd, v, ok, l1, l2, l3⟩ := p
  obtain ⟨a1, e1, a2, e2, a3, e3⟩ := s
  simp only at hk hv1 hv2 q1 q2 q3 Hwf Hle
  subst hk
  have Ha := hid_ (show Below w.heap.size w (w.alloc (.cells #[.int .i64 7, .int .u64 (tr : Nat), .int .u64 (bn : Nat), .int .u64 (bd : Nat), .int .u64 (sn : Nat), .int .u64 (sd : Nat), .int .i64 v, .bool ok, .slice a1 l1.length e1, .slice a2 l2.length e2, .slice a3 l3.length e3] 30)) from (Below.refl _ _).alloc (Nat.le_refl _) _)
  have B0 := hid_ (whole_new w 30 #[.int .i64 7, .int .u64 (tr : Nat), .int .u64 (bn : Nat), .int .u64 (bd : Nat), .int .u64 (sn : Nat), .int .u64 (sd : Nat), .int .i64 v, .bool ok, .slice a1 l1.length e1, .slice a2 l2.length e2, .slice a3 l3.length e3])
  have Htr := hid_ hw.trace
  have Hbn := hid_ hw.bn
  have Hbd := hid_ hw.bnode
  have Hsn := hid_ hw.sn
  have Hsd := hid_ hw.snode
  have Hp := hid_ hp
  have Hw := hid_ hw
  dsimp only at Htr Hbn Hbd Hsn Hsd
  clear hp hw
  have S0 := hid_ (wr_start (w.alloc (.cells #[.int .i64 7, .int .u64 (tr : Nat), .int .u64 (bn : Nat), .int .u64 (bd : Nat), .int .u64 (sn : Nat), .int .u64 (sd : Nat), .int .i64 v, .bool ok, .slice a1 l1.length e1, .slice a2 l2.length e2, .slice a3 l3.length e3] 30)) ⟨7, tr, bn, bd, sn, sd, v, ok, l1, l2, l3⟩ 7 7 (eight tr ++ ([bn, bd].flatMap eight ++ ((flag ok :: [sn, sd].flatMap eight) ++ []))) (by rw [Hwf.out]) (by rfl) Hle.out (w.heap.size + 1) (by simp))
  have hsa : (w.alloc (.cells #[.int .i64 7, .int .u64 (tr : Nat), .int .u64 (bn : Nat), .int .u64 (bd : Nat), .int .u64 (sn : Nat), .int .u64 (sd : Nat), .int .i64 v, .bool ok, .slice a1 l1.length e1, .slice a2 l2.length e2, .slice a3 l3.length e3] 30)).heap.size = w.heap.size + 1 := by simp
  go_enter Tryz.func22, Tryz.ntmps22
  go_wp2_with (first
    | (go_at_call 50; (with_reducible refine Calls.mono (refeight_any tr _ Htr.out) ?_); rintro e v1 ⟨F1, f1, rfl, ho', hb'⟩; have HE1 := hid_ ho'.sl; have T1 := hid_ (wr_later S0.out (by simp <;> omega) hb'); have hv1 := T1.out.size; have hn1 := T1.out.n_le; clear ho' hb')
    | (at_builtin; refine wpList_bytes rfl (.tmp 15) (.tmp 18) rfl (w.heap.size + 1) (some ⟨w.heap.size + 1, 0, none⟩) 1 1 _ rfl T1.out.own F1 8 f1 (eight tr) rfl HE1.out 9 _ (by omega) rfl (by omega) (by omega) ?_; intro A1 c1 w1 ho' hb'; have S1 := hid_ (wr_app T1.out ho' (T1.out.below.trans hb')); clear ho' hb'; have B1 := hid_ (B0.out.below S1.out.below (by omega)); have hz1 : w.heap.size + 1 ≤ w1.heap.size := Nat.le_trans (Nat.le_of_eq hsa.symm) S1.out.size; have x0 := B1.out.cell 0 _ rfl; have x1 := B1.out.cell 1 _ rfl; have x2 := B1.out.cell 2 _ rfl; have x3 := B1.out.cell 3 _ rfl; have x4 := B1.out.cell 4 _ rfl; have x5 := B1.out.cell 5 _ rfl; have x6 := B1.out.cell 6 _ rfl; have x7 := B1.out.cell 7 _ rfl; have x8 := B1.out.cell 8 _ rfl; have x9 := B1.out.cell 9 _ rfl; have x10 := B1.out.cell 10 _ rfl; skip))
  refine Calls.mono (step_ballot bn bd S1.out hz1 Hbn.out Hbd.out) ?_
  rintro e w2 ⟨A2, n2, c2, rfl, S2⟩
  have S2 := hid_ S2
  clear x0 x1 x2 x3 x4 x5 x6 x7 x8 x9 x10
  have B2 := hid_ (B0.out.below S2.out.below (by omega))
  have hz2 : w.heap.size + 1 ≤ w2.heap.size := Nat.le_trans (Nat.le_of_eq hsa.symm) S2.out.size
  have x0 := B2.out.cell 0 _ rfl
  have x1 := B2.out.cell 1 _ rfl
  have x2 := B2.out.cell 2 _ rfl
  have x3 := B2.out.cell 3 _ rfl
  have x4 := B2.out.cell 4 _ rfl
  have x5 := B2.out.cell 5 _ rfl
  have x6 := B2.out.cell 6 _ rfl
  have x7 := B2.out.cell 7 _ rfl
  have x8 := B2.out.cell 8 _ rfl
  have x9 := B2.out.cell 9 _ rfl
  have x10 := B2.out.cell 10 _ rfl
  skip
  go_wp2_with fail
  obtain ⟨pre, S3'⟩ : ∃ pre, Hid (Wr (w.heap.size + 1) (w.alloc (.cells #[.int .i64 7, .int .u64 (tr : Nat), .int .u64 (bn : Nat), .int .u64 (bd : Nat), .int .u64 (sn : Nat), .int .u64 (sd : Nat), .int .i64 v, .bool ok, .slice a1 l1.length e1, .slice a2 l2.length e2, .slice a3 l3.length e3] 30)) w2 A2 n2 c2 ⟨7, tr, bn, bd, sn, sd, v, ok, l1, l2, l3⟩ pre ((flag ok :: [sn, sd].flatMap eight) ++ [])) := ⟨_, S2⟩
  have HO := hid_ S3'.out.own
  have hS : AnsIn (w.heap.size + 1) w2 w.heap.size ok sn sd w2 := ⟨Below.refl _ _, by omega, x4, x5, x7⟩
  have hB : (w.heap.size + 1) ≤ w2.heap.size := hz2
  have hlow : w.heap.size < (w.heap.size + 1) := by omega
  have hn3 := S2.out.n_le
  clear x0 x1 x2 x3 x4 x5 x6 x7 x8 x9 x10
  go_region_held3 (AnsIn (w.heap.size + 1) w2 w.heap.size ok sn sd) (first | assumption | (refine ansIn_keep hB (by assumption) (by assumption)) | (refine ansIn_keep hB (by assumption) (Below.drew (Below.refl _ _))) | (refine ansIn_keep hB (by assumption) (Below.alloc (Below.refl _ _) (Nat.le_refl _) _)) | (refine ansIn_low hlow (by assumption) (by assumption)))
    (first
      | (go_at_call 52; (with_reducible refine Calls.mono (reftruth_any ok _) ?_); rintro e w' ⟨rfl, rfl⟩)
      | (refine step_bytesG (by rfl) (.tmp 55) (.tmp 59) (by rfl) (w.heap.size + 1) A2 n2 c2 pre (by rfl) ?_ _ 1 _ [flag ok] (by rfl) ?_ (n2 + 1) (pre ++ [flag ok]) (by omega) (by rfl) (by omega) ?_ ?_; (first | exact HO.out | exact HO.out.drew | exact HO.out.alloc _ | exact HO.out.drew.alloc _ | exact (HO.out.alloc _).drew); (first | exact lit_flag _ _ _ (by simp) | exact (lit_flag _ _ _ (by simp)).below (Below.drew (Below.refl _ _))); (exact Nat.le_trans hB (Below.size (And.left (by assumption)))); (intro A3 c3 w3 hoz hbz hgz hatz); have HO3 := hid_ hoz; clear hoz hgz hatz)
      | (go_at_call 51; (with_reducible refine Calls.mono (refballot_any (w.heap.size + 1) A3 (n2 + 1) c3 (pre ++ [flag ok]) sn sd _ ?_ ?_ ?_ Hsn.out Hsd.out) ?_); (first | exact HO3.out | exact HO3.out.drew); (exact Nat.le_trans hB (Below.size (And.left (by assumption)))); omega; rintro e w3 ⟨A3, c3, rfl, hoz, hbz⟩; have HO4 := hid_ hoz; clear hoz)
      | fail)
  have S3 := hid_ (wr_app S3'.out (by have h := HO4.out; rw [List.append_assoc] at h; exact h) (S3'.out.below.trans (And.left (by assumption))))
  have B3 := hid_ (B0.out.below S3.out.below (by omega))
  have hz3 : w.heap.size + 1 ≤ w3.heap.size := Nat.le_trans (Nat.le_of_eq hsa.symm) S3.out.size
  have x0 := B3.out.cell 0 _ rfl
  have x1 := B3.out.cell 1 _ rfl
  have x2 := B3.out.cell 2 _ rfl
  have x3 := B3.out.cell 3 _ rfl
  have x4 := B3.out.cell 4 _ rfl
  have x5 := B3.out.cell 5 _ rfl
  have x6 := B3.out.cell 6 _ rfl
  have x7 := B3.out.cell 7 _ rfl
  have x8 := B3.out.cell 8 _ rfl
  have x9 := B3.out.cell 9 _ rfl
  have x10 := B3.out.cell 10 _ rfl
  skip
  go_wp2_with fail
  go_ret
  exact S3.out.done (by omega) Ha.out
set_option maxRecDepth 100000 in
set_option maxHeartbeats 8000000 in
theorem refbytes8_any (p : PackD) (s : PackS) (w : World) (hp : PackIn w p s) (hw : p.Wf) (hr : RightD p) (hk : p.kind = 8) : Calls Tryz.prog 22 #[packVal p s] w (RowPost w.heap.size w (writtenF p)) := by
  have Hle := hid_ (written_le hr).2
  have Hwf := hid_ (show writtenF p = byteI 8 :: (eight p.trace ++ (byteI p.v :: [])) by unfold writtenF; rw [hk, parts_8]; simp [optB])
  have hv1 := hr.v.1
  have hv2 := hr.v.2
  have q1 := hr.spans1
  have q2 := hr.members1
  have q3 := hr.ids1
  have Hr := hid_ hr
  clear hr
  obtain ⟨k, tr, bn, bd, sn, sd, v, ok, l1, l2, l3⟩ := p
  obtain ⟨a1, e1, a2, e2, a3, e3⟩ := s
  simp only at hk hv1 hv2 q1 q2 q3 Hwf Hle
  subst hk
  have Ha := hid_ (show Below w.heap.size w (w.alloc (.cells #[.int .i64 8, .int .u64 (tr : Nat), .int .u64 (bn : Nat), .int .u64 (bd : Nat), .int .u64 (sn : Nat), .int .u64 (sd : Nat), .int .i64 v, .bool ok, .slice a1 l1.length e1, .slice a2 l2.length e2, .slice a3 l3.length e3] 30)) from (Below.refl _ _).alloc (Nat.le_refl _) _)
  have B0 := hid_ (whole_new w 30 #[.int .i64 8, .int .u64 (tr : Nat), .int .u64 (bn : Nat), .int .u64 (bd : Nat), .int .u64 (sn : Nat), .int .u64 (sd : Nat), .int .i64 v, .bool ok, .slice a1 l1.length e1, .slice a2 l2.length e2, .slice a3 l3.length e3])
  have Htr := hid_ hw.trace
  have Hbn := hid_ hw.bn
  have Hbd := hid_ hw.bnode
  have Hsn := hid_ hw.sn
  have Hsd := hid_ hw.snode
  have Hp := hid_ hp
  have Hw := hid_ hw
  dsimp only at Htr Hbn Hbd Hsn Hsd
  clear hp hw
  have S0 := hid_ (wr_start (w.alloc (.cells #[.int .i64 8, .int .u64 (tr : Nat), .int .u64 (bn : Nat), .int .u64 (bd : Nat), .int .u64 (sn : Nat), .int .u64 (sd : Nat), .int .i64 v, .bool ok, .slice a1 l1.length e1, .slice a2 l2.length e2, .slice a3 l3.length e3] 30)) ⟨8, tr, bn, bd, sn, sd, v, ok, l1, l2, l3⟩ 8 8 (eight tr ++ (byteI v :: [])) (by rw [Hwf.out]) (by rfl) Hle.out (w.heap.size + 1) (by simp))
  have hsa : (w.alloc (.cells #[.int .i64 8, .int .u64 (tr : Nat), .int .u64 (bn : Nat), .int .u64 (bd : Nat), .int .u64 (sn : Nat), .int .u64 (sd : Nat), .int .i64 v, .bool ok, .slice a1 l1.length e1, .slice a2 l2.length e2, .slice a3 l3.length e3] 30)).heap.size = w.heap.size + 1 := by simp
  go_enter Tryz.func22, Tryz.ntmps22
  go_wp2_with (first
    | (go_at_call 50; (with_reducible refine Calls.mono (refeight_any tr _ Htr.out) ?_); rintro e v1 ⟨F1, f1, rfl, ho', hb'⟩; have HE1 := hid_ ho'.sl; have T1 := hid_ (wr_later S0.out (by simp <;> omega) hb'); have hv1 := T1.out.size; have hn1 := T1.out.n_le; clear ho' hb')
    | (at_builtin; refine wpList_bytes rfl (.tmp 15) (.tmp 18) rfl (w.heap.size + 1) (some ⟨w.heap.size + 1, 0, none⟩) 1 1 _ rfl T1.out.own F1 8 f1 (eight tr) rfl HE1.out 9 _ (by omega) rfl (by omega) (by omega) ?_; intro A1 c1 w1 ho' hb'; have S1 := hid_ (wr_app T1.out ho' (T1.out.below.trans hb')); clear ho' hb'; have B1 := hid_ (B0.out.below S1.out.below (by omega)); have hz1 : w.heap.size + 1 ≤ w1.heap.size := Nat.le_trans (Nat.le_of_eq hsa.symm) S1.out.size; have x0 := B1.out.cell 0 _ rfl; have x1 := B1.out.cell 1 _ rfl; have x2 := B1.out.cell 2 _ rfl; have x3 := B1.out.cell 3 _ rfl; have x4 := B1.out.cell 4 _ rfl; have x5 := B1.out.cell 5 _ rfl; have x6 := B1.out.cell 6 _ rfl; have x7 := B1.out.cell 7 _ rfl; have x8 := B1.out.cell 8 _ rfl; have x9 := B1.out.cell 9 _ rfl; have x10 := B1.out.cell 10 _ rfl; skip)
    | (at_builtin; have hn2 := S1.out.n_le; refine wpList_bytes rfl (.tmp 77) (.tmp 81) rfl (w.heap.size + 1) A1 9 c1 _ rfl (S1.out.own.alloc _) (some ⟨w1.heap.size, 0, none⟩) 1 1 [byteI v] rfl (own_lit_at w1 [byteI v] _ (byte_lit (by omega)) (w1.heap.size) rfl).sl (9 + 1) _ rfl rfl (by omega) (by simp <;> omega) ?_; intro A2 c2 w2 ho' hb'; have S2 := hid_ (wr_byte S1.out ho' ((S1.out.below.alloc hz1 _).trans hb')); clear ho' hb'; clear x0 x1 x2 x3 x4 x5 x6 x7 x8 x9 x10; have B2 := hid_ (B0.out.below S2.out.below (by omega)); have hz2 : w.heap.size + 1 ≤ w2.heap.size := Nat.le_trans (Nat.le_of_eq hsa.symm) S2.out.size; have x0 := B2.out.cell 0 _ rfl; have x1 := B2.out.cell 1 _ rfl; have x2 := B2.out.cell 2 _ rfl; have x3 := B2.out.cell 3 _ rfl; have x4 := B2.out.cell 4 _ rfl; have x5 := B2.out.cell 5 _ rfl; have x6 := B2.out.cell 6 _ rfl; have x7 := B2.out.cell 7 _ rfl; have x8 := B2.out.cell 8 _ rfl; have x9 := B2.out.cell 9 _ rfl; have x10 := B2.out.cell 10 _ rfl; skip))
  go_ret
  exact S2.out.done (by omega) Ha.out
set_option maxRecDepth 100000 in
set_option maxHeartbeats 8000000 in
theorem refbytes9_any (p : PackD) (s : PackS) (w : World) (hp : PackIn w p s) (hw : p.Wf) (hr : RightD p) (hk : p.kind = 9) : Calls Tryz.prog 22 #[packVal p s] w (RowPost w.heap.size w (writtenF p)) := by
  have Hle := hid_ (written_le hr).2
  have Hwf := hid_ (show writtenF p = byteI 9 :: (eight p.trace ++ ([p.bn, p.bnode].flatMap eight ++ (byteI (p.spans.length : Int) :: (p.spans.flatMap putF ++ [])))) by unfold writtenF; rw [hk, parts_9]; simp [optB])
  have hv1 := hr.v.1
  have hv2 := hr.v.2
  have q1 := hr.spans1
  have q2 := hr.members1
  have q3 := hr.ids1
  have Hr := hid_ hr
  clear hr
  obtain ⟨k, tr, bn, bd, sn, sd, v, ok, l1, l2, l3⟩ := p
  obtain ⟨a1, e1, a2, e2, a3, e3⟩ := s
  simp only at hk hv1 hv2 q1 q2 q3 Hwf Hle
  subst hk
  have Ha := hid_ (show Below w.heap.size w (w.alloc (.cells #[.int .i64 9, .int .u64 (tr : Nat), .int .u64 (bn : Nat), .int .u64 (bd : Nat), .int .u64 (sn : Nat), .int .u64 (sd : Nat), .int .i64 v, .bool ok, .slice a1 l1.length e1, .slice a2 l2.length e2, .slice a3 l3.length e3] 30)) from (Below.refl _ _).alloc (Nat.le_refl _) _)
  have B0 := hid_ (whole_new w 30 #[.int .i64 9, .int .u64 (tr : Nat), .int .u64 (bn : Nat), .int .u64 (bd : Nat), .int .u64 (sn : Nat), .int .u64 (sd : Nat), .int .i64 v, .bool ok, .slice a1 l1.length e1, .slice a2 l2.length e2, .slice a3 l3.length e3])
  have Htr := hid_ hw.trace
  have Hbn := hid_ hw.bn
  have Hbd := hid_ hw.bnode
  have Hsn := hid_ hw.sn
  have Hsd := hid_ hw.snode
  have Hp := hid_ hp
  have Hw := hid_ hw
  dsimp only at Htr Hbn Hbd Hsn Hsd
  clear hp hw
  have S0 := hid_ (wr_start (w.alloc (.cells #[.int .i64 9, .int .u64 (tr : Nat), .int .u64 (bn : Nat), .int .u64 (bd : Nat), .int .u64 (sn : Nat), .int .u64 (sd : Nat), .int .i64 v, .bool ok, .slice a1 l1.length e1, .slice a2 l2.length e2, .slice a3 l3.length e3] 30)) ⟨9, tr, bn, bd, sn, sd, v, ok, l1, l2, l3⟩ 9 9 (eight tr ++ ([bn, bd].flatMap eight ++ (byteI (l1.length : Int) :: (l1.flatMap putF ++ [])))) (by rw [Hwf.out]) (by rfl) Hle.out (w.heap.size + 1) (by simp))
  have hsa : (w.alloc (.cells #[.int .i64 9, .int .u64 (tr : Nat), .int .u64 (bn : Nat), .int .u64 (bd : Nat), .int .u64 (sn : Nat), .int .u64 (sd : Nat), .int .i64 v, .bool ok, .slice a1 l1.length e1, .slice a2 l2.length e2, .slice a3 l3.length e3] 30)).heap.size = w.heap.size + 1 := by simp
  go_enter Tryz.func22, Tryz.ntmps22
  go_wp2_with (first
    | (go_at_call 50; (with_reducible refine Calls.mono (refeight_any tr _ Htr.out) ?_); rintro e v1 ⟨F1, f1, rfl, ho', hb'⟩; have HE1 := hid_ ho'.sl; have T1 := hid_ (wr_later S0.out (by simp <;> omega) hb'); have hv1 := T1.out.size; have hn1 := T1.out.n_le; clear ho' hb')
    | (at_builtin; refine wpList_bytes rfl (.tmp 15) (.tmp 18) rfl (w.heap.size + 1) (some ⟨w.heap.size + 1, 0, none⟩) 1 1 _ rfl T1.out.own F1 8 f1 (eight tr) rfl HE1.out 9 _ (by omega) rfl (by omega) (by omega) ?_; intro A1 c1 w1 ho' hb'; have S1 := hid_ (wr_app T1.out ho' (T1.out.below.trans hb')); clear ho' hb'; have B1 := hid_ (B0.out.below S1.out.below (by omega)); have hz1 : w.heap.size + 1 ≤ w1.heap.size := Nat.le_trans (Nat.le_of_eq hsa.symm) S1.out.size; have x0 := B1.out.cell 0 _ rfl; have x1 := B1.out.cell 1 _ rfl; have x2 := B1.out.cell 2 _ rfl; have x3 := B1.out.cell 3 _ rfl; have x4 := B1.out.cell 4 _ rfl; have x5 := B1.out.cell 5 _ rfl; have x6 := B1.out.cell 6 _ rfl; have x7 := B1.out.cell 7 _ rfl; have x8 := B1.out.cell 8 _ rfl; have x9 := B1.out.cell 9 _ rfl; have x10 := B1.out.cell 10 _ rfl; skip))
  refine Calls.mono (step_ballot bn bd S1.out hz1 Hbn.out Hbd.out) ?_
  rintro e w2 ⟨A2, n2, c2, rfl, S2⟩
  have S2 := hid_ S2
  clear x0 x1 x2 x3 x4 x5 x6 x7 x8 x9 x10
  have B2 := hid_ (B0.out.below S2.out.below (by omega))
  have hz2 : w.heap.size + 1 ≤ w2.heap.size := Nat.le_trans (Nat.le_of_eq hsa.symm) S2.out.size
  have x0 := B2.out.cell 0 _ rfl
  have x1 := B2.out.cell 1 _ rfl
  have x2 := B2.out.cell 2 _ rfl
  have x3 := B2.out.cell 3 _ rfl
  have x4 := B2.out.cell 4 _ rfl
  have x5 := B2.out.cell 5 _ rfl
  have x6 := B2.out.cell 6 _ rfl
  have x7 := B2.out.cell 7 _ rfl
  have x8 := B2.out.cell 8 _ rfl
  have x9 := B2.out.cell 9 _ rfl
  have x10 := B2.out.cell 10 _ rfl
  skip
  go_wp2_with (first
    | (at_builtin; have hn3 := S2.out.n_le; refine wpList_bytes rfl (.tmp 96) (.tmp 101) rfl (w.heap.size + 1) A2 n2 c2 _ rfl (S2.out.own.alloc _) (some ⟨w2.heap.size, 0, none⟩) 1 1 [byteI (l1.length : Int)] rfl (own_lit_at w2 [byteI (l1.length : Int)] _ (byte_lit (by omega)) (w2.heap.size) rfl).sl (n2 + 1) _ rfl rfl (by omega) (by simp <;> omega) ?_; intro A3 c3 w3 ho' hb'; have S3 := hid_ (wr_byte S2.out ho' ((S2.out.below.alloc hz2 _).trans hb')); clear ho' hb'; clear x0 x1 x2 x3 x4 x5 x6 x7 x8 x9 x10; have B3 := hid_ (B0.out.below S3.out.below (by omega)); have hz3 : w.heap.size + 1 ≤ w3.heap.size := Nat.le_trans (Nat.le_of_eq hsa.symm) S3.out.size; have x0 := B3.out.cell 0 _ rfl; have x1 := B3.out.cell 1 _ rfl; have x2 := B3.out.cell 2 _ rfl; have x3 := B3.out.cell 3 _ rfl; have x4 := B3.out.cell 4 _ rfl; have x5 := B3.out.cell 5 _ rfl; have x6 := B3.out.cell 6 _ rfl; have x7 := B3.out.cell 7 _ rfl; have x8 := B3.out.cell 8 _ rfl; have x9 := B3.out.cell 9 _ rfl; have x10 := B3.out.cell 10 _ rfl; skip))
  have Hrw := hid_ (fun (W : World) (hb : Below (w.heap.size + 1) (w.alloc (.cells #[.int .i64 9, .int .u64 (tr : Nat), .int .u64 (bn : Nat), .int .u64 (bd : Nat), .int .u64 (sn : Nat), .int .u64 (sd : Nat), .int .i64 v, .bool ok, .slice a1 l1.length e1, .slice a2 l2.length e2, .slice a3 l3.length e3] 30)) W) => Hp.out.r1.below (Ha.out.trans (hb.mono (by omega))))
  have u1 := Hp.out.r1.cap
  have u2 := Hp.out.r1.max
  try dsimp only at u1 u2
  obtain ⟨pre, S4'⟩ : ∃ pre, Hid (Wr (w.heap.size + 1) (w.alloc (.cells #[.int .i64 9, .int .u64 (tr : Nat), .int .u64 (bn : Nat), .int .u64 (bd : Nat), .int .u64 (sn : Nat), .int .u64 (sd : Nat), .int .i64 v, .bool ok, .slice a1 l1.length e1, .slice a2 l2.length e2, .slice a3 l3.length e3] 30)) w3 A3 (n2 + 1) c3 ⟨9, tr, bn, bd, sn, sd, v, ok, l1, l2, l3⟩ pre (l1.flatMap putF)) := ⟨_, hid_ (S3.out.to rfl (List.append_nil _))⟩
  clear x0 x1 x2 x3 x4 x5 x6 x7 x8 x9 x10
  go_loopw [3, 4] (fun va i wr => ∃ (k : Nat) (A : Option Addr) (n c : Nat), k ≤ l1.length ∧ i = .int .i64 (k : Nat) ∧ va = .slice A n c ∧ Hid (Wr (w.heap.size + 1) (w.alloc (.cells #[.int .i64 9, .int .u64 (tr : Nat), .int .u64 (bn : Nat), .int .u64 (bd : Nat), .int .u64 (sn : Nat), .int .u64 (sd : Nat), .int .i64 v, .bool ok, .slice a1 l1.length e1, .slice a2 l2.length e2, .slice a3 l3.length e3] 30)) wr A n c ⟨9, tr, bn, bd, sn, sd, v, ok, l1, l2, l3⟩ (pre ++ (l1.take k).flatMap putF) ((l1.drop k).flatMap putF)) ∧ w.heap.size + 1 ≤ wr.heap.size) (fun _ i _ => l1.length - (intOf i).toNat)
  case atStart => exact ⟨0, A3, (n2 + 1), c3, by omega, rfl, rfl, hid_ (S4'.out.to (by simp) (by simp)), hz3⟩
  case round =>
    obtain ⟨k, A, n, c, hk, rfl, rfl, S, hz⟩ := hrel
    have Bk := hid_ (B0.out.below S.out.below (by omega))
    have x0 := Bk.out.cell 0 _ rfl
    have x6 := Bk.out.cell 8 _ rfl
    have x7 := Bk.out.cell 9 _ rfl
    have x8 := Bk.out.cell 10 _ rfl
    skip
    by_cases hlt : k < l1.length
    · have hrow := Hrw.out wr S.out.below
      try dsimp only at hrow
      have y1 : (k : Int) < (l1.length : Int) := by omega
      have y2 : (0 : Int) ≤ (k : Int) := by omega
      have Hdr := hid_ (flat_cons putF l1 hlt)
      have Htk := hid_ (show (l1.take (k + 1)).flatMap putF = (l1.take k).flatMap putF ++ putF l1[k] by rw [List.take_succ_eq_append_getElem hlt, List.flatMap_append, List.flatMap_cons, List.flatMap_nil, List.append_nil])
      obtain ⟨b, off, ha, hc⟩ := hrow.at_ hlt
      subst ha
      obtain ⟨c0, c1, c2, c3, c4, c5, c6, c7⟩ := hc
      have Hxw := hid_ (Hw.out.spans l1[k] (List.getElem_mem hlt))
      have Hxr := hid_ (Hr.out.spans2 l1[k] (List.getElem_mem hlt))
      generalize l1[k] = x at *
      go_wp2_with fail
      refine Calls.mono (step_rspan x (S.out.to rfl Hdr.out) hz Hxw.out Hxr.out) ?_
      rintro e w5 ⟨A5, n5, c5, rfl, S5⟩
      have S5 := hid_ S5
      clear c0 c1 c2 c3 c4 c6 c7 x0 x6 x7 x8
      go_wp2_with fail
      go_roundw
      case rel => exact ⟨k + 1, A5, n5, c5, by omega, by go_num, rfl, hid_ (S5.out.to (by rw [Htk.out, List.append_assoc]) rfl), by have := S5.out.size; omega⟩
      case measure => simp [intOf]; omega
    · obtain rfl : k = l1.length := by omega
      go_wp2_with fail
      go_ret
      exact (S.out.to rfl (by simp)).done (by omega) Ha.out
set_option maxRecDepth 100000 in
set_option maxHeartbeats 8000000 in
theorem refbytes10_any (p : PackD) (s : PackS) (w : World) (hp : PackIn w p s) (hw : p.Wf) (hr : RightD p) (hk : p.kind = 10) : Calls Tryz.prog 22 #[packVal p s] w (RowPost w.heap.size w (writtenF p)) := by
  have Hle := hid_ (written_le hr).2
  have Hwf := hid_ (show writtenF p = byteI 10 :: (eight p.trace ++ (byteI (p.ids.length : Int) :: (p.ids.flatMap eight ++ []))) by unfold writtenF; rw [hk, parts_10]; simp [optB])
  have hv1 := hr.v.1
  have hv2 := hr.v.2
  have q1 := hr.spans1
  have q2 := hr.members1
  have q3 := hr.ids1
  have Hr := hid_ hr
  clear hr
  obtain ⟨k, tr, bn, bd, sn, sd, v, ok, l1, l2, l3⟩ := p
  obtain ⟨a1, e1, a2, e2, a3, e3⟩ := s
  simp only at hk hv1 hv2 q1 q2 q3 Hwf Hle
  subst hk
  have Ha := hid_ (show Below w.heap.size w (w.alloc (.cells #[.int .i64 10, .int .u64 (tr : Nat), .int .u64 (bn : Nat), .int .u64 (bd : Nat), .int .u64 (sn : Nat), .int .u64 (sd : Nat), .int .i64 v, .bool ok, .slice a1 l1.length e1, .slice a2 l2.length e2, .slice a3 l3.length e3] 30)) from (Below.refl _ _).alloc (Nat.le_refl _) _)
  have B0 := hid_ (whole_new w 30 #[.int .i64 10, .int .u64 (tr : Nat), .int .u64 (bn : Nat), .int .u64 (bd : Nat), .int .u64 (sn : Nat), .int .u64 (sd : Nat), .int .i64 v, .bool ok, .slice a1 l1.length e1, .slice a2 l2.length e2, .slice a3 l3.length e3])
  have Htr := hid_ hw.trace
  have Hbn := hid_ hw.bn
  have Hbd := hid_ hw.bnode
  have Hsn := hid_ hw.sn
  have Hsd := hid_ hw.snode
  have Hp := hid_ hp
  have Hw := hid_ hw
  dsimp only at Htr Hbn Hbd Hsn Hsd
  clear hp hw
  have S0 := hid_ (wr_start (w.alloc (.cells #[.int .i64 10, .int .u64 (tr : Nat), .int .u64 (bn : Nat), .int .u64 (bd : Nat), .int .u64 (sn : Nat), .int .u64 (sd : Nat), .int .i64 v, .bool ok, .slice a1 l1.length e1, .slice a2 l2.length e2, .slice a3 l3.length e3] 30)) ⟨10, tr, bn, bd, sn, sd, v, ok, l1, l2, l3⟩ 10 10 (eight tr ++ (byteI (l3.length : Int) :: (l3.flatMap eight ++ []))) (by rw [Hwf.out]) (by rfl) Hle.out (w.heap.size + 1) (by simp))
  have hsa : (w.alloc (.cells #[.int .i64 10, .int .u64 (tr : Nat), .int .u64 (bn : Nat), .int .u64 (bd : Nat), .int .u64 (sn : Nat), .int .u64 (sd : Nat), .int .i64 v, .bool ok, .slice a1 l1.length e1, .slice a2 l2.length e2, .slice a3 l3.length e3] 30)).heap.size = w.heap.size + 1 := by simp
  go_enter Tryz.func22, Tryz.ntmps22
  go_wp2_with (first
    | (go_at_call 50; (with_reducible refine Calls.mono (refeight_any tr _ Htr.out) ?_); rintro e v1 ⟨F1, f1, rfl, ho', hb'⟩; have HE1 := hid_ ho'.sl; have T1 := hid_ (wr_later S0.out (by simp <;> omega) hb'); have hv1 := T1.out.size; have hn1 := T1.out.n_le; clear ho' hb')
    | (at_builtin; refine wpList_bytes rfl (.tmp 15) (.tmp 18) rfl (w.heap.size + 1) (some ⟨w.heap.size + 1, 0, none⟩) 1 1 _ rfl T1.out.own F1 8 f1 (eight tr) rfl HE1.out 9 _ (by omega) rfl (by omega) (by omega) ?_; intro A1 c1 w1 ho' hb'; have S1 := hid_ (wr_app T1.out ho' (T1.out.below.trans hb')); clear ho' hb'; have B1 := hid_ (B0.out.below S1.out.below (by omega)); have hz1 : w.heap.size + 1 ≤ w1.heap.size := Nat.le_trans (Nat.le_of_eq hsa.symm) S1.out.size; have x0 := B1.out.cell 0 _ rfl; have x1 := B1.out.cell 1 _ rfl; have x2 := B1.out.cell 2 _ rfl; have x3 := B1.out.cell 3 _ rfl; have x4 := B1.out.cell 4 _ rfl; have x5 := B1.out.cell 5 _ rfl; have x6 := B1.out.cell 6 _ rfl; have x7 := B1.out.cell 7 _ rfl; have x8 := B1.out.cell 8 _ rfl; have x9 := B1.out.cell 9 _ rfl; have x10 := B1.out.cell 10 _ rfl; skip)
    | (at_builtin; have hn2 := S1.out.n_le; refine wpList_bytes rfl (.tmp 159) (.tmp 164) rfl (w.heap.size + 1) A1 9 c1 _ rfl (S1.out.own.alloc _) (some ⟨w1.heap.size, 0, none⟩) 1 1 [byteI (l3.length : Int)] rfl (own_lit_at w1 [byteI (l3.length : Int)] _ (byte_lit (by omega)) (w1.heap.size) rfl).sl (9 + 1) _ rfl rfl (by omega) (by simp <;> omega) ?_; intro A2 c2 w2 ho' hb'; have S2 := hid_ (wr_byte S1.out ho' ((S1.out.below.alloc hz1 _).trans hb')); clear ho' hb'; clear x0 x1 x2 x3 x4 x5 x6 x7 x8 x9 x10; have B2 := hid_ (B0.out.below S2.out.below (by omega)); have hz2 : w.heap.size + 1 ≤ w2.heap.size := Nat.le_trans (Nat.le_of_eq hsa.symm) S2.out.size; have x0 := B2.out.cell 0 _ rfl; have x1 := B2.out.cell 1 _ rfl; have x2 := B2.out.cell 2 _ rfl; have x3 := B2.out.cell 3 _ rfl; have x4 := B2.out.cell 4 _ rfl; have x5 := B2.out.cell 5 _ rfl; have x6 := B2.out.cell 6 _ rfl; have x7 := B2.out.cell 7 _ rfl; have x8 := B2.out.cell 8 _ rfl; have x9 := B2.out.cell 9 _ rfl; have x10 := B2.out.cell 10 _ rfl; skip))
  have Hrw := hid_ (fun (W : World) (hb : Below (w.heap.size + 1) (w.alloc (.cells #[.int .i64 10, .int .u64 (tr : Nat), .int .u64 (bn : Nat), .int .u64 (bd : Nat), .int .u64 (sn : Nat), .int .u64 (sd : Nat), .int .i64 v, .bool ok, .slice a1 l1.length e1, .slice a2 l2.length e2, .slice a3 l3.length e3] 30)) W) => Hp.out.r3.below (Ha.out.trans (hb.mono (by omega))))
  have u1 := Hp.out.r3.cap
  have u2 := Hp.out.r3.max
  try dsimp only at u1 u2
  obtain ⟨pre, S3'⟩ : ∃ pre, Hid (Wr (w.heap.size + 1) (w.alloc (.cells #[.int .i64 10, .int .u64 (tr : Nat), .int .u64 (bn : Nat), .int .u64 (bd : Nat), .int .u64 (sn : Nat), .int .u64 (sd : Nat), .int .i64 v, .bool ok, .slice a1 l1.length e1, .slice a2 l2.length e2, .slice a3 l3.length e3] 30)) w2 A2 (9 + 1) c2 ⟨10, tr, bn, bd, sn, sd, v, ok, l1, l2, l3⟩ pre (l3.flatMap eight)) := ⟨_, hid_ (S2.out.to rfl (List.append_nil _))⟩
  clear x0 x1 x2 x3 x4 x5 x6 x7 x8 x9 x10
  go_loopw [3, 7] (fun va i wr => ∃ (k : Nat) (A : Option Addr) (n c : Nat), k ≤ l3.length ∧ i = .int .i64 (k : Nat) ∧ va = .slice A n c ∧ Hid (Wr (w.heap.size + 1) (w.alloc (.cells #[.int .i64 10, .int .u64 (tr : Nat), .int .u64 (bn : Nat), .int .u64 (bd : Nat), .int .u64 (sn : Nat), .int .u64 (sd : Nat), .int .i64 v, .bool ok, .slice a1 l1.length e1, .slice a2 l2.length e2, .slice a3 l3.length e3] 30)) wr A n c ⟨10, tr, bn, bd, sn, sd, v, ok, l1, l2, l3⟩ (pre ++ (l3.take k).flatMap eight) ((l3.drop k).flatMap eight)) ∧ w.heap.size + 1 ≤ wr.heap.size) (fun _ i _ => l3.length - (intOf i).toNat)
  case atStart => exact ⟨0, A2, (9 + 1), c2, by omega, rfl, rfl, hid_ (S3'.out.to (by simp) (by simp)), hz2⟩
  case round =>
    obtain ⟨k, A, n, c, hk, rfl, rfl, S, hz⟩ := hrel
    have Bk := hid_ (B0.out.below S.out.below (by omega))
    have x0 := Bk.out.cell 0 _ rfl
    have x6 := Bk.out.cell 8 _ rfl
    have x7 := Bk.out.cell 9 _ rfl
    have x8 := Bk.out.cell 10 _ rfl
    skip
    by_cases hlt : k < l3.length
    · have hrow := Hrw.out wr S.out.below
      try dsimp only at hrow
      have y1 : (k : Int) < (l3.length : Int) := by omega
      have y2 : (0 : Int) ≤ (k : Int) := by omega
      have Hdr := hid_ (flat_cons eight l3 hlt)
      have Htk := hid_ (show (l3.take (k + 1)).flatMap eight = (l3.take k).flatMap eight ++ eight l3[k] by rw [List.take_succ_eq_append_getElem hlt, List.flatMap_append, List.flatMap_cons, List.flatMap_nil, List.append_nil])
      have hkl : k < (idVals l3).length := by simpa [idVals] using hlt
      obtain ⟨b, off, ha, hc⟩ := hrow.at_ hkl
      subst ha
      have hid : (idVals l3)[k] = .int .u64 (l3[k] : Nat) := by simp [idVals]
      rw [hid] at hc
      have Hx := hid_ (Hw.out.ids l3[k] (List.getElem_mem hlt))
      generalize l3[k] = x at *
      try dsimp only at Hx
      have Se := hid_ (S.out.to rfl Hdr.out)
      have hn := S.out.n_le
      go_wp2_with (first
        | (go_at_call 50; (with_reducible refine Calls.mono (refeight_any x _ Hx.out) ?_); rintro e w5 ⟨F5, f5, rfl, ho', hb'⟩; have HE5 := hid_ ho'.sl; have T5 := hid_ (wr_later Se.out hz hb'); have hv5 := T5.out.size; clear ho' hb')
        | (at_builtin; refine wpList_bytes rfl (.tmp 173) (.tmp 179) rfl (w.heap.size + 1) A n c _ rfl T5.out.own F5 8 f5 (eight x) rfl HE5.out (n + 8) _ (by omega) rfl (by omega) (by omega) ?_; intro A6 c6 w6 ho' hb'; have S6 := hid_ (wr_app T5.out ho' (T5.out.below.trans hb')); clear ho' hb'))
      go_roundw
      case rel => exact ⟨k + 1, A6, n + 8, c6, by omega, by go_num, rfl, hid_ (S6.out.to (by rw [Htk.out, List.append_assoc]) rfl), by have := S6.out.size; omega⟩
      case measure => simp [intOf]; omega
    · obtain rfl : k = l3.length := by omega
      go_wp2_with fail
      go_ret
      exact (S.out.to rfl (by simp)).done (by omega) Ha.out
theorem refbytes_any (p : PackD) (s : PackS) (w : World) (hp : PackIn w p s) (hw : p.Wf) (hr : rightP p = true) : Calls Tryz.prog 22 #[packVal p s] w (RowPost w.heap.size w (writtenF p)) := by
  have h := right_facts hr
  rcases kind_cases h.kind with e | e | e | e | e | e | e | e | e | e
  · exact refbytes1_any p s w hp hw h e
  · exact refbytes2_any p s w hp hw h e
  · exact refbytes3_any p s w hp hw h e
  · exact refbytes4_any p s w hp hw h e
  · exact refbytes5_any p s w hp hw h e
  · exact refbytes6_any p s w hp hw h e
  · exact refbytes7_any p s w hp hw h e
  · exact refbytes8_any p s w hp hw h e
  · exact refbytes9_any p s w hp hw h e
  · exact refbytes10_any p s w hp hw h e
end Go.Proofs.YtnpbokbfkdncmaaGreat
