/-
  What the program's written answers of a right packet.
-/
import Derived.Test.YtnpbokbfkdncmaaGreatZGB
import Derived.Test.YtnpbokbfkdncmaaGreatZGH
import Derived.Test.YtnpbokbfkdncmaaGreatZGK
namespace Go.Proofs.YtnpbokbfkdncmaaGreat
set_option linter.unusedSimpArgs false
set_option linter.unusedVariables false
open Go.RowKit Ru

theorem row_lit (w : World) (ns : List Nat) (cs : Array Value) (h : cs.toList = idVals ns) (n : Nat) (hn : ns.length = n) (hm : n ≤ 9223372036854775807) : Row (w.alloc (.cells cs 22)) (some ⟨w.heap.size, 0, none⟩) n n (idVals ns) :=
  (ownV_lit 22 w (idVals ns) cs h n (by rw [← hn]; simp [idVals]) hm w.heap.size (Nat.le_refl _)).row
theorem row_lt {w : World} {A : Option Addr} {n c : Nat} {vs : List Value} (h : Row w A n c vs) (h0 : vs ≠ []) : ∀ a, A = some a → a.block < w.heap.size := by
  rintro a rfl
  obtain ⟨b, off, e, hc⟩ := h.holds h0
  cases e
  obtain ⟨v, l, rfl⟩ := List.exists_cons_of_ne_nil h0
  exact lt_of_cell (hc 0 v rfl)
/-- Some of a packet's bytes are written, the rest is still to come. -/
structure Wr (B : Nat) (w0 w : World) (A : Option Addr) (n c : Nat) (p : PackD) (pre post : List UInt8) : Prop where
  own : Own B w A n c pre
  all : pre ++ post = writtenF p
  len : (writtenF p).length ≤ 8192
  below : Below B w0 w
  pos : 0 < n
theorem Wr.n_le {B : Nat} {w0 w : World} {A : Option Addr} {n c : Nat} {p : PackD} {pre post : List UInt8} (h : Wr B w0 w A n c p pre post) : n ≤ 8192 := by
  have h1 := h.own.sl.len
  have h2 := congrArg List.length h.all
  have h3 := h.len
  rw [List.length_append] at h2
  omega
theorem Wr.size {B : Nat} {w0 w : World} {A : Option Addr} {n c : Nat} {p : PackD} {pre post : List UInt8} (h : Wr B w0 w A n c p pre post) : w0.heap.size ≤ w.heap.size := h.below.size
theorem Wr.alloc {B : Nat} {w0 w : World} {A : Option Addr} {n c : Nat} {p : PackD} {pre post : List UInt8} (h : Wr B w0 w A n c p pre post) (hB : B ≤ w.heap.size) (o : Obj) : Wr B w0 (w.alloc o) A n c p pre post :=
  ⟨h.own.alloc o, h.all, h.len, h.below.alloc hB o, h.pos⟩
theorem Wr.to {B : Nat} {w0 w : World} {A : Option Addr} {n c : Nat} {p : PackD} {pre post pre' post' : List UInt8} (h : Wr B w0 w A n c p pre post) (e1 : pre = pre') (e2 : post = post') : Wr B w0 w A n c p pre' post' := by subst e1 e2; exact h
def WrPost2 (B : Nat) (w0 w : World) (A0 : Option Addr) (p : PackD) (pre post : List UInt8) (e : Ending) (w' : World) : Prop := ∃ A n c, e = .returned (.slice A n c) ∧ Wr B w0 w' A n c p pre post ∧ Others w A0 w'
def WrPost (B : Nat) (w0 : World) (p : PackD) (pre post : List UInt8) (e : Ending) (w' : World) : Prop := ∃ A n c, e = .returned (.slice A n c) ∧ Wr B w0 w' A n c p pre post
/-- putNumbers with numbers that were just laid. -/
theorem step_nums {B : Nat} {w0 w : World} {A : Option Addr} {n c : Nat} {p : PackD} {pre post : List UInt8} (ns : List Nat) (h : Wr B w0 w A n c p pre (ns.flatMap eight ++ post)) (hB : B ≤ w.heap.size) (cs : Array Value) (hc : cs.toList = idVals ns) (m : Nat) (hm : ns.length = m) (hm2 : m ≤ 100) (G : Nat) (hG : G = w.heap.size) :
    Calls Tryz.prog 43 #[.slice A n c, .slice (some ⟨G, 0, none⟩) m m] (w.alloc (.cells cs 22)) (WrPost2 B w0 (w.alloc (.cells cs 22)) A p (pre ++ ns.flatMap eight) post) := by
  subst hG
  refine Calls.mono (putNumbers_any B A n c pre _ m m ns _ (h.own.alloc _) (row_lit w ns cs hc m hm (by omega)) (by simp; omega) (by have := h.n_le; omega) (by omega) ?_) ?_
  · rintro _ a a2 rfl e
    cases e
    obtain ⟨g, hg, _, h3⟩ := h.own.place h.pos
    cases hg
    show g ≠ w.heap.size
    omega
  · rintro e w' ⟨A', n', c', rfl, ho, hb, hot⟩
    have hl := ho.sl.len
    rw [List.length_append] at hl
    have hl0 := h.own.sl.len
    have hp := h.pos
    exact ⟨A', n', c', rfl, ⟨ho, by rw [List.append_assoc]; exact h.all, h.len, (h.below.alloc hB _).trans hb, by omega⟩, hot⟩
/-- putNumbers with a row that was there. -/
theorem step_row {B : Nat} {w0 w : World} {A : Option Addr} {n c : Nat} {p : PackD} {pre post : List UInt8} (ns : List Nat) (h : Wr B w0 w A n c p pre (ns.flatMap eight ++ post)) (hB : B ≤ w.heap.size) (A2 : Option Addr) (n2 c2 : Nat) (hr : Row w A2 n2 c2 (idVals ns)) (hlt : ns ≠ [] → ∀ a, A2 = some a → a.block < B) (hm : ns.length ≤ 100) :
    Calls Tryz.prog 43 #[.slice A n c, .slice A2 n2 c2] w (WrPost B w0 p (pre ++ ns.flatMap eight) post) := by
  refine Calls.mono (putNumbers_any B A n c pre _ n2 c2 ns _ h.own hr hB (by have := h.n_le; omega) (by omega) ?_) ?_
  · intro h0 a a2 e e2
    obtain ⟨g, hg, h3, _⟩ := h.own.place h.pos
    have := hlt h0 a2 e2
    rw [hg] at e
    cases e
    show g ≠ a2.block
    omega
  · rintro e w' ⟨A', n', c', rfl, ho, hb, -⟩
    have hl := ho.sl.len
    rw [List.length_append] at hl
    have hl0 := h.own.sl.len
    have hp := h.pos
    exact ⟨A', n', c', rfl, ⟨ho, by rw [List.append_assoc]; exact h.all, h.len, h.below.trans hb, by omega⟩⟩
theorem step_span {B : Nat} {w0 w : World} {A : Option Addr} {n c : Nat} {p : PackD} {pre post : List UInt8} (s : SpanD) (h : Wr B w0 w A n c p pre (putF s ++ post)) (hB : B ≤ w.heap.size) (hw : s.Wf) (hr : rightF s = 0) :
    Calls Tryz.prog 45 #[.slice A n c, spanVal s] w (fun e w' => ∃ A n c, e = .returned (.tuple #[.slice A n c, .int .i64 0]) ∧ Wr B w0 w' A n c p (pre ++ putF s) post) := by
  refine Calls.mono (put_any A n c pre s w h.own.sl (by have := h.n_le; omega) hw) ?_
  rintro e w' (⟨h1, _⟩ | ⟨_, A', n', c', rfl, ho, hb⟩)
  · exact absurd hr h1
  · have hl := ho.sl.len
    rw [List.length_append] at hl
    have hl0 := h.own.sl.len
    have hp := h.pos
    exact ⟨A', n', c', rfl, ho.mono hB, by rw [List.append_assoc]; exact h.all, h.len, h.below.trans (hb.mono hB), by omega⟩
theorem Wr.done {B B0 : Nat} {w w0 W : World} {A : Option Addr} {n c : Nat} {p : PackD} {pre : List UInt8} (h : Wr B w0 W A n c p pre []) (hB : B0 ≤ B) (hb : Below B0 w w0) : RowPost B0 w (writtenF p) (.returned (.slice A n c)) W :=
  rowPost_mk (h.own.mono hB) (by have := h.all; rwa [List.append_nil] at this) (hb.trans (h.below.mono hB))
theorem own_lit_at (w : World) (l : List UInt8) (cs : Array Value) (h : cs.toList = bytes l) (G : Nat) (hG : G = w.heap.size) (hl : l.length = 1 := by rfl) : Own w.heap.size (w.alloc (.cells cs 5)) (some ⟨G, 0, Option.none⟩) 1 1 l := by
  subst hG
  exact own_lit w l cs h 1 hl (by omega) _ (Nat.le_refl _)
theorem byte_lit {v X : Int} (h : v % 256 = X) : (#[Value.int .u8 X] : Array Value).toList = bytes [byteI v] := by
  subst h
  show [Value.int .u8 (v % 256)] = [Value.int .u8 ((byteI v).toNat : Int)]
  rw [byteI_toNat]
theorem wr_start (w : World) (p : PackD) (k X : Int) (post : List UInt8) (h : byteI k :: post = writtenF p) (hk : k % 256 = X) (hl : (writtenF p).length ≤ 8192) (G : Nat) (hG : G = w.heap.size) : Wr G w (w.alloc (.cells #[.int .u8 X] 5)) (some ⟨G, 0, none⟩) 1 1 p [byteI k] post := by
  subst hG
  exact ⟨own_lit w [byteI k] _ (byte_lit hk) 1 rfl (by omega) _ (Nat.le_refl _), h, hl, (Below.refl _ _).alloc (Nat.le_refl _) _, by omega⟩
theorem step_truth {B : Nat} {w0 w : World} {A : Option Addr} {n c : Nat} {p : PackD} {pre post : List UInt8} (t : Bool) (h : Wr B w0 w A n c p pre (flag t :: post)) (hB : B ≤ w.heap.size) :
    Calls Tryz.prog 44 #[.slice A n c, .bool t] w (WrPost B w0 p (pre ++ [flag t]) post) := by
  refine Calls.mono (putTruth_any B A n c pre t w h.own hB (by have := h.n_le; omega)) ?_
  rintro e w' ⟨A', n', c', rfl, ho, hb⟩
  have hl := ho.sl.len
  rw [List.length_append] at hl
  simp at hl
  exact ⟨A', n', c', rfl, ho, by rw [List.append_assoc]; exact h.all, h.len, h.below.trans hb, by omega⟩
theorem wr_byte {B : Nat} {w0 w w' : World} {A A' : Option Addr} {n c n' c' : Nat} {p : PackD} {pre post : List UInt8} {x : UInt8} (h : Wr B w0 w A n c p pre (x :: post)) (ho : Own B w' A' n' c' (pre ++ [x])) (hb : Below B w0 w') : Wr B w0 w' A' n' c' p (pre ++ [x]) post := by
  have hl := ho.sl.len
  rw [List.length_append] at hl
  simp at hl
  exact ⟨ho, by rw [List.append_assoc]; exact h.all, h.len, hb, by omega⟩
theorem pack_facts {W : World} {g : Nat} {p : PackD} {s : PackS} (h : Whole W g 30 (packCells p s)) :
    W.cell? ⟨g, 0, none⟩ = some (.int .i64 p.kind) ∧ W.cell? ⟨g, 1, none⟩ = some (.int .u64 (p.trace : Nat)) ∧ W.cell? ⟨g, 2, none⟩ = some (.int .u64 (p.bn : Nat)) ∧ W.cell? ⟨g, 3, none⟩ = some (.int .u64 (p.bnode : Nat)) ∧ W.cell? ⟨g, 4, none⟩ = some (.int .u64 (p.sn : Nat)) ∧ W.cell? ⟨g, 5, none⟩ = some (.int .u64 (p.snode : Nat)) ∧ W.cell? ⟨g, 6, none⟩ = some (.int .i64 p.v) ∧ W.cell? ⟨g, 7, none⟩ = some (.bool p.ok) ∧ W.cell? ⟨g, 8, none⟩ = some (.slice s.a1 p.spans.length s.c1) ∧ W.cell? ⟨g, 9, none⟩ = some (.slice s.a2 p.members.length s.c2) ∧ W.cell? ⟨g, 10, none⟩ = some (.slice s.a3 p.ids.length s.c3) :=
  ⟨h.cell 0 _ rfl, h.cell 1 _ rfl, h.cell 2 _ rfl, h.cell 3 _ rfl, h.cell 4 _ rfl, h.cell 5 _ rfl, h.cell 6 _ rfl, h.cell 7 _ rfl, h.cell 8 _ rfl, h.cell 9 _ rfl, h.cell 10 _ rfl⟩
theorem part_facts {W : World} {g : Nat} {a b c d e f i : Bool} (h : Whole W g 75 (partsCells ⟨a, b, c, d, e, f, i⟩)) :
    W.cell? ⟨g, 0, none⟩ = some (.bool a) ∧ W.cell? ⟨g, 1, none⟩ = some (.bool b) ∧ W.cell? ⟨g, 2, none⟩ = some (.bool c) ∧ W.cell? ⟨g, 3, none⟩ = some (.bool d) ∧ W.cell? ⟨g, 4, none⟩ = some (.bool e) ∧ W.cell? ⟨g, 5, none⟩ = some (.bool f) ∧ W.cell? ⟨g, 6, none⟩ = some (.bool i) :=
  ⟨h.cell 0 _ rfl, h.cell 1 _ rfl, h.cell 2 _ rfl, h.cell 3 _ rfl, h.cell 4 _ rfl, h.cell 5 _ rfl, h.cell 6 _ rfl⟩
set_option maxRecDepth 100000 in
set_option maxHeartbeats 8000000 in
theorem written1_any (p : PackD) (s : PackS) (w : World) (hp : PackIn w p s) (hw : p.Wf) (hr : RightD p) (hk : p.kind = 1) : Calls Tryz.prog 20 #[packVal p s] w (RowPost w.heap.size w (writtenF p)) := by
  have Hle := hid_ (written_le hr).2
  have Hwf := hid_ (show writtenF p = byteI 1 :: ([p.trace].flatMap eight ++ (byteI (p.spans.length : Int) :: (p.spans.flatMap putF ++ []))) by unfold writtenF; rw [hk, parts_1]; simp [optB])
  have hv1 := hr.v.1
  have hv2 := hr.v.2
  have q1 := hr.spans1
  have q2 := hr.members1
  have q3 := hr.ids1
  have Hr := hid_ hr
  clear hr
  obtain ⟨k, tr, bn, bd, sn, sd, v, ok, l1, l2, l3⟩ := p
  obtain ⟨a1, e1, a2, e2, a3, e3⟩ := s
  simp only at hk hv1 hv2 q1 q2 q3 Hwf Hle
  subst hk
  have Ha := hid_ (show Below w.heap.size w (w.alloc (.cells (packCells ⟨1, tr, bn, bd, sn, sd, v, ok, l1, l2, l3⟩ ⟨a1, e1, a2, e2, a3, e3⟩) 30)) from (Below.refl _ _).alloc (Nat.le_refl _) _)
  have B0 := hid_ (whole_new w 30 (packCells ⟨1, tr, bn, bd, sn, sd, v, ok, l1, l2, l3⟩ ⟨a1, e1, a2, e2, a3, e3⟩))
  have Hpo := hid_ (fun W => partsof_any 1 W)
  rw [parts_1] at Hpo
  unfold PartsPost at Hpo
  have Hp := hid_ hp
  have Hw := hid_ hw
  clear hp hw
  go_enter Tryz.func20, Tryz.ntmps20
  go_wp2_with fail
  refine Calls.mono (Hpo.out _) ?_
  rintro e w1 ⟨rfl, hb1⟩
  have B1 := hid_ (B0.out.below hb1 B0.out.lt)
  have Hb1 := hid_ (Ha.out.trans (hb1.mono Ha.out.size))
  have hlt := B1.out.lt
  have B2 := hid_ (B1.out.alloc (.cells (partsCells ⟨true, false, false, false, true, false, false⟩) 75))
  have P2 := hid_ (whole_new w1 75 (partsCells ⟨true, false, false, false, true, false, false⟩))
  clear hb1
  obtain ⟨x0, x1, x2, x3, x4, x5, x6, x7, x8, x9, x10⟩ := pack_facts B1.out
  dsimp only at x0 x1 x2 x3 x4 x5 x6 x7 x8 x9 x10
  have hne : w.heap.size ≠ w1.heap.size := by omega
  have S0 := hid_ (wr_start (w1.alloc (.cells (partsCells ⟨true, false, false, false, true, false, false⟩) 75)) ⟨1, tr, bn, bd, sn, sd, v, ok, l1, l2, l3⟩ 1 1 ([tr].flatMap eight ++ (byteI (l1.length : Int) :: (l1.flatMap putF ++ []))) (by rw [Hwf.out]) (by rfl) Hle.out (w1.heap.size + 1) (by simp))
  go_wp2_with fail
  refine Calls.mono (step_nums ([tr] : List Nat) S0.out (by simp) _ rfl _ rfl (by simp) _ (by simp)) ?_
  rintro e w3 ⟨A3, n3, c3, rfl, S3, -⟩
  have S3 := hid_ S3
  have B3 := hid_ (B2.out.below S3.out.below (by simpa using B2.out.lt))
  have P3 := hid_ (P2.out.below S3.out.below (by simp))
  have hz3 : w1.heap.size + 1 ≤ w3.heap.size := by have := S3.out.size; simp at this; omega
  clear x0 x1 x2 x3 x4 x5 x6 x7 x8 x9 x10
  obtain ⟨x0, x1, x2, x3, x4, x5, x6, x7, x8, x9, x10⟩ := pack_facts B3.out
  obtain ⟨z0, z1, z2, z3, z4, z5, z6⟩ := part_facts P3.out
  dsimp only at x0 x1 x2 x3 x4 x5 x6 x7 x8 x9 x10
  have hn3 := S3.out.n_le
  go_wp2_with (at_builtin; refine wpList_bytes rfl (.tmp 59) (.tmp 64) rfl (w1.heap.size + 1) A3 n3 c3 _ rfl (S3.out.own.alloc _) (some ⟨w3.heap.size, 0, none⟩) 1 1 [byteI (l1.length : Int)] rfl (own_lit_at w3 [byteI (l1.length : Int)] _ (byte_lit (by omega)) (w3.heap.size) rfl).sl (n3 + 1) _ rfl rfl (by omega) (by simp <;> omega) ?_; intro A4 c4 w4 ho' hb'; have S4 := hid_ (wr_byte S3.out ho' ((S3.out.below.alloc hz3 _).trans hb')); clear ho' hb'; have B4 := hid_ (B2.out.below S4.out.below (by simpa using B2.out.lt)); have P4 := hid_ (P2.out.below S4.out.below (by simp)); have hz4 : w1.heap.size + 1 ≤ w4.heap.size := (by have := S4.out.size; simp at this; omega); clear x0 x1 x2 x3 x4 x5 x6 x7 x8 x9 x10; clear z0 z1 z2 z3 z4 z5 z6; obtain ⟨x0, x1, x2, x3, x4, x5, x6, x7, x8, x9, x10⟩ := pack_facts B4.out; obtain ⟨z0, z1, z2, z3, z4, z5, z6⟩ := part_facts P4.out; dsimp only at x0 x1 x2 x3 x4 x5 x6 x7 x8 x9 x10)
  have Hbw := hid_ (fun (W : World) (hb : Below (w1.heap.size + 1) (w1.alloc (.cells (partsCells ⟨true, false, false, false, true, false, false⟩) 75)) W) => (Hb1.out.alloc Hb1.out.size (.cells (partsCells ⟨true, false, false, false, true, false, false⟩) 75)).trans (hb.mono (by have := Hb1.out.size; omega)))
  have Hrw := hid_ (fun (W : World) (hb : Below (w1.heap.size + 1) (w1.alloc (.cells (partsCells ⟨true, false, false, false, true, false, false⟩) 75)) W) => Hp.out.r1.below (Hbw.out W hb))
  have u1 := Hp.out.r1.cap
  have u2 := Hp.out.r1.max
  dsimp only at u1 u2
  obtain ⟨pre, S4'⟩ : ∃ pre, Hid (Wr (w1.heap.size + 1) (w1.alloc (.cells (partsCells ⟨true, false, false, false, true, false, false⟩) 75)) w4 A4 (n3 + 1) c4 ⟨1, tr, bn, bd, sn, sd, v, ok, l1, l2, l3⟩ pre (l1.flatMap putF)) := ⟨_, hid_ (S4.out.to rfl (List.append_nil _))⟩
  go_loopw [4, 69] (fun va i wr => ∃ (k : Nat) (A : Option Addr) (n c : Nat), k ≤ l1.length ∧ i = .int .i64 (k : Nat) ∧ va = .slice A n c ∧ Hid (Wr (w1.heap.size + 1) (w1.alloc (.cells (partsCells ⟨true, false, false, false, true, false, false⟩) 75)) wr A n c ⟨1, tr, bn, bd, sn, sd, v, ok, l1, l2, l3⟩ (pre ++ (l1.take k).flatMap putF) ((l1.drop k).flatMap putF)) ∧ w1.heap.size + 1 ≤ wr.heap.size) (fun _ i _ => l1.length - (intOf i).toNat)
  case atStart => exact ⟨0, A4, n3 + 1, c4, by omega, rfl, rfl, hid_ (S4'.out.to (by simp) (by simp)), hz4⟩
  case round =>
    obtain ⟨k, A, n, c, hk, rfl, rfl, S, hz⟩ := hrel
    have Bk := hid_ (B2.out.below S.out.below (by simpa using B2.out.lt))
    have Pk := hid_ (P2.out.below S.out.below (by simp))
    clear x0 x1 x2 x3 x4 x5 x6 x7 x8 x9 x10 z0 z1 z2 z3 z4 z5 z6
    obtain ⟨x0, x1, x2, x3, x4, x5, x6, x7, x8, x9, x10⟩ := pack_facts Bk.out
    obtain ⟨z0, z1, z2, z3, z4, z5, z6⟩ := part_facts Pk.out
    dsimp only at x0 x1 x2 x3 x4 x5 x6 x7 x8 x9 x10
    by_cases hlt : k < l1.length
    · have hrow := Hrw.out wr S.out.below
      dsimp only at hrow
      obtain ⟨b, off, ha, hc⟩ := hrow.at_ hlt
      subst ha
      obtain ⟨c0, c1, c2, c3, c4, c5, c6, c7⟩ := hc
      have y1 : (k : Int) < (l1.length : Int) := by omega
      have y2 : (0 : Int) ≤ (k : Int) := by omega
      have Hdr := hid_ (flat_cons putF l1 hlt)
      have Htk := hid_ (show (l1.take (k + 1)).flatMap putF = (l1.take k).flatMap putF ++ putF l1[k] by rw [List.take_succ_eq_append_getElem hlt, List.flatMap_append, List.flatMap_cons, List.flatMap_nil, List.append_nil])
      have Hxw := hid_ (Hw.out.spans l1[k] (List.getElem_mem hlt))
      have Hxr := hid_ (Hr.out.spans2 l1[k] (List.getElem_mem hlt))
      generalize l1[k] = x at *
      go_wp2_with fail
      refine Calls.mono (step_span x ((S.out.to rfl Hdr.out).alloc hz _) (by simp; omega) Hxw.out Hxr.out) ?_
      rintro e w5 ⟨A5, n5, c5, rfl, S5⟩
      have S5 := hid_ S5
      go_wp2_with fail
      go_roundw
      case rel => exact ⟨k + 1, A5, n5, c5, by omega, by go_num, rfl, hid_ (S5.out.to (by rw [Htk.out, List.append_assoc]) rfl), by have := S5.out.size; simp at this; omega⟩
      case measure => simp [intOf]; omega
    · obtain rfl : k = l1.length := by omega
      go_wp2_with fail
      go_ret
      exact (S.out.to rfl (by simp)).done (by have := Hb1.out.size; omega) (Hb1.out.alloc Hb1.out.size _)
set_option maxRecDepth 100000 in
set_option maxHeartbeats 8000000 in
theorem written2_any (p : PackD) (s : PackS) (w : World) (hp : PackIn w p s) (hw : p.Wf) (hr : RightD p) (hk : p.kind = 2) : Calls Tryz.prog 20 #[packVal p s] w (RowPost w.heap.size w (writtenF p)) := by
  have Hle := hid_ (written_le hr).2
  have Hwf := hid_ (show writtenF p = byteI 2 :: ([p.trace].flatMap eight ++ (byteI (p.spans.length : Int) :: (p.spans.flatMap putF ++ []))) by unfold writtenF; rw [hk, parts_2]; simp [optB])
  have hv1 := hr.v.1
  have hv2 := hr.v.2
  have q1 := hr.spans1
  have q2 := hr.members1
  have q3 := hr.ids1
  have Hr := hid_ hr
  clear hr
  obtain ⟨k, tr, bn, bd, sn, sd, v, ok, l1, l2, l3⟩ := p
  obtain ⟨a1, e1, a2, e2, a3, e3⟩ := s
  simp only at hk hv1 hv2 q1 q2 q3 Hwf Hle
  subst hk
  have Ha := hid_ (show Below w.heap.size w (w.alloc (.cells (packCells ⟨2, tr, bn, bd, sn, sd, v, ok, l1, l2, l3⟩ ⟨a1, e1, a2, e2, a3, e3⟩) 30)) from (Below.refl _ _).alloc (Nat.le_refl _) _)
  have B0 := hid_ (whole_new w 30 (packCells ⟨2, tr, bn, bd, sn, sd, v, ok, l1, l2, l3⟩ ⟨a1, e1, a2, e2, a3, e3⟩))
  have Hpo := hid_ (fun W => partsof_any 2 W)
  rw [parts_2] at Hpo
  unfold PartsPost at Hpo
  have Hp := hid_ hp
  have Hw := hid_ hw
  clear hp hw
  go_enter Tryz.func20, Tryz.ntmps20
  go_wp2_with fail
  refine Calls.mono (Hpo.out _) ?_
  rintro e w1 ⟨rfl, hb1⟩
  have B1 := hid_ (B0.out.below hb1 B0.out.lt)
  have Hb1 := hid_ (Ha.out.trans (hb1.mono Ha.out.size))
  have hlt := B1.out.lt
  have B2 := hid_ (B1.out.alloc (.cells (partsCells ⟨true, false, false, false, true, false, false⟩) 75))
  have P2 := hid_ (whole_new w1 75 (partsCells ⟨true, false, false, false, true, false, false⟩))
  clear hb1
  obtain ⟨x0, x1, x2, x3, x4, x5, x6, x7, x8, x9, x10⟩ := pack_facts B1.out
  dsimp only at x0 x1 x2 x3 x4 x5 x6 x7 x8 x9 x10
  have hne : w.heap.size ≠ w1.heap.size := by omega
  have S0 := hid_ (wr_start (w1.alloc (.cells (partsCells ⟨true, false, false, false, true, false, false⟩) 75)) ⟨2, tr, bn, bd, sn, sd, v, ok, l1, l2, l3⟩ 2 2 ([tr].flatMap eight ++ (byteI (l1.length : Int) :: (l1.flatMap putF ++ []))) (by rw [Hwf.out]) (by rfl) Hle.out (w1.heap.size + 1) (by simp))
  go_wp2_with fail
  refine Calls.mono (step_nums ([tr] : List Nat) S0.out (by simp) _ rfl _ rfl (by simp) _ (by simp)) ?_
  rintro e w3 ⟨A3, n3, c3, rfl, S3, -⟩
  have S3 := hid_ S3
  have B3 := hid_ (B2.out.below S3.out.below (by simpa using B2.out.lt))
  have P3 := hid_ (P2.out.below S3.out.below (by simp))
  have hz3 : w1.heap.size + 1 ≤ w3.heap.size := by have := S3.out.size; simp at this; omega
  clear x0 x1 x2 x3 x4 x5 x6 x7 x8 x9 x10
  obtain ⟨x0, x1, x2, x3, x4, x5, x6, x7, x8, x9, x10⟩ := pack_facts B3.out
  obtain ⟨z0, z1, z2, z3, z4, z5, z6⟩ := part_facts P3.out
  dsimp only at x0 x1 x2 x3 x4 x5 x6 x7 x8 x9 x10
  have hn3 := S3.out.n_le
  go_wp2_with (at_builtin; refine wpList_bytes rfl (.tmp 59) (.tmp 64) rfl (w1.heap.size + 1) A3 n3 c3 _ rfl (S3.out.own.alloc _) (some ⟨w3.heap.size, 0, none⟩) 1 1 [byteI (l1.length : Int)] rfl (own_lit_at w3 [byteI (l1.length : Int)] _ (byte_lit (by omega)) (w3.heap.size) rfl).sl (n3 + 1) _ rfl rfl (by omega) (by simp <;> omega) ?_; intro A4 c4 w4 ho' hb'; have S4 := hid_ (wr_byte S3.out ho' ((S3.out.below.alloc hz3 _).trans hb')); clear ho' hb'; have B4 := hid_ (B2.out.below S4.out.below (by simpa using B2.out.lt)); have P4 := hid_ (P2.out.below S4.out.below (by simp)); have hz4 : w1.heap.size + 1 ≤ w4.heap.size := (by have := S4.out.size; simp at this; omega); clear x0 x1 x2 x3 x4 x5 x6 x7 x8 x9 x10; clear z0 z1 z2 z3 z4 z5 z6; obtain ⟨x0, x1, x2, x3, x4, x5, x6, x7, x8, x9, x10⟩ := pack_facts B4.out; obtain ⟨z0, z1, z2, z3, z4, z5, z6⟩ := part_facts P4.out; dsimp only at x0 x1 x2 x3 x4 x5 x6 x7 x8 x9 x10)
  have Hbw := hid_ (fun (W : World) (hb : Below (w1.heap.size + 1) (w1.alloc (.cells (partsCells ⟨true, false, false, false, true, false, false⟩) 75)) W) => (Hb1.out.alloc Hb1.out.size (.cells (partsCells ⟨true, false, false, false, true, false, false⟩) 75)).trans (hb.mono (by have := Hb1.out.size; omega)))
  have Hrw := hid_ (fun (W : World) (hb : Below (w1.heap.size + 1) (w1.alloc (.cells (partsCells ⟨true, false, false, false, true, false, false⟩) 75)) W) => Hp.out.r1.below (Hbw.out W hb))
  have u1 := Hp.out.r1.cap
  have u2 := Hp.out.r1.max
  dsimp only at u1 u2
  obtain ⟨pre, S4'⟩ : ∃ pre, Hid (Wr (w1.heap.size + 1) (w1.alloc (.cells (partsCells ⟨true, false, false, false, true, false, false⟩) 75)) w4 A4 (n3 + 1) c4 ⟨2, tr, bn, bd, sn, sd, v, ok, l1, l2, l3⟩ pre (l1.flatMap putF)) := ⟨_, hid_ (S4.out.to rfl (List.append_nil _))⟩
  go_loopw [4, 69] (fun va i wr => ∃ (k : Nat) (A : Option Addr) (n c : Nat), k ≤ l1.length ∧ i = .int .i64 (k : Nat) ∧ va = .slice A n c ∧ Hid (Wr (w1.heap.size + 1) (w1.alloc (.cells (partsCells ⟨true, false, false, false, true, false, false⟩) 75)) wr A n c ⟨2, tr, bn, bd, sn, sd, v, ok, l1, l2, l3⟩ (pre ++ (l1.take k).flatMap putF) ((l1.drop k).flatMap putF)) ∧ w1.heap.size + 1 ≤ wr.heap.size) (fun _ i _ => l1.length - (intOf i).toNat)
  case atStart => exact ⟨0, A4, n3 + 1, c4, by omega, rfl, rfl, hid_ (S4'.out.to (by simp) (by simp)), hz4⟩
  case round =>
    obtain ⟨k, A, n, c, hk, rfl, rfl, S, hz⟩ := hrel
    have Bk := hid_ (B2.out.below S.out.below (by simpa using B2.out.lt))
    have Pk := hid_ (P2.out.below S.out.below (by simp))
    clear x0 x1 x2 x3 x4 x5 x6 x7 x8 x9 x10 z0 z1 z2 z3 z4 z5 z6
    obtain ⟨x0, x1, x2, x3, x4, x5, x6, x7, x8, x9, x10⟩ := pack_facts Bk.out
    obtain ⟨z0, z1, z2, z3, z4, z5, z6⟩ := part_facts Pk.out
    dsimp only at x0 x1 x2 x3 x4 x5 x6 x7 x8 x9 x10
    by_cases hlt : k < l1.length
    · have hrow := Hrw.out wr S.out.below
      dsimp only at hrow
      obtain ⟨b, off, ha, hc⟩ := hrow.at_ hlt
      subst ha
      obtain ⟨c0, c1, c2, c3, c4, c5, c6, c7⟩ := hc
      have y1 : (k : Int) < (l1.length : Int) := by omega
      have y2 : (0 : Int) ≤ (k : Int) := by omega
      have Hdr := hid_ (flat_cons putF l1 hlt)
      have Htk := hid_ (show (l1.take (k + 1)).flatMap putF = (l1.take k).flatMap putF ++ putF l1[k] by rw [List.take_succ_eq_append_getElem hlt, List.flatMap_append, List.flatMap_cons, List.flatMap_nil, List.append_nil])
      have Hxw := hid_ (Hw.out.spans l1[k] (List.getElem_mem hlt))
      have Hxr := hid_ (Hr.out.spans2 l1[k] (List.getElem_mem hlt))
      generalize l1[k] = x at *
      go_wp2_with fail
      refine Calls.mono (step_span x ((S.out.to rfl Hdr.out).alloc hz _) (by simp; omega) Hxw.out Hxr.out) ?_
      rintro e w5 ⟨A5, n5, c5, rfl, S5⟩
      have S5 := hid_ S5
      go_wp2_with fail
      go_roundw
      case rel => exact ⟨k + 1, A5, n5, c5, by omega, by go_num, rfl, hid_ (S5.out.to (by rw [Htk.out, List.append_assoc]) rfl), by have := S5.out.size; simp at this; omega⟩
      case measure => simp [intOf]; omega
    · obtain rfl : k = l1.length := by omega
      go_wp2_with fail
      go_ret
      exact (S.out.to rfl (by simp)).done (by have := Hb1.out.size; omega) (Hb1.out.alloc Hb1.out.size _)
set_option maxRecDepth 100000 in
set_option maxHeartbeats 8000000 in
theorem written3_any (p : PackD) (s : PackS) (w : World) (hp : PackIn w p s) (hw : p.Wf) (hr : RightD p) (hk : p.kind = 3) : Calls Tryz.prog 20 #[packVal p s] w (RowPost w.heap.size w (writtenF p)) := by
  have Hle := hid_ (written_le hr).2
  have Hwf := hid_ (show writtenF p = byteI 3 :: (byteI (p.members.length : Int) :: (p.members.flatMap memB ++ [])) by unfold writtenF; rw [hk, parts_3]; simp [optB])
  have hv1 := hr.v.1
  have hv2 := hr.v.2
  have q1 := hr.spans1
  have q2 := hr.members1
  have q3 := hr.ids1
  have Hr := hid_ hr
  clear hr
  obtain ⟨k, tr, bn, bd, sn, sd, v, ok, l1, l2, l3⟩ := p
  obtain ⟨a1, e1, a2, e2, a3, e3⟩ := s
  simp only at hk hv1 hv2 q1 q2 q3 Hwf Hle
  subst hk
  have Ha := hid_ (show Below w.heap.size w (w.alloc (.cells (packCells ⟨3, tr, bn, bd, sn, sd, v, ok, l1, l2, l3⟩ ⟨a1, e1, a2, e2, a3, e3⟩) 30)) from (Below.refl _ _).alloc (Nat.le_refl _) _)
  have B0 := hid_ (whole_new w 30 (packCells ⟨3, tr, bn, bd, sn, sd, v, ok, l1, l2, l3⟩ ⟨a1, e1, a2, e2, a3, e3⟩))
  have Hpo := hid_ (fun W => partsof_any 3 W)
  rw [parts_3] at Hpo
  unfold PartsPost at Hpo
  have Hp := hid_ hp
  have Hw := hid_ hw
  clear hp hw
  go_enter Tryz.func20, Tryz.ntmps20
  go_wp2_with fail
  refine Calls.mono (Hpo.out _) ?_
  rintro e w1 ⟨rfl, hb1⟩
  have B1 := hid_ (B0.out.below hb1 B0.out.lt)
  have Hb1 := hid_ (Ha.out.trans (hb1.mono Ha.out.size))
  have hlt := B1.out.lt
  have B2 := hid_ (B1.out.alloc (.cells (partsCells ⟨false, false, false, false, false, true, false⟩) 75))
  have P2 := hid_ (whole_new w1 75 (partsCells ⟨false, false, false, false, false, true, false⟩))
  clear hb1
  obtain ⟨x0, x1, x2, x3, x4, x5, x6, x7, x8, x9, x10⟩ := pack_facts B1.out
  dsimp only at x0 x1 x2 x3 x4 x5 x6 x7 x8 x9 x10
  have hne : w.heap.size ≠ w1.heap.size := by omega
  have S0 := hid_ (wr_start (w1.alloc (.cells (partsCells ⟨false, false, false, false, false, true, false⟩) 75)) ⟨3, tr, bn, bd, sn, sd, v, ok, l1, l2, l3⟩ 3 3 (byteI (l2.length : Int) :: (l2.flatMap memB ++ [])) (by rw [Hwf.out]) (by rfl) Hle.out (w1.heap.size + 1) (by simp))
  have hn2 := S0.out.n_le
  go_wp2_with (at_builtin; refine wpList_bytes rfl (.tmp 82) (.tmp 87) rfl (w1.heap.size + 1) (some ⟨w1.heap.size + 1, 0, none⟩) 1 1 _ rfl (S0.out.own.alloc _) (some ⟨w1.heap.size + 1 + 1, 0, none⟩) 1 1 [byteI (l2.length : Int)] rfl (own_lit_at ((w1.alloc (.cells (partsCells ⟨false, false, false, false, false, true, false⟩) 75)).alloc (.cells #[.int .u8 3] 5)) [byteI (l2.length : Int)] _ (byte_lit (by omega)) (w1.heap.size + 1 + 1) (by simp)).sl (1 + 1) _ rfl rfl (by omega) (by simp <;> omega) ?_; intro A3 c3 w3 ho' hb'; have S3 := hid_ (wr_byte S0.out ho' ((S0.out.below.alloc (by simp) _).trans hb')); clear ho' hb'; have B3 := hid_ (B2.out.below S3.out.below (by simpa using B2.out.lt)); have P3 := hid_ (P2.out.below S3.out.below (by simp)); have hz3 : w1.heap.size + 1 ≤ w3.heap.size := (by have := S3.out.size; simp at this; omega); clear x0 x1 x2 x3 x4 x5 x6 x7 x8 x9 x10; obtain ⟨x0, x1, x2, x3, x4, x5, x6, x7, x8, x9, x10⟩ := pack_facts B3.out; obtain ⟨z0, z1, z2, z3, z4, z5, z6⟩ := part_facts P3.out; dsimp only at x0 x1 x2 x3 x4 x5 x6 x7 x8 x9 x10)
  have Hbw := hid_ (fun (W : World) (hb : Below (w1.heap.size + 1) (w1.alloc (.cells (partsCells ⟨false, false, false, false, false, true, false⟩) 75)) W) => (Hb1.out.alloc Hb1.out.size (.cells (partsCells ⟨false, false, false, false, false, true, false⟩) 75)).trans (hb.mono (by have := Hb1.out.size; omega)))
  have Hrw := hid_ (fun (W : World) (hb : Below (w1.heap.size + 1) (w1.alloc (.cells (partsCells ⟨false, false, false, false, false, true, false⟩) 75)) W) => Hp.out.r2.below (Hbw.out W hb))
  have u1 := Hp.out.r2.cap
  have u2 := Hp.out.r2.max
  dsimp only at u1 u2
  obtain ⟨pre, S3'⟩ : ∃ pre, Hid (Wr (w1.heap.size + 1) (w1.alloc (.cells (partsCells ⟨false, false, false, false, false, true, false⟩) 75)) w3 A3 (1 + 1) c3 ⟨3, tr, bn, bd, sn, sd, v, ok, l1, l2, l3⟩ pre (l2.flatMap memB)) := ⟨_, hid_ (S3.out.to rfl (List.append_nil _))⟩
  go_loopw [4, 92] (fun va i wr => ∃ (k : Nat) (A : Option Addr) (n c : Nat), k ≤ l2.length ∧ i = .int .i64 (k : Nat) ∧ va = .slice A n c ∧ Hid (Wr (w1.heap.size + 1) (w1.alloc (.cells (partsCells ⟨false, false, false, false, false, true, false⟩) 75)) wr A n c ⟨3, tr, bn, bd, sn, sd, v, ok, l1, l2, l3⟩ (pre ++ (l2.take k).flatMap memB) ((l2.drop k).flatMap memB)) ∧ w1.heap.size + 1 ≤ wr.heap.size) (fun _ i _ => l2.length - (intOf i).toNat)
  case atStart => exact ⟨0, A3, 1 + 1, c3, by omega, rfl, rfl, hid_ (S3'.out.to (by simp) (by simp)), hz3⟩
  case round =>
    obtain ⟨k, A, n, c, hk, rfl, rfl, S, hz⟩ := hrel
    have Bk := hid_ (B2.out.below S.out.below (by simpa using B2.out.lt))
    have Pk := hid_ (P2.out.below S.out.below (by simp))
    clear x0 x1 x2 x3 x4 x5 x6 x7 x8 x9 x10 z0 z1 z2 z3 z4 z5 z6
    obtain ⟨x0, x1, x2, x3, x4, x5, x6, x7, x8, x9, x10⟩ := pack_facts Bk.out
    obtain ⟨z0, z1, z2, z3, z4, z5, z6⟩ := part_facts Pk.out
    dsimp only at x0 x1 x2 x3 x4 x5 x6 x7 x8 x9 x10
    by_cases hlt : k < l2.length
    · have hrow := Hrw.out wr S.out.below
      dsimp only at hrow
      obtain ⟨b, off, ha, hc⟩ := hrow.at_ hlt
      subst ha
      obtain ⟨c0, c1, c2⟩ := hc
      have y1 : (k : Int) < (l2.length : Int) := by omega
      have y2 : (0 : Int) ≤ (k : Int) := by omega
      have Hdr := hid_ (flat_cons memB l2 hlt)
      have Htk := hid_ (show (l2.take (k + 1)).flatMap memB = (l2.take k).flatMap memB ++ memB l2[k] by rw [List.take_succ_eq_append_getElem hlt, List.flatMap_append, List.flatMap_cons, List.flatMap_nil, List.append_nil])
      have Hxr := Hr.out.members2 l2[k] (List.getElem_mem hlt)
      have hs0 := Hxr.1
      have hs2 := Hxr.2
      clear Hxr
      generalize l2[k] = x at *
      have hAne : ∀ a, A = some a → a.block ≠ wr.heap.size := by
        rintro a rfl
        obtain ⟨g, hg, _, h3⟩ := S.out.own.place S.out.pos
        cases hg
        show g ≠ _
        omega
      have HA := hid_ hAne
      clear hAne
      go_wp2_with fail
      refine Calls.mono (step_nums ([x.id, x.inc] : List Nat) (post := byteI x.state :: (l2.drop (k + 1)).flatMap memB) ((S.out.to rfl (by rw [Hdr.out]; simp [memB])).alloc hz _) (by simp; omega) _ rfl _ rfl (by simp) _ (by simp)) ?_
      rintro e w5 ⟨A5, n5, c5, rfl, S5, hot⟩
      have S5 := hid_ S5
      have Hbox : Hid (Whole w5 wr.heap.size 64 (memCells x)) := hid_ ((hot wr.heap.size (by simp; omega) HA.out).trans ((whole_new wr _ _).alloc _))
      have hz5 : w1.heap.size + 1 ≤ w5.heap.size := by have := S5.out.size; simp at this; omega
      have hn5 := S5.out.n_le
      have v2 := Hbox.out.cell 2 (.int .i64 x.state) rfl
      clear hot c0 c1 c2
      go_wp2_with (at_builtin; refine wpList_bytes rfl (.tmp 103) (.tmp 107) rfl (w1.heap.size + 1) A5 n5 c5 _ rfl (S5.out.own.alloc _) (some ⟨w5.heap.size, 0, none⟩) 1 1 [byteI x.state] rfl (own_lit_at w5 [byteI x.state] _ (byte_lit (by omega)) (w5.heap.size) rfl).sl (n5 + 1) _ rfl rfl (by omega) (by simp; omega) ?_; intro A6 c6 w6 ho' hb'; have S6 := hid_ (wr_byte S5.out ho' ((S5.out.below.alloc hz5 _).trans hb')); clear ho' hb')
      go_roundw
      case rel => exact ⟨k + 1, A6, n5 + 1, c6, by omega, by go_num, rfl, hid_ (S6.out.to (by rw [Htk.out]; simp [memB]) rfl), by have := S6.out.size; simp at this; omega⟩
      case measure => simp [intOf]; omega
    · obtain rfl : k = l2.length := by omega
      go_wp2_with fail
      go_ret
      exact (S.out.to rfl (by simp)).done (by have := Hb1.out.size; omega) (Hb1.out.alloc Hb1.out.size _)
set_option maxRecDepth 100000 in
set_option maxHeartbeats 8000000 in
theorem written4_any (p : PackD) (s : PackS) (w : World) (hp : PackIn w p s) (hw : p.Wf) (hr : RightD p) (hk : p.kind = 4) : Calls Tryz.prog 20 #[packVal p s] w (RowPost w.heap.size w (writtenF p)) := by
  have Hle := hid_ (written_le hr).2
  have Hwf := hid_ (show writtenF p = byteI 4 :: ([p.trace].flatMap eight ++ ([p.bn, p.bnode].flatMap eight ++ [])) by unfold writtenF; rw [hk, parts_4]; simp [optB])
  have hv1 := hr.v.1
  have hv2 := hr.v.2
  have q1 := hr.spans1
  have q2 := hr.members1
  have q3 := hr.ids1
  have Hr := hid_ hr
  clear hr
  obtain ⟨k, tr, bn, bd, sn, sd, v, ok, l1, l2, l3⟩ := p
  obtain ⟨a1, e1, a2, e2, a3, e3⟩ := s
  simp only at hk hv1 hv2 q1 q2 q3 Hwf Hle
  subst hk
  have Ha := hid_ (show Below w.heap.size w (w.alloc (.cells (packCells ⟨4, tr, bn, bd, sn, sd, v, ok, l1, l2, l3⟩ ⟨a1, e1, a2, e2, a3, e3⟩) 30)) from (Below.refl _ _).alloc (Nat.le_refl _) _)
  have B0 := hid_ (whole_new w 30 (packCells ⟨4, tr, bn, bd, sn, sd, v, ok, l1, l2, l3⟩ ⟨a1, e1, a2, e2, a3, e3⟩))
  have Hpo := hid_ (fun W => partsof_any 4 W)
  rw [parts_4] at Hpo
  unfold PartsPost at Hpo
  have Hp := hid_ hp
  have Hw := hid_ hw
  clear hp hw
  go_enter Tryz.func20, Tryz.ntmps20
  go_wp2_with fail
  refine Calls.mono (Hpo.out _) ?_
  rintro e w1 ⟨rfl, hb1⟩
  have B1 := hid_ (B0.out.below hb1 B0.out.lt)
  have Hb1 := hid_ (Ha.out.trans (hb1.mono Ha.out.size))
  have hlt := B1.out.lt
  have B2 := hid_ (B1.out.alloc (.cells (partsCells ⟨true, true, false, false, false, false, false⟩) 75))
  have P2 := hid_ (whole_new w1 75 (partsCells ⟨true, true, false, false, false, false, false⟩))
  clear hb1
  obtain ⟨x0, x1, x2, x3, x4, x5, x6, x7, x8, x9, x10⟩ := pack_facts B1.out
  dsimp only at x0 x1 x2 x3 x4 x5 x6 x7 x8 x9 x10
  have hne : w.heap.size ≠ w1.heap.size := by omega
  have S0 := hid_ (wr_start (w1.alloc (.cells (partsCells ⟨true, true, false, false, false, false, false⟩) 75)) ⟨4, tr, bn, bd, sn, sd, v, ok, l1, l2, l3⟩ 4 4 ([tr].flatMap eight ++ ([bn, bd].flatMap eight ++ [])) (by rw [Hwf.out]) (by rfl) Hle.out (w1.heap.size + 1) (by simp))
  go_wp2_with fail
  refine Calls.mono (step_nums ([tr] : List Nat) S0.out (by simp) _ rfl _ rfl (by simp) _ (by simp)) ?_
  rintro e w3 ⟨A3, n3, c3, rfl, S3, -⟩
  have S3 := hid_ S3
  have B3 := hid_ (B2.out.below S3.out.below (by simpa using B2.out.lt))
  have P3 := hid_ (P2.out.below S3.out.below (by simp))
  have hz3 : w1.heap.size + 1 ≤ w3.heap.size := by have := S3.out.size; simp at this; omega
  clear x0 x1 x2 x3 x4 x5 x6 x7 x8 x9 x10
  obtain ⟨x0, x1, x2, x3, x4, x5, x6, x7, x8, x9, x10⟩ := pack_facts B3.out
  obtain ⟨z0, z1, z2, z3, z4, z5, z6⟩ := part_facts P3.out
  dsimp only at x0 x1 x2 x3 x4 x5 x6 x7 x8 x9 x10
  go_wp2_with fail
  refine Calls.mono (step_nums ([bn, bd] : List Nat) S3.out hz3 _ rfl _ rfl (by simp) _ rfl) ?_
  rintro e w4 ⟨A4, n4, c4, rfl, S4, -⟩
  have S4 := hid_ S4
  have B4 := hid_ (B2.out.below S4.out.below (by simpa using B2.out.lt))
  have P4 := hid_ (P2.out.below S4.out.below (by simp))
  have hz4 : w1.heap.size + 1 ≤ w4.heap.size := by have := S4.out.size; simp at this; omega
  clear x0 x1 x2 x3 x4 x5 x6 x7 x8 x9 x10
  clear z0 z1 z2 z3 z4 z5 z6
  obtain ⟨x0, x1, x2, x3, x4, x5, x6, x7, x8, x9, x10⟩ := pack_facts B4.out
  obtain ⟨z0, z1, z2, z3, z4, z5, z6⟩ := part_facts P4.out
  dsimp only at x0 x1 x2 x3 x4 x5 x6 x7 x8 x9 x10
  go_wp2_with fail
  go_ret
  exact S4.out.done (by have := Hb1.out.size; omega) (Hb1.out.alloc Hb1.out.size _)
set_option maxRecDepth 100000 in
set_option maxHeartbeats 8000000 in
theorem written5_any (p : PackD) (s : PackS) (w : World) (hp : PackIn w p s) (hw : p.Wf) (hr : RightD p) (hk : p.kind = 5) : Calls Tryz.prog 20 #[packVal p s] w (RowPost w.heap.size w (writtenF p)) := by
  have Hle := hid_ (written_le hr).2
  have Hwf := hid_ (show writtenF p = byteI 5 :: ([p.trace].flatMap eight ++ ([p.bn, p.bnode].flatMap eight ++ (flag p.ok :: ([p.sn, p.snode].flatMap eight ++ (byteI p.v :: []))))) by unfold writtenF; rw [hk, parts_5]; simp [optB])
  have hv1 := hr.v.1
  have hv2 := hr.v.2
  have q1 := hr.spans1
  have q2 := hr.members1
  have q3 := hr.ids1
  have Hr := hid_ hr
  clear hr
  obtain ⟨k, tr, bn, bd, sn, sd, v, ok, l1, l2, l3⟩ := p
  obtain ⟨a1, e1, a2, e2, a3, e3⟩ := s
  simp only at hk hv1 hv2 q1 q2 q3 Hwf Hle
  subst hk
  have Ha := hid_ (show Below w.heap.size w (w.alloc (.cells (packCells ⟨5, tr, bn, bd, sn, sd, v, ok, l1, l2, l3⟩ ⟨a1, e1, a2, e2, a3, e3⟩) 30)) from (Below.refl _ _).alloc (Nat.le_refl _) _)
  have B0 := hid_ (whole_new w 30 (packCells ⟨5, tr, bn, bd, sn, sd, v, ok, l1, l2, l3⟩ ⟨a1, e1, a2, e2, a3, e3⟩))
  have Hpo := hid_ (fun W => partsof_any 5 W)
  rw [parts_5] at Hpo
  unfold PartsPost at Hpo
  have Hp := hid_ hp
  have Hw := hid_ hw
  clear hp hw
  go_enter Tryz.func20, Tryz.ntmps20
  go_wp2_with fail
  refine Calls.mono (Hpo.out _) ?_
  rintro e w1 ⟨rfl, hb1⟩
  have B1 := hid_ (B0.out.below hb1 B0.out.lt)
  have Hb1 := hid_ (Ha.out.trans (hb1.mono Ha.out.size))
  have hlt := B1.out.lt
  have B2 := hid_ (B1.out.alloc (.cells (partsCells ⟨true, true, true, true, false, false, false⟩) 75))
  have P2 := hid_ (whole_new w1 75 (partsCells ⟨true, true, true, true, false, false, false⟩))
  clear hb1
  obtain ⟨x0, x1, x2, x3, x4, x5, x6, x7, x8, x9, x10⟩ := pack_facts B1.out
  dsimp only at x0 x1 x2 x3 x4 x5 x6 x7 x8 x9 x10
  have hne : w.heap.size ≠ w1.heap.size := by omega
  have S0 := hid_ (wr_start (w1.alloc (.cells (partsCells ⟨true, true, true, true, false, false, false⟩) 75)) ⟨5, tr, bn, bd, sn, sd, v, ok, l1, l2, l3⟩ 5 5 ([tr].flatMap eight ++ ([bn, bd].flatMap eight ++ (flag ok :: ([sn, sd].flatMap eight ++ (byteI v :: []))))) (by rw [Hwf.out]) (by rfl) Hle.out (w1.heap.size + 1) (by simp))
  go_wp2_with fail
  refine Calls.mono (step_nums ([tr] : List Nat) S0.out (by simp) _ rfl _ rfl (by simp) _ (by simp)) ?_
  rintro e w3 ⟨A3, n3, c3, rfl, S3, -⟩
  have S3 := hid_ S3
  have B3 := hid_ (B2.out.below S3.out.below (by simpa using B2.out.lt))
  have P3 := hid_ (P2.out.below S3.out.below (by simp))
  have hz3 : w1.heap.size + 1 ≤ w3.heap.size := by have := S3.out.size; simp at this; omega
  clear x0 x1 x2 x3 x4 x5 x6 x7 x8 x9 x10
  obtain ⟨x0, x1, x2, x3, x4, x5, x6, x7, x8, x9, x10⟩ := pack_facts B3.out
  obtain ⟨z0, z1, z2, z3, z4, z5, z6⟩ := part_facts P3.out
  dsimp only at x0 x1 x2 x3 x4 x5 x6 x7 x8 x9 x10
  go_wp2_with fail
  refine Calls.mono (step_nums ([bn, bd] : List Nat) S3.out hz3 _ rfl _ rfl (by simp) _ rfl) ?_
  rintro e w4 ⟨A4, n4, c4, rfl, S4, -⟩
  have S4 := hid_ S4
  have B4 := hid_ (B2.out.below S4.out.below (by simpa using B2.out.lt))
  have P4 := hid_ (P2.out.below S4.out.below (by simp))
  have hz4 : w1.heap.size + 1 ≤ w4.heap.size := by have := S4.out.size; simp at this; omega
  clear x0 x1 x2 x3 x4 x5 x6 x7 x8 x9 x10
  clear z0 z1 z2 z3 z4 z5 z6
  obtain ⟨x0, x1, x2, x3, x4, x5, x6, x7, x8, x9, x10⟩ := pack_facts B4.out
  obtain ⟨z0, z1, z2, z3, z4, z5, z6⟩ := part_facts P4.out
  dsimp only at x0 x1 x2 x3 x4 x5 x6 x7 x8 x9 x10
  go_wp2_with fail
  refine Calls.mono (step_truth ok S4.out hz4) ?_
  rintro e w5 ⟨A5, n5, c5, rfl, S5⟩
  have S5 := hid_ S5
  have B5 := hid_ (B2.out.below S5.out.below (by simpa using B2.out.lt))
  have P5 := hid_ (P2.out.below S5.out.below (by simp))
  have hz5 : w1.heap.size + 1 ≤ w5.heap.size := by have := S5.out.size; simp at this; omega
  clear x0 x1 x2 x3 x4 x5 x6 x7 x8 x9 x10
  clear z0 z1 z2 z3 z4 z5 z6
  obtain ⟨x0, x1, x2, x3, x4, x5, x6, x7, x8, x9, x10⟩ := pack_facts B5.out
  obtain ⟨z0, z1, z2, z3, z4, z5, z6⟩ := part_facts P5.out
  dsimp only at x0 x1 x2 x3 x4 x5 x6 x7 x8 x9 x10
  go_wp2_with fail
  refine Calls.mono (step_nums ([sn, sd] : List Nat) S5.out hz5 _ rfl _ rfl (by simp) _ rfl) ?_
  rintro e w6 ⟨A6, n6, c6, rfl, S6, -⟩
  have S6 := hid_ S6
  have B6 := hid_ (B2.out.below S6.out.below (by simpa using B2.out.lt))
  have P6 := hid_ (P2.out.below S6.out.below (by simp))
  have hz6 : w1.heap.size + 1 ≤ w6.heap.size := by have := S6.out.size; simp at this; omega
  clear x0 x1 x2 x3 x4 x5 x6 x7 x8 x9 x10
  clear z0 z1 z2 z3 z4 z5 z6
  obtain ⟨x0, x1, x2, x3, x4, x5, x6, x7, x8, x9, x10⟩ := pack_facts B6.out
  obtain ⟨z0, z1, z2, z3, z4, z5, z6⟩ := part_facts P6.out
  dsimp only at x0 x1 x2 x3 x4 x5 x6 x7 x8 x9 x10
  have hn6 := S6.out.n_le
  go_wp2_with (at_builtin; refine wpList_bytes rfl (.tmp 51) (.tmp 55) rfl (w1.heap.size + 1) A6 n6 c6 _ rfl (S6.out.own.alloc _) (some ⟨w6.heap.size, 0, none⟩) 1 1 [byteI v] rfl (own_lit_at w6 [byteI v] _ (byte_lit (by omega)) (w6.heap.size) rfl).sl (n6 + 1) _ rfl rfl (by omega) (by simp <;> omega) ?_; intro A7 c7 w7 ho' hb'; have S7 := hid_ (wr_byte S6.out ho' ((S6.out.below.alloc hz6 _).trans hb')); clear ho' hb'; have B7 := hid_ (B2.out.below S7.out.below (by simpa using B2.out.lt)); have P7 := hid_ (P2.out.below S7.out.below (by simp)); have hz7 : w1.heap.size + 1 ≤ w7.heap.size := (by have := S7.out.size; simp at this; omega); clear x0 x1 x2 x3 x4 x5 x6 x7 x8 x9 x10; clear z0 z1 z2 z3 z4 z5 z6; obtain ⟨x0, x1, x2, x3, x4, x5, x6, x7, x8, x9, x10⟩ := pack_facts B7.out; obtain ⟨z0, z1, z2, z3, z4, z5, z6⟩ := part_facts P7.out; dsimp only at x0 x1 x2 x3 x4 x5 x6 x7 x8 x9 x10)
  go_ret
  exact S7.out.done (by have := Hb1.out.size; omega) (Hb1.out.alloc Hb1.out.size _)
set_option maxRecDepth 100000 in
set_option maxHeartbeats 8000000 in
theorem written6_any (p : PackD) (s : PackS) (w : World) (hp : PackIn w p s) (hw : p.Wf) (hr : RightD p) (hk : p.kind = 6) : Calls Tryz.prog 20 #[packVal p s] w (RowPost w.heap.size w (writtenF p)) := by
  have Hle := hid_ (written_le hr).2
  have Hwf := hid_ (show writtenF p = byteI 6 :: ([p.trace].flatMap eight ++ ([p.bn, p.bnode].flatMap eight ++ (byteI p.v :: []))) by unfold writtenF; rw [hk, parts_6]; simp [optB])
  have hv1 := hr.v.1
  have hv2 := hr.v.2
  have q1 := hr.spans1
  have q2 := hr.members1
  have q3 := hr.ids1
  have Hr := hid_ hr
  clear hr
  obtain ⟨k, tr, bn, bd, sn, sd, v, ok, l1, l2, l3⟩ := p
  obtain ⟨a1, e1, a2, e2, a3, e3⟩ := s
  simp only at hk hv1 hv2 q1 q2 q3 Hwf Hle
  subst hk
  have Ha := hid_ (show Below w.heap.size w (w.alloc (.cells (packCells ⟨6, tr, bn, bd, sn, sd, v, ok, l1, l2, l3⟩ ⟨a1, e1, a2, e2, a3, e3⟩) 30)) from (Below.refl _ _).alloc (Nat.le_refl _) _)
  have B0 := hid_ (whole_new w 30 (packCells ⟨6, tr, bn, bd, sn, sd, v, ok, l1, l2, l3⟩ ⟨a1, e1, a2, e2, a3, e3⟩))
  have Hpo := hid_ (fun W => partsof_any 6 W)
  rw [parts_6] at Hpo
  unfold PartsPost at Hpo
  have Hp := hid_ hp
  have Hw := hid_ hw
  clear hp hw
  go_enter Tryz.func20, Tryz.ntmps20
  go_wp2_with fail
  refine Calls.mono (Hpo.out _) ?_
  rintro e w1 ⟨rfl, hb1⟩
  have B1 := hid_ (B0.out.below hb1 B0.out.lt)
  have Hb1 := hid_ (Ha.out.trans (hb1.mono Ha.out.size))
  have hlt := B1.out.lt
  have B2 := hid_ (B1.out.alloc (.cells (partsCells ⟨true, true, false, true, false, false, false⟩) 75))
  have P2 := hid_ (whole_new w1 75 (partsCells ⟨true, true, false, true, false, false, false⟩))
  clear hb1
  obtain ⟨x0, x1, x2, x3, x4, x5, x6, x7, x8, x9, x10⟩ := pack_facts B1.out
  dsimp only at x0 x1 x2 x3 x4 x5 x6 x7 x8 x9 x10
  have hne : w.heap.size ≠ w1.heap.size := by omega
  have S0 := hid_ (wr_start (w1.alloc (.cells (partsCells ⟨true, true, false, true, false, false, false⟩) 75)) ⟨6, tr, bn, bd, sn, sd, v, ok, l1, l2, l3⟩ 6 6 ([tr].flatMap eight ++ ([bn, bd].flatMap eight ++ (byteI v :: []))) (by rw [Hwf.out]) (by rfl) Hle.out (w1.heap.size + 1) (by simp))
  go_wp2_with fail
  refine Calls.mono (step_nums ([tr] : List Nat) S0.out (by simp) _ rfl _ rfl (by simp) _ (by simp)) ?_
  rintro e w3 ⟨A3, n3, c3, rfl, S3, -⟩
  have S3 := hid_ S3
  have B3 := hid_ (B2.out.below S3.out.below (by simpa using B2.out.lt))
  have P3 := hid_ (P2.out.below S3.out.below (by simp))
  have hz3 : w1.heap.size + 1 ≤ w3.heap.size := by have := S3.out.size; simp at this; omega
  clear x0 x1 x2 x3 x4 x5 x6 x7 x8 x9 x10
  obtain ⟨x0, x1, x2, x3, x4, x5, x6, x7, x8, x9, x10⟩ := pack_facts B3.out
  obtain ⟨z0, z1, z2, z3, z4, z5, z6⟩ := part_facts P3.out
  dsimp only at x0 x1 x2 x3 x4 x5 x6 x7 x8 x9 x10
  go_wp2_with fail
  refine Calls.mono (step_nums ([bn, bd] : List Nat) S3.out hz3 _ rfl _ rfl (by simp) _ rfl) ?_
  rintro e w4 ⟨A4, n4, c4, rfl, S4, -⟩
  have S4 := hid_ S4
  have B4 := hid_ (B2.out.below S4.out.below (by simpa using B2.out.lt))
  have P4 := hid_ (P2.out.below S4.out.below (by simp))
  have hz4 : w1.heap.size + 1 ≤ w4.heap.size := by have := S4.out.size; simp at this; omega
  clear x0 x1 x2 x3 x4 x5 x6 x7 x8 x9 x10
  clear z0 z1 z2 z3 z4 z5 z6
  obtain ⟨x0, x1, x2, x3, x4, x5, x6, x7, x8, x9, x10⟩ := pack_facts B4.out
  obtain ⟨z0, z1, z2, z3, z4, z5, z6⟩ := part_facts P4.out
  dsimp only at x0 x1 x2 x3 x4 x5 x6 x7 x8 x9 x10
  have hn4 := S4.out.n_le
  go_wp2_with (at_builtin; refine wpList_bytes rfl (.tmp 51) (.tmp 55) rfl (w1.heap.size + 1) A4 n4 c4 _ rfl (S4.out.own.alloc _) (some ⟨w4.heap.size, 0, none⟩) 1 1 [byteI v] rfl (own_lit_at w4 [byteI v] _ (byte_lit (by omega)) (w4.heap.size) rfl).sl (n4 + 1) _ rfl rfl (by omega) (by simp <;> omega) ?_; intro A5 c5 w5 ho' hb'; have S5 := hid_ (wr_byte S4.out ho' ((S4.out.below.alloc hz4 _).trans hb')); clear ho' hb'; have B5 := hid_ (B2.out.below S5.out.below (by simpa using B2.out.lt)); have P5 := hid_ (P2.out.below S5.out.below (by simp)); have hz5 : w1.heap.size + 1 ≤ w5.heap.size := (by have := S5.out.size; simp at this; omega); clear x0 x1 x2 x3 x4 x5 x6 x7 x8 x9 x10; clear z0 z1 z2 z3 z4 z5 z6; obtain ⟨x0, x1, x2, x3, x4, x5, x6, x7, x8, x9, x10⟩ := pack_facts B5.out; obtain ⟨z0, z1, z2, z3, z4, z5, z6⟩ := part_facts P5.out; dsimp only at x0 x1 x2 x3 x4 x5 x6 x7 x8 x9 x10)
  go_ret
  exact S5.out.done (by have := Hb1.out.size; omega) (Hb1.out.alloc Hb1.out.size _)
set_option maxRecDepth 100000 in
set_option maxHeartbeats 8000000 in
theorem written7_any (p : PackD) (s : PackS) (w : World) (hp : PackIn w p s) (hw : p.Wf) (hr : RightD p) (hk : p.kind = 7) : Calls Tryz.prog 20 #[packVal p s] w (RowPost w.heap.size w (writtenF p)) := by
  have Hle := hid_ (written_le hr).2
  have Hwf := hid_ (show writtenF p = byteI 7 :: ([p.trace].flatMap eight ++ ([p.bn, p.bnode].flatMap eight ++ (flag p.ok :: ([p.sn, p.snode].flatMap eight ++ [])))) by unfold writtenF; rw [hk, parts_7]; simp [optB])
  have hv1 := hr.v.1
  have hv2 := hr.v.2
  have q1 := hr.spans1
  have q2 := hr.members1
  have q3 := hr.ids1
  have Hr := hid_ hr
  clear hr
  obtain ⟨k, tr, bn, bd, sn, sd, v, ok, l1, l2, l3⟩ := p
  obtain ⟨a1, e1, a2, e2, a3, e3⟩ := s
  simp only at hk hv1 hv2 q1 q2 q3 Hwf Hle
  subst hk
  have Ha := hid_ (show Below w.heap.size w (w.alloc (.cells (packCells ⟨7, tr, bn, bd, sn, sd, v, ok, l1, l2, l3⟩ ⟨a1, e1, a2, e2, a3, e3⟩) 30)) from (Below.refl _ _).alloc (Nat.le_refl _) _)
  have B0 := hid_ (whole_new w 30 (packCells ⟨7, tr, bn, bd, sn, sd, v, ok, l1, l2, l3⟩ ⟨a1, e1, a2, e2, a3, e3⟩))
  have Hpo := hid_ (fun W => partsof_any 7 W)
  rw [parts_7] at Hpo
  unfold PartsPost at Hpo
  have Hp := hid_ hp
  have Hw := hid_ hw
  clear hp hw
  go_enter Tryz.func20, Tryz.ntmps20
  go_wp2_with fail
  refine Calls.mono (Hpo.out _) ?_
  rintro e w1 ⟨rfl, hb1⟩
  have B1 := hid_ (B0.out.below hb1 B0.out.lt)
  have Hb1 := hid_ (Ha.out.trans (hb1.mono Ha.out.size))
  have hlt := B1.out.lt
  have B2 := hid_ (B1.out.alloc (.cells (partsCells ⟨true, true, true, false, false, false, false⟩) 75))
  have P2 := hid_ (whole_new w1 75 (partsCells ⟨true, true, true, false, false, false, false⟩))
  clear hb1
  obtain ⟨x0, x1, x2, x3, x4, x5, x6, x7, x8, x9, x10⟩ := pack_facts B1.out
  dsimp only at x0 x1 x2 x3 x4 x5 x6 x7 x8 x9 x10
  have hne : w.heap.size ≠ w1.heap.size := by omega
  have S0 := hid_ (wr_start (w1.alloc (.cells (partsCells ⟨true, true, true, false, false, false, false⟩) 75)) ⟨7, tr, bn, bd, sn, sd, v, ok, l1, l2, l3⟩ 7 7 ([tr].flatMap eight ++ ([bn, bd].flatMap eight ++ (flag ok :: ([sn, sd].flatMap eight ++ [])))) (by rw [Hwf.out]) (by rfl) Hle.out (w1.heap.size + 1) (by simp))
  go_wp2_with fail
  refine Calls.mono (step_nums ([tr] : List Nat) S0.out (by simp) _ rfl _ rfl (by simp) _ (by simp)) ?_
  rintro e w3 ⟨A3, n3, c3, rfl, S3, -⟩
  have S3 := hid_ S3
  have B3 := hid_ (B2.out.below S3.out.below (by simpa using B2.out.lt))
  have P3 := hid_ (P2.out.below S3.out.below (by simp))
  have hz3 : w1.heap.size + 1 ≤ w3.heap.size := by have := S3.out.size; simp at this; omega
  clear x0 x1 x2 x3 x4 x5 x6 x7 x8 x9 x10
  obtain ⟨x0, x1, x2, x3, x4, x5, x6, x7, x8, x9, x10⟩ := pack_facts B3.out
  obtain ⟨z0, z1, z2, z3, z4, z5, z6⟩ := part_facts P3.out
  dsimp only at x0 x1 x2 x3 x4 x5 x6 x7 x8 x9 x10
  go_wp2_with fail
  refine Calls.mono (step_nums ([bn, bd] : List Nat) S3.out hz3 _ rfl _ rfl (by simp) _ rfl) ?_
  rintro e w4 ⟨A4, n4, c4, rfl, S4, -⟩
  have S4 := hid_ S4
  have B4 := hid_ (B2.out.below S4.out.below (by simpa using B2.out.lt))
  have P4 := hid_ (P2.out.below S4.out.below (by simp))
  have hz4 : w1.heap.size + 1 ≤ w4.heap.size := by have := S4.out.size; simp at this; omega
  clear x0 x1 x2 x3 x4 x5 x6 x7 x8 x9 x10
  clear z0 z1 z2 z3 z4 z5 z6
  obtain ⟨x0, x1, x2, x3, x4, x5, x6, x7, x8, x9, x10⟩ := pack_facts B4.out
  obtain ⟨z0, z1, z2, z3, z4, z5, z6⟩ := part_facts P4.out
  dsimp only at x0 x1 x2 x3 x4 x5 x6 x7 x8 x9 x10
  go_wp2_with fail
  refine Calls.mono (step_truth ok S4.out hz4) ?_
  rintro e w5 ⟨A5, n5, c5, rfl, S5⟩
  have S5 := hid_ S5
  have B5 := hid_ (B2.out.below S5.out.below (by simpa using B2.out.lt))
  have P5 := hid_ (P2.out.below S5.out.below (by simp))
  have hz5 : w1.heap.size + 1 ≤ w5.heap.size := by have := S5.out.size; simp at this; omega
  clear x0 x1 x2 x3 x4 x5 x6 x7 x8 x9 x10
  clear z0 z1 z2 z3 z4 z5 z6
  obtain ⟨x0, x1, x2, x3, x4, x5, x6, x7, x8, x9, x10⟩ := pack_facts B5.out
  obtain ⟨z0, z1, z2, z3, z4, z5, z6⟩ := part_facts P5.out
  dsimp only at x0 x1 x2 x3 x4 x5 x6 x7 x8 x9 x10
  go_wp2_with fail
  refine Calls.mono (step_nums ([sn, sd] : List Nat) S5.out hz5 _ rfl _ rfl (by simp) _ rfl) ?_
  rintro e w6 ⟨A6, n6, c6, rfl, S6, -⟩
  have S6 := hid_ S6
  have B6 := hid_ (B2.out.below S6.out.below (by simpa using B2.out.lt))
  have P6 := hid_ (P2.out.below S6.out.below (by simp))
  have hz6 : w1.heap.size + 1 ≤ w6.heap.size := by have := S6.out.size; simp at this; omega
  clear x0 x1 x2 x3 x4 x5 x6 x7 x8 x9 x10
  clear z0 z1 z2 z3 z4 z5 z6
  obtain ⟨x0, x1, x2, x3, x4, x5, x6, x7, x8, x9, x10⟩ := pack_facts B6.out
  obtain ⟨z0, z1, z2, z3, z4, z5, z6⟩ := part_facts P6.out
  dsimp only at x0 x1 x2 x3 x4 x5 x6 x7 x8 x9 x10
  go_wp2_with fail
  go_ret
  exact S6.out.done (by have := Hb1.out.size; omega) (Hb1.out.alloc Hb1.out.size _)
set_option maxRecDepth 100000 in
set_option maxHeartbeats 8000000 in
theorem written8_any (p : PackD) (s : PackS) (w : World) (hp : PackIn w p s) (hw : p.Wf) (hr : RightD p) (hk : p.kind = 8) : Calls Tryz.prog 20 #[packVal p s] w (RowPost w.heap.size w (writtenF p)) := by
  have Hle := hid_ (written_le hr).2
  have Hwf := hid_ (show writtenF p = byteI 8 :: ([p.trace].flatMap eight ++ (byteI p.v :: [])) by unfold writtenF; rw [hk, parts_8]; simp [optB])
  have hv1 := hr.v.1
  have hv2 := hr.v.2
  have q1 := hr.spans1
  have q2 := hr.members1
  have q3 := hr.ids1
  have Hr := hid_ hr
  clear hr
  obtain ⟨k, tr, bn, bd, sn, sd, v, ok, l1, l2, l3⟩ := p
  obtain ⟨a1, e1, a2, e2, a3, e3⟩ := s
  simp only at hk hv1 hv2 q1 q2 q3 Hwf Hle
  subst hk
  have Ha := hid_ (show Below w.heap.size w (w.alloc (.cells (packCells ⟨8, tr, bn, bd, sn, sd, v, ok, l1, l2, l3⟩ ⟨a1, e1, a2, e2, a3, e3⟩) 30)) from (Below.refl _ _).alloc (Nat.le_refl _) _)
  have B0 := hid_ (whole_new w 30 (packCells ⟨8, tr, bn, bd, sn, sd, v, ok, l1, l2, l3⟩ ⟨a1, e1, a2, e2, a3, e3⟩))
  have Hpo := hid_ (fun W => partsof_any 8 W)
  rw [parts_8] at Hpo
  unfold PartsPost at Hpo
  have Hp := hid_ hp
  have Hw := hid_ hw
  clear hp hw
  go_enter Tryz.func20, Tryz.ntmps20
  go_wp2_with fail
  refine Calls.mono (Hpo.out _) ?_
  rintro e w1 ⟨rfl, hb1⟩
  have B1 := hid_ (B0.out.below hb1 B0.out.lt)
  have Hb1 := hid_ (Ha.out.trans (hb1.mono Ha.out.size))
  have hlt := B1.out.lt
  have B2 := hid_ (B1.out.alloc (.cells (partsCells ⟨true, false, false, true, false, false, false⟩) 75))
  have P2 := hid_ (whole_new w1 75 (partsCells ⟨true, false, false, true, false, false, false⟩))
  clear hb1
  obtain ⟨x0, x1, x2, x3, x4, x5, x6, x7, x8, x9, x10⟩ := pack_facts B1.out
  dsimp only at x0 x1 x2 x3 x4 x5 x6 x7 x8 x9 x10
  have hne : w.heap.size ≠ w1.heap.size := by omega
  have S0 := hid_ (wr_start (w1.alloc (.cells (partsCells ⟨true, false, false, true, false, false, false⟩) 75)) ⟨8, tr, bn, bd, sn, sd, v, ok, l1, l2, l3⟩ 8 8 ([tr].flatMap eight ++ (byteI v :: [])) (by rw [Hwf.out]) (by rfl) Hle.out (w1.heap.size + 1) (by simp))
  go_wp2_with fail
  refine Calls.mono (step_nums ([tr] : List Nat) S0.out (by simp) _ rfl _ rfl (by simp) _ (by simp)) ?_
  rintro e w3 ⟨A3, n3, c3, rfl, S3, -⟩
  have S3 := hid_ S3
  have B3 := hid_ (B2.out.below S3.out.below (by simpa using B2.out.lt))
  have P3 := hid_ (P2.out.below S3.out.below (by simp))
  have hz3 : w1.heap.size + 1 ≤ w3.heap.size := by have := S3.out.size; simp at this; omega
  clear x0 x1 x2 x3 x4 x5 x6 x7 x8 x9 x10
  obtain ⟨x0, x1, x2, x3, x4, x5, x6, x7, x8, x9, x10⟩ := pack_facts B3.out
  obtain ⟨z0, z1, z2, z3, z4, z5, z6⟩ := part_facts P3.out
  dsimp only at x0 x1 x2 x3 x4 x5 x6 x7 x8 x9 x10
  have hn3 := S3.out.n_le
  go_wp2_with (at_builtin; refine wpList_bytes rfl (.tmp 51) (.tmp 55) rfl (w1.heap.size + 1) A3 n3 c3 _ rfl (S3.out.own.alloc _) (some ⟨w3.heap.size, 0, none⟩) 1 1 [byteI v] rfl (own_lit_at w3 [byteI v] _ (byte_lit (by omega)) (w3.heap.size) rfl).sl (n3 + 1) _ rfl rfl (by omega) (by simp <;> omega) ?_; intro A4 c4 w4 ho' hb'; have S4 := hid_ (wr_byte S3.out ho' ((S3.out.below.alloc hz3 _).trans hb')); clear ho' hb'; have B4 := hid_ (B2.out.below S4.out.below (by simpa using B2.out.lt)); have P4 := hid_ (P2.out.below S4.out.below (by simp)); have hz4 : w1.heap.size + 1 ≤ w4.heap.size := (by have := S4.out.size; simp at this; omega); clear x0 x1 x2 x3 x4 x5 x6 x7 x8 x9 x10; clear z0 z1 z2 z3 z4 z5 z6; obtain ⟨x0, x1, x2, x3, x4, x5, x6, x7, x8, x9, x10⟩ := pack_facts B4.out; obtain ⟨z0, z1, z2, z3, z4, z5, z6⟩ := part_facts P4.out; dsimp only at x0 x1 x2 x3 x4 x5 x6 x7 x8 x9 x10)
  go_ret
  exact S4.out.done (by have := Hb1.out.size; omega) (Hb1.out.alloc Hb1.out.size _)
set_option maxRecDepth 100000 in
set_option maxHeartbeats 8000000 in
theorem written9_any (p : PackD) (s : PackS) (w : World) (hp : PackIn w p s) (hw : p.Wf) (hr : RightD p) (hk : p.kind = 9) : Calls Tryz.prog 20 #[packVal p s] w (RowPost w.heap.size w (writtenF p)) := by
  have Hle := hid_ (written_le hr).2
  have Hwf := hid_ (show writtenF p = byteI 9 :: ([p.trace].flatMap eight ++ ([p.bn, p.bnode].flatMap eight ++ (byteI (p.spans.length : Int) :: (p.spans.flatMap putF ++ [])))) by unfold writtenF; rw [hk, parts_9]; simp [optB])
  have hv1 := hr.v.1
  have hv2 := hr.v.2
  have q1 := hr.spans1
  have q2 := hr.members1
  have q3 := hr.ids1
  have Hr := hid_ hr
  clear hr
  obtain ⟨k, tr, bn, bd, sn, sd, v, ok, l1, l2, l3⟩ := p
  obtain ⟨a1, e1, a2, e2, a3, e3⟩ := s
  simp only at hk hv1 hv2 q1 q2 q3 Hwf Hle
  subst hk
  have Ha := hid_ (show Below w.heap.size w (w.alloc (.cells (packCells ⟨9, tr, bn, bd, sn, sd, v, ok, l1, l2, l3⟩ ⟨a1, e1, a2, e2, a3, e3⟩) 30)) from (Below.refl _ _).alloc (Nat.le_refl _) _)
  have B0 := hid_ (whole_new w 30 (packCells ⟨9, tr, bn, bd, sn, sd, v, ok, l1, l2, l3⟩ ⟨a1, e1, a2, e2, a3, e3⟩))
  have Hpo := hid_ (fun W => partsof_any 9 W)
  rw [parts_9] at Hpo
  unfold PartsPost at Hpo
  have Hp := hid_ hp
  have Hw := hid_ hw
  clear hp hw
  go_enter Tryz.func20, Tryz.ntmps20
  go_wp2_with fail
  refine Calls.mono (Hpo.out _) ?_
  rintro e w1 ⟨rfl, hb1⟩
  have B1 := hid_ (B0.out.below hb1 B0.out.lt)
  have Hb1 := hid_ (Ha.out.trans (hb1.mono Ha.out.size))
  have hlt := B1.out.lt
  have B2 := hid_ (B1.out.alloc (.cells (partsCells ⟨true, true, false, false, true, false, false⟩) 75))
  have P2 := hid_ (whole_new w1 75 (partsCells ⟨true, true, false, false, true, false, false⟩))
  clear hb1
  obtain ⟨x0, x1, x2, x3, x4, x5, x6, x7, x8, x9, x10⟩ := pack_facts B1.out
  dsimp only at x0 x1 x2 x3 x4 x5 x6 x7 x8 x9 x10
  have hne : w.heap.size ≠ w1.heap.size := by omega
  have S0 := hid_ (wr_start (w1.alloc (.cells (partsCells ⟨true, true, false, false, true, false, false⟩) 75)) ⟨9, tr, bn, bd, sn, sd, v, ok, l1, l2, l3⟩ 9 9 ([tr].flatMap eight ++ ([bn, bd].flatMap eight ++ (byteI (l1.length : Int) :: (l1.flatMap putF ++ [])))) (by rw [Hwf.out]) (by rfl) Hle.out (w1.heap.size + 1) (by simp))
  go_wp2_with fail
  refine Calls.mono (step_nums ([tr] : List Nat) S0.out (by simp) _ rfl _ rfl (by simp) _ (by simp)) ?_
  rintro e w3 ⟨A3, n3, c3, rfl, S3, -⟩
  have S3 := hid_ S3
  have B3 := hid_ (B2.out.below S3.out.below (by simpa using B2.out.lt))
  have P3 := hid_ (P2.out.below S3.out.below (by simp))
  have hz3 : w1.heap.size + 1 ≤ w3.heap.size := by have := S3.out.size; simp at this; omega
  clear x0 x1 x2 x3 x4 x5 x6 x7 x8 x9 x10
  obtain ⟨x0, x1, x2, x3, x4, x5, x6, x7, x8, x9, x10⟩ := pack_facts B3.out
  obtain ⟨z0, z1, z2, z3, z4, z5, z6⟩ := part_facts P3.out
  dsimp only at x0 x1 x2 x3 x4 x5 x6 x7 x8 x9 x10
  go_wp2_with fail
  refine Calls.mono (step_nums ([bn, bd] : List Nat) S3.out hz3 _ rfl _ rfl (by simp) _ rfl) ?_
  rintro e w4 ⟨A4, n4, c4, rfl, S4, -⟩
  have S4 := hid_ S4
  have B4 := hid_ (B2.out.below S4.out.below (by simpa using B2.out.lt))
  have P4 := hid_ (P2.out.below S4.out.below (by simp))
  have hz4 : w1.heap.size + 1 ≤ w4.heap.size := by have := S4.out.size; simp at this; omega
  clear x0 x1 x2 x3 x4 x5 x6 x7 x8 x9 x10
  clear z0 z1 z2 z3 z4 z5 z6
  obtain ⟨x0, x1, x2, x3, x4, x5, x6, x7, x8, x9, x10⟩ := pack_facts B4.out
  obtain ⟨z0, z1, z2, z3, z4, z5, z6⟩ := part_facts P4.out
  dsimp only at x0 x1 x2 x3 x4 x5 x6 x7 x8 x9 x10
  have hn4 := S4.out.n_le
  go_wp2_with (at_builtin; refine wpList_bytes rfl (.tmp 59) (.tmp 64) rfl (w1.heap.size + 1) A4 n4 c4 _ rfl (S4.out.own.alloc _) (some ⟨w4.heap.size, 0, none⟩) 1 1 [byteI (l1.length : Int)] rfl (own_lit_at w4 [byteI (l1.length : Int)] _ (byte_lit (by omega)) (w4.heap.size) rfl).sl (n4 + 1) _ rfl rfl (by omega) (by simp <;> omega) ?_; intro A5 c5 w5 ho' hb'; have S5 := hid_ (wr_byte S4.out ho' ((S4.out.below.alloc hz4 _).trans hb')); clear ho' hb'; have B5 := hid_ (B2.out.below S5.out.below (by simpa using B2.out.lt)); have P5 := hid_ (P2.out.below S5.out.below (by simp)); have hz5 : w1.heap.size + 1 ≤ w5.heap.size := (by have := S5.out.size; simp at this; omega); clear x0 x1 x2 x3 x4 x5 x6 x7 x8 x9 x10; clear z0 z1 z2 z3 z4 z5 z6; obtain ⟨x0, x1, x2, x3, x4, x5, x6, x7, x8, x9, x10⟩ := pack_facts B5.out; obtain ⟨z0, z1, z2, z3, z4, z5, z6⟩ := part_facts P5.out; dsimp only at x0 x1 x2 x3 x4 x5 x6 x7 x8 x9 x10)
  have Hbw := hid_ (fun (W : World) (hb : Below (w1.heap.size + 1) (w1.alloc (.cells (partsCells ⟨true, true, false, false, true, false, false⟩) 75)) W) => (Hb1.out.alloc Hb1.out.size (.cells (partsCells ⟨true, true, false, false, true, false, false⟩) 75)).trans (hb.mono (by have := Hb1.out.size; omega)))
  have Hrw := hid_ (fun (W : World) (hb : Below (w1.heap.size + 1) (w1.alloc (.cells (partsCells ⟨true, true, false, false, true, false, false⟩) 75)) W) => Hp.out.r1.below (Hbw.out W hb))
  have u1 := Hp.out.r1.cap
  have u2 := Hp.out.r1.max
  dsimp only at u1 u2
  obtain ⟨pre, S5'⟩ : ∃ pre, Hid (Wr (w1.heap.size + 1) (w1.alloc (.cells (partsCells ⟨true, true, false, false, true, false, false⟩) 75)) w5 A5 (n4 + 1) c5 ⟨9, tr, bn, bd, sn, sd, v, ok, l1, l2, l3⟩ pre (l1.flatMap putF)) := ⟨_, hid_ (S5.out.to rfl (List.append_nil _))⟩
  go_loopw [4, 69] (fun va i wr => ∃ (k : Nat) (A : Option Addr) (n c : Nat), k ≤ l1.length ∧ i = .int .i64 (k : Nat) ∧ va = .slice A n c ∧ Hid (Wr (w1.heap.size + 1) (w1.alloc (.cells (partsCells ⟨true, true, false, false, true, false, false⟩) 75)) wr A n c ⟨9, tr, bn, bd, sn, sd, v, ok, l1, l2, l3⟩ (pre ++ (l1.take k).flatMap putF) ((l1.drop k).flatMap putF)) ∧ w1.heap.size + 1 ≤ wr.heap.size) (fun _ i _ => l1.length - (intOf i).toNat)
  case atStart => exact ⟨0, A5, n4 + 1, c5, by omega, rfl, rfl, hid_ (S5'.out.to (by simp) (by simp)), hz5⟩
  case round =>
    obtain ⟨k, A, n, c, hk, rfl, rfl, S, hz⟩ := hrel
    have Bk := hid_ (B2.out.below S.out.below (by simpa using B2.out.lt))
    have Pk := hid_ (P2.out.below S.out.below (by simp))
    clear x0 x1 x2 x3 x4 x5 x6 x7 x8 x9 x10 z0 z1 z2 z3 z4 z5 z6
    obtain ⟨x0, x1, x2, x3, x4, x5, x6, x7, x8, x9, x10⟩ := pack_facts Bk.out
    obtain ⟨z0, z1, z2, z3, z4, z5, z6⟩ := part_facts Pk.out
    dsimp only at x0 x1 x2 x3 x4 x5 x6 x7 x8 x9 x10
    by_cases hlt : k < l1.length
    · have hrow := Hrw.out wr S.out.below
      dsimp only at hrow
      obtain ⟨b, off, ha, hc⟩ := hrow.at_ hlt
      subst ha
      obtain ⟨c0, c1, c2, c3, c4, c5, c6, c7⟩ := hc
      have y1 : (k : Int) < (l1.length : Int) := by omega
      have y2 : (0 : Int) ≤ (k : Int) := by omega
      have Hdr := hid_ (flat_cons putF l1 hlt)
      have Htk := hid_ (show (l1.take (k + 1)).flatMap putF = (l1.take k).flatMap putF ++ putF l1[k] by rw [List.take_succ_eq_append_getElem hlt, List.flatMap_append, List.flatMap_cons, List.flatMap_nil, List.append_nil])
      have Hxw := hid_ (Hw.out.spans l1[k] (List.getElem_mem hlt))
      have Hxr := hid_ (Hr.out.spans2 l1[k] (List.getElem_mem hlt))
      generalize l1[k] = x at *
      go_wp2_with fail
      refine Calls.mono (step_span x ((S.out.to rfl Hdr.out).alloc hz _) (by simp; omega) Hxw.out Hxr.out) ?_
      rintro e w5 ⟨A5, n5, c5, rfl, S5⟩
      have S5 := hid_ S5
      go_wp2_with fail
      go_roundw
      case rel => exact ⟨k + 1, A5, n5, c5, by omega, by go_num, rfl, hid_ (S5.out.to (by rw [Htk.out, List.append_assoc]) rfl), by have := S5.out.size; simp at this; omega⟩
      case measure => simp [intOf]; omega
    · obtain rfl : k = l1.length := by omega
      go_wp2_with fail
      go_ret
      exact (S.out.to rfl (by simp)).done (by have := Hb1.out.size; omega) (Hb1.out.alloc Hb1.out.size _)
set_option maxRecDepth 100000 in
set_option maxHeartbeats 8000000 in
theorem written10_any (p : PackD) (s : PackS) (w : World) (hp : PackIn w p s) (hw : p.Wf) (hr : RightD p) (hk : p.kind = 10) : Calls Tryz.prog 20 #[packVal p s] w (RowPost w.heap.size w (writtenF p)) := by
  have Hle := hid_ (written_le hr).2
  have Hwf := hid_ (show writtenF p = byteI 10 :: ([p.trace].flatMap eight ++ (byteI (p.ids.length : Int) :: (p.ids.flatMap eight ++ []))) by unfold writtenF; rw [hk, parts_10]; simp [optB])
  have hv1 := hr.v.1
  have hv2 := hr.v.2
  have q1 := hr.spans1
  have q2 := hr.members1
  have q3 := hr.ids1
  have Hr := hid_ hr
  clear hr
  obtain ⟨k, tr, bn, bd, sn, sd, v, ok, l1, l2, l3⟩ := p
  obtain ⟨a1, e1, a2, e2, a3, e3⟩ := s
  simp only at hk hv1 hv2 q1 q2 q3 Hwf Hle
  subst hk
  have Ha := hid_ (show Below w.heap.size w (w.alloc (.cells (packCells ⟨10, tr, bn, bd, sn, sd, v, ok, l1, l2, l3⟩ ⟨a1, e1, a2, e2, a3, e3⟩) 30)) from (Below.refl _ _).alloc (Nat.le_refl _) _)
  have B0 := hid_ (whole_new w 30 (packCells ⟨10, tr, bn, bd, sn, sd, v, ok, l1, l2, l3⟩ ⟨a1, e1, a2, e2, a3, e3⟩))
  have Hpo := hid_ (fun W => partsof_any 10 W)
  rw [parts_10] at Hpo
  unfold PartsPost at Hpo
  have Hp := hid_ hp
  have Hw := hid_ hw
  clear hp hw
  go_enter Tryz.func20, Tryz.ntmps20
  go_wp2_with fail
  refine Calls.mono (Hpo.out _) ?_
  rintro e w1 ⟨rfl, hb1⟩
  have B1 := hid_ (B0.out.below hb1 B0.out.lt)
  have Hb1 := hid_ (Ha.out.trans (hb1.mono Ha.out.size))
  have hlt := B1.out.lt
  have B2 := hid_ (B1.out.alloc (.cells (partsCells ⟨true, false, false, false, false, false, true⟩) 75))
  have P2 := hid_ (whole_new w1 75 (partsCells ⟨true, false, false, false, false, false, true⟩))
  clear hb1
  obtain ⟨x0, x1, x2, x3, x4, x5, x6, x7, x8, x9, x10⟩ := pack_facts B1.out
  dsimp only at x0 x1 x2 x3 x4 x5 x6 x7 x8 x9 x10
  have hne : w.heap.size ≠ w1.heap.size := by omega
  have S0 := hid_ (wr_start (w1.alloc (.cells (partsCells ⟨true, false, false, false, false, false, true⟩) 75)) ⟨10, tr, bn, bd, sn, sd, v, ok, l1, l2, l3⟩ 10 10 ([tr].flatMap eight ++ (byteI (l3.length : Int) :: (l3.flatMap eight ++ []))) (by rw [Hwf.out]) (by rfl) Hle.out (w1.heap.size + 1) (by simp))
  go_wp2_with fail
  refine Calls.mono (step_nums ([tr] : List Nat) S0.out (by simp) _ rfl _ rfl (by simp) _ (by simp)) ?_
  rintro e w3 ⟨A3, n3, c3, rfl, S3, -⟩
  have S3 := hid_ S3
  have B3 := hid_ (B2.out.below S3.out.below (by simpa using B2.out.lt))
  have P3 := hid_ (P2.out.below S3.out.below (by simp))
  have hz3 : w1.heap.size + 1 ≤ w3.heap.size := by have := S3.out.size; simp at this; omega
  clear x0 x1 x2 x3 x4 x5 x6 x7 x8 x9 x10
  obtain ⟨x0, x1, x2, x3, x4, x5, x6, x7, x8, x9, x10⟩ := pack_facts B3.out
  obtain ⟨z0, z1, z2, z3, z4, z5, z6⟩ := part_facts P3.out
  dsimp only at x0 x1 x2 x3 x4 x5 x6 x7 x8 x9 x10
  have hn3 := S3.out.n_le
  go_wp2_with (at_builtin; refine wpList_bytes rfl (.tmp 112) (.tmp 117) rfl (w1.heap.size + 1) A3 n3 c3 _ rfl (S3.out.own.alloc _) (some ⟨w3.heap.size, 0, none⟩) 1 1 [byteI (l3.length : Int)] rfl (own_lit_at w3 [byteI (l3.length : Int)] _ (byte_lit (by omega)) (w3.heap.size) rfl).sl (n3 + 1) _ rfl rfl (by omega) (by simp <;> omega) ?_; intro A4 c4 w4 ho' hb'; have S4 := hid_ (wr_byte S3.out ho' ((S3.out.below.alloc hz3 _).trans hb')); clear ho' hb'; have B4 := hid_ (B2.out.below S4.out.below (by simpa using B2.out.lt)); have P4 := hid_ (P2.out.below S4.out.below (by simp)); have hz4 : w1.heap.size + 1 ≤ w4.heap.size := (by have := S4.out.size; simp at this; omega); clear x0 x1 x2 x3 x4 x5 x6 x7 x8 x9 x10; clear z0 z1 z2 z3 z4 z5 z6; obtain ⟨x0, x1, x2, x3, x4, x5, x6, x7, x8, x9, x10⟩ := pack_facts B4.out; obtain ⟨z0, z1, z2, z3, z4, z5, z6⟩ := part_facts P4.out; dsimp only at x0 x1 x2 x3 x4 x5 x6 x7 x8 x9 x10)
  have Hbw := hid_ ((Hb1.out.alloc Hb1.out.size (.cells (partsCells ⟨true, false, false, false, false, false, true⟩) 75)).trans (S4.out.below.mono (by have := Hb1.out.size; omega)))
  refine Calls.mono (step_row l3 S4.out hz4 a3 l3.length e3 (Hp.out.r3.below Hbw.out) (fun h0 a ha => by have := row_lt Hp.out.r3 (by simpa [idVals] using h0) a ha; have := Hb1.out.size; omega) (by omega)) ?_
  rintro e w5 ⟨A5, n5, c5, rfl, S5⟩
  have S5 := hid_ S5
  have B5 := hid_ (B2.out.below S5.out.below (by simpa using B2.out.lt))
  have P5 := hid_ (P2.out.below S5.out.below (by simp))
  have hz5 : w1.heap.size + 1 ≤ w5.heap.size := by have := S5.out.size; simp at this; omega
  clear x0 x1 x2 x3 x4 x5 x6 x7 x8 x9 x10
  clear z0 z1 z2 z3 z4 z5 z6
  obtain ⟨x0, x1, x2, x3, x4, x5, x6, x7, x8, x9, x10⟩ := pack_facts B5.out
  obtain ⟨z0, z1, z2, z3, z4, z5, z6⟩ := part_facts P5.out
  dsimp only at x0 x1 x2 x3 x4 x5 x6 x7 x8 x9 x10
  go_wp2_with fail
  go_ret
  exact S5.out.done (by have := Hb1.out.size; omega) (Hb1.out.alloc Hb1.out.size _)
theorem written_any (p : PackD) (s : PackS) (w : World) (hp : PackIn w p s) (hw : p.Wf) (hr : rightP p = true) : Calls Tryz.prog 20 #[packVal p s] w (RowPost w.heap.size w (writtenF p)) := by
  have h := right_facts hr
  rcases kind_cases h.kind with e | e | e | e | e | e | e | e | e | e
  · exact written1_any p s w hp hw h e
  · exact written2_any p s w hp hw h e
  · exact written3_any p s w hp hw h e
  · exact written4_any p s w hp hw h e
  · exact written5_any p s w hp hw h e
  · exact written6_any p s w hp hw h e
  · exact written7_any p s w hp hw h e
  · exact written8_any p s w hp hw h e
  · exact written9_any p s w hp hw h e
  · exact written10_any p s w hp hw h e
end Go.Proofs.YtnpbokbfkdncmaaGreat

/-
  What the program's Encode answers.
-/
namespace Go.Proofs.YtnpbokbfkdncmaaGreat
set_option linter.unusedSimpArgs false
set_option linter.unusedVariables false
open Go.RowKit Ru

def EncPost (w : World) (p : PackD) (e : Ending) (w' : World) : Prop :=
  (rightP p = false ∧ e = .returned (.tuple #[.slice none 0 0, .int .i64 6]) ∧ Below w.heap.size w w') ∨
  (rightP p = true ∧ ∃ A n c, e = .returned (.tuple #[.slice A n c, .int .i64 0]) ∧ Own w.heap.size w' A n c (encF p) ∧ Below w.heap.size w w')
theorem encPost_no {w w' : World} {p : PackD} (h : rightP p = false) (hb : Below w.heap.size w w') : EncPost w p (.returned (.tuple #[.slice none 0 0, .int .i64 6])) w' := .inl ⟨h, rfl, hb⟩
theorem encPost_ok {w w' : World} {p : PackD} {A : Option Addr} {n c : Nat} (h : rightP p = true) (ho : Own w.heap.size w' A n c (encF p)) (hb : Below w.heap.size w w') : EncPost w p (.returned (.tuple #[.slice A n c, .int .i64 0])) w' := .inr ⟨h, A, n, c, rfl, ho, hb⟩
set_option maxRecDepth 20000 in
set_option maxHeartbeats 4000000 in
theorem encode_any (p : PackD) (s : PackS) (w : World) (hp : PackIn w p s) (hw : p.Wf) (hm : p.spans.length ≤ 1000000) :
    Calls Tryz.prog 8 #[packVal p s] w (EncPost w p) := by
  have Ha := hid_ (show Below w.heap.size w (w.alloc (.cells (packCells p s) 30)) from (Below.refl _ _).alloc (Nat.le_refl _) _)
  have B0 := hid_ (whole_new w 30 (packCells p s))
  have Hri := hid_ (fun (W : World) (hb : Below w.heap.size w W) => packright_any p s W (hp.below hb) hw hm)
  have Hwr := hid_ (fun (W : World) (hb : Below w.heap.size w W) (h : rightP p = true) => written_any p s W (hp.below hb) hw h)
  have Hle := hid_ (fun (h : rightP p = true) => (written_le (right_facts h)).2)
  clear hp hw hm
  cases hr : rightP p
  · have Hr := hid_ hr
    have hk : kindP (rightP p) = 6 := by rw [hr]; rfl
    rw [hk] at Hri
    clear hr hk
    go_enter Tryz.func8, Tryz.ntmps8
    go_wp2_with fail
    refine Calls.mono (Hri.out _ Ha.out) ?_
    rintro e w1 ⟨rfl, hb1⟩
    have Hb1 := hid_ (Ha.out.trans (hb1.mono Ha.out.size))
    clear hb1
    go_wp2_with fail
    go_ret2
    exact encPost_no Hr.out Hb1.out
  · have Hr := hid_ hr
    have hk : kindP (rightP p) = 0 := by rw [hr]; rfl
    rw [hk] at Hri
    clear hr hk
    go_enter Tryz.func8, Tryz.ntmps8
    go_wp2_with fail
    refine Calls.mono (Hri.out _ Ha.out) ?_
    rintro e w1 ⟨rfl, hb1⟩
    have B1 := hid_ (B0.out.below hb1 B0.out.lt)
    have Hb1 := hid_ (Ha.out.trans (hb1.mono Ha.out.size))
    clear hb1
    obtain ⟨x0, x1, x2, x3, x4, x5, x6, x7, x8, x9, x10⟩ := pack_facts B1.out
    go_wp2_with fail
    refine Calls.mono (Hwr.out _ Hb1.out Hr.out) ?_
    rintro e w2 ⟨A2, n2, c2, rfl, ho, hb2⟩
    have Ho := hid_ ho
    have Hb2 := hid_ (Hb1.out.trans (hb2.mono Hb1.out.size))
    have Hn := hid_ (show n2 ≤ 8192 by rw [← ho.sl.len]; exact Hle.out Hr.out)
    clear ho hb2
    go_wp2_with fail
    refine Calls.mono (Fr.put_nil A2 n2 c2 _ w2 Ho.out.sl Hn.out) ?_
    rintro e w3 ⟨A3, c3, rfl, ho, hb3⟩
    have Ho3 := hid_ ho
    have Hb3 := hid_ (Hb2.out.trans (hb3.mono Hb2.out.size))
    clear ho hb3
    go_wp2_with fail
    go_ret2
    exact encPost_ok Hr.out (Ho3.out.mono Hb2.out.size) Hb3.out
end Go.Proofs.YtnpbokbfkdncmaaGreat
