/-
  What the program's parted and Cut answer.
-/
import Derived.Test.YtfnjfjghajcdkaaSpNumber
import Derived.Test.YtfnjfjghajcdkaaRefCut
namespace Go.Proofs.Ytfnjfjghajcdkaa
open Go.RowKit Ru

/-- Block g holds just these cells, and may be written. -/
def Whole (w : World) (g : Nat) (t : TypeId) (cs : Array Value) : Prop := w.heap[g]? = some (.cells cs t (0, 0))
theorem Whole.cell {w : World} {g : Nat} {t : TypeId} {cs : Array Value} (h : Whole w g t cs) (i : Nat) (v : Value) (hv : cs[i]? = some v) : w.cell? ⟨g, i, none⟩ = some v := by
  unfold Whole at h
  rw [World.cell?, h]
  simpa using hv
theorem Whole.free {w : World} {g : Nat} {t : TypeId} {cs : Array Value} (h : Whole w g t cs) (i : Nat) : w.frozen? ⟨g, i, none⟩ = false := by
  unfold Whole at h
  simp [World.frozen?, h]
theorem Whole.below {w w' : World} {g B : Nat} {t : TypeId} {cs : Array Value} (h : Whole w g t cs) (hb : Below B w w') (hg : g < B) : Whole w' g t cs := (hb.block g hg).trans h
theorem Whole.lt {w : World} {g : Nat} {t : TypeId} {cs : Array Value} (h : Whole w g t cs) : g < w.heap.size := (Array.getElem?_eq_some_iff.1 h).1
theorem Whole.store {w : World} {g : Nat} {t : TypeId} {cs : Array Value} (h : Whole w g t cs) (i : Nat) (v : Value) : Whole (w.setCell ⟨g, i, none⟩ v) g t (cs.setIfInBounds i v) := by
  unfold Whole at h ⊢
  simp [World.setCell, Array.getElem?_modify, h]
theorem Whole.far {w : World} {g : Nat} {t : TypeId} {cs : Array Value} (h : Whole w g t cs) {p : Addr} (hp : g ≠ p.block) (v : Value) : Whole (w.setCell p v) g t cs := (Below.heap_setCell w p v g hp).trans h
theorem whole_new (w : World) (t : TypeId) (cs : Array Value) : Whole (w.alloc (.cells cs t)) w.heap.size t cs := heap_alloc_new w _
theorem whole_at (w : World) (g : Nat) (t : TypeId) (cs : Array Value) (h : g = w.heap.size) : Whole (w.alloc (.cells cs t)) g t cs := by
  subst h
  exact whole_new w t cs
theorem Whole.alloc {w : World} {g : Nat} {t : TypeId} {cs : Array Value} (h : Whole w g t cs) (o : Obj) : Whole (w.alloc o) g t cs := (Below.heap_alloc w o g h.lt).trans h

/-- How far the two texts are cut. -/
def Two (l : List UInt8) (k : Nat) (y0 y1 : ByteArray) (r : List UInt8) : Prop :=
  (k = 0 ∧ y0 = ByteArray.empty ∧ y1 = ByteArray.empty ∧ r = l.drop 41) ∨
  (k = 1 ∧ (cutTextF (l.drop 41)).1 = 0 ∧ y0 = (cutTextF (l.drop 41)).2.1 ∧ y1 = ByteArray.empty ∧ r = (cutTextF (l.drop 41)).2.2) ∨
  (k = 2 ∧ (cutTextF (l.drop 41)).1 = 0 ∧ (cutTextF (cutTextF (l.drop 41)).2.2).1 = 0 ∧ y0 = (cutTextF (l.drop 41)).2.1 ∧ y1 = (cutTextF (cutTextF (l.drop 41)).2.2).2.1 ∧ r = (cutTextF (cutTextF (l.drop 41)).2.2).2.2)
theorem two_zero (l : List UInt8) : Two l 0 ByteArray.empty ByteArray.empty (l.drop 41) := .inl ⟨rfl, rfl, rfl, rfl⟩
theorem Two.one {l : List UInt8} {y0 y1 : ByteArray} {r : List UInt8} (h : Two l 0 y0 y1 r) (hk : (cutTextF r).1 = 0) : Two l 1 (cutTextF r).2.1 y1 (cutTextF r).2.2 := by
  rcases h with ⟨_, h0, h1, rfl⟩ | ⟨h, _⟩ | ⟨h, _⟩
  · exact .inr (.inl ⟨rfl, hk, rfl, h1, rfl⟩)
  · cases h
  · cases h
theorem Two.two {l : List UInt8} {y0 y1 : ByteArray} {r : List UInt8} (h : Two l 1 y0 y1 r) (hk : (cutTextF r).1 = 0) : Two l 2 y0 (cutTextF r).2.1 (cutTextF r).2.2 := by
  rcases h with ⟨h, _⟩ | ⟨_, h0, h1, h2, rfl⟩ | ⟨h, _⟩
  · cases h
  · exact .inr (.inr ⟨rfl, h0, hk, h1, rfl, rfl⟩)
  · cases h
theorem Two.le {l : List UInt8} {k : Nat} {y0 y1 : ByteArray} {r : List UInt8} (h : Two l k y0 y1 r) : k = 0 ∨ k = 1 ∨ k = 2 := by
  rcases h with ⟨h, _⟩ | ⟨h, _⟩ | ⟨h, _⟩ <;> omega
/-- What the bytes say, right or not. -/
def partedF (l : List UInt8) : Int × SpanD × List UInt8 :=
  if l.length < 41 then (3, SpanD.zero, [])
  else if 1 < (l.getD 40 0).toNat then (6, SpanD.zero, [])
  else if (cutTextF (l.drop 41)).1 ≠ 0 then ((cutTextF (l.drop 41)).1, SpanD.zero, [])
  else if (cutTextF (cutTextF (l.drop 41)).2.2).1 ≠ 0 then ((cutTextF (cutTextF (l.drop 41)).2.2).1, SpanD.zero, [])
  else (0, numsOf l (cutTextF (l.drop 41)).2.1 (cutTextF (cutTextF (l.drop 41)).2.2).2.1, (cutTextF (cutTextF (l.drop 41)).2.2).2.2)
theorem cutSpan_parted (l : List UInt8) : cutSpanF l = if (partedF l).1 ≠ 0 then ((partedF l).1, SpanD.zero, []) else if rightF (partedF l).2.1 ≠ 0 then (rightF (partedF l).2.1, SpanD.zero, []) else partedF l := by
  unfold cutSpanF partedF
  repeat' split
  all_goals simp_all
/-- .. and what is behind stands wherever the bytes stand. -/
def PartedPost (w0 w : World) (l : List UInt8) (e : Ending) (w' : World) : Prop :=
  ∃ A n c, e = .returned (.tuple #[spanVal (partedF l).2.1, .slice A n c, .int .i64 (partedF l).1]) ∧ (∀ W, Below w0.heap.size w0 W → Sl W A n c (partedF l).2.2) ∧ Below w.heap.size w w'
theorem parted_none {w0 w w' : World} {l : List UInt8} {k : Int} (h : partedF l = (k, SpanD.zero, [])) (hb : Below w.heap.size w w') :
    PartedPost w0 w l (.returned (.tuple #[spanVal SpanD.zero, .slice none 0 0, .int .i64 k])) w' := ⟨none, 0, 0, by rw [h], by rw [h]; exact fun _ _ => Sl.none _, hb⟩
theorem parted_ok {w0 w w' : World} {l r : List UInt8} {s : SpanD} {A : Option Addr} {n c : Nat} (h : partedF l = (0, s, r)) (hr : ∀ W, Below w0.heap.size w0 W → Sl W A n c r) (hb : Below w.heap.size w w') :
    PartedPost w0 w l (.returned (.tuple #[spanVal s, .slice A n c, .int .i64 0])) w' := ⟨A, n, c, by rw [h], by rw [h]; exact hr, hb⟩
theorem parted_two {l : List UInt8} (h : 41 ≤ l.length) (h1 : ¬ 1 < (l.getD 40 0).toNat) {k : Nat} {y0 y1 : ByteArray} {r : List UInt8} (ht : Two l k y0 y1 r) (hk : k < 2) (hc : (cutTextF r).1 ≠ 0) : partedF l = ((cutTextF r).1, SpanD.zero, []) := by
  unfold partedF
  rw [if_neg (by omega), if_neg h1]
  rcases ht with ⟨rfl, _, _, rfl⟩ | ⟨rfl, h0, _, _, rfl⟩ | ⟨rfl, _⟩
  · rw [if_pos hc]
  · rw [if_neg (by rw [h0]; simp), if_pos hc]
  · omega
theorem parted_end {l : List UInt8} (h : 41 ≤ l.length) (h1 : ¬ 1 < (l.getD 40 0).toNat) {y0 y1 : ByteArray} {r : List UInt8} (ht : Two l 2 y0 y1 r) : partedF l = (0, numsOf l y0 y1, r) := by
  unfold partedF
  rw [if_neg (by omega), if_neg h1]
  rcases ht with ⟨h, _⟩ | ⟨h, _⟩ | ⟨_, h0, h2, rfl, rfl, rfl⟩
  · cases h
  · cases h
  · rw [if_neg (by rw [h0]; simp), if_neg (by rw [h2]; simp)]
theorem parted_short {l : List UInt8} (h : l.length < 41) : partedF l = (3, SpanD.zero, []) := by unfold partedF; rw [if_pos h]

set_option maxRecDepth 100000 in
set_option maxHeartbeats 1000000 in
theorem parted_few (w0 : World) (A : Option Addr) (n c : Nat) (l : List UInt8) (w : World) (hs : Sl w A n c l) (h : n < 41) :
    Calls Try.prog 36 #[.slice A n c] w (PartedPost w0 w l) := by
  have Hc := hid_ (parted_short (l := l) (by rw [hs.len]; exact h))
  go_enter Try.func36, Try.ntmps36
  go_wp2_with fail
  refine bodyPost_ret (v := .tuple #[spanVal SpanD.zero, .slice none 0 0, .int .i64 3]) (by simp [results, Try.results36, go_sem, SpanD.zero]) rfl ?_
  exact parted_none Hc.out ((Below.refl _ _).alloc (Nat.le_refl _) _)

/-- A number's contract at a place of the bytes, in whatever world they still stand. -/
theorem number_from (b off : Nat) (n c : Nat) (l : List UInt8) (m : Nat) (w : World) (hs : Sl w (some ⟨b, off, none⟩) n c l) (h : m + 8 ≤ n) (hm : m < c) :
    ∀ W, Below w.heap.size w W → Calls Try.prog 45 #[.slice (some ⟨b, off + m, none⟩) (n - m) (c - m)] W fun e w' => e = .returned (.int .u64 (numB (l.drop m) 8 : Nat)) ∧ W = w' := by
  intro W hW
  have h1 := (hs.from_ m (by omega)).below hW
  rw [cutAt_add (by omega), Option.map_some, add_plain] at h1
  exact number_any _ _ _ _ W h1 (by omega)

set_option maxRecDepth 100000 in
set_option maxHeartbeats 4000000 in
theorem parted_many (w0 : World) (b off : Nat) (n c : Nat) (l : List UInt8) (w : World) (hall : ∀ W, Below w0.heap.size w0 W → Sl W (some ⟨b, off, none⟩) n c l) (hw : Below w0.heap.size w0 w) (h : 41 ≤ n) :
    Calls Try.prog 36 #[.slice (some ⟨b, off, none⟩) n c] w (PartedPost w0 w l) := by
  have hs := hall w hw
  have Hall := hid_ hall
  have Hw := hid_ hw
  have hle := hs.le
  have hnc := hs.cap
  have hcm := hs.max
  have Hs := hid_ hs
  clear hall hw
  have Hlen := hid_ hs.len
  have HN0 := hid_ (number_from b off n c l 0 w hs (by omega) (by omega))
  have HN1 := hid_ (number_from b off n c l 8 w hs (by omega) (by omega))
  have HN2 := hid_ (number_from b off n c l 16 w hs (by omega) (by omega))
  have HN3 := hid_ (number_from b off n c l 24 w hs (by omega) (by omega))
  have HN4 := hid_ (number_from b off n c l 32 w hs (by omega) (by omega))
  rw [List.drop_zero] at HN0
  generalize hn0 : numB l 8 = N0 at HN0
  have Hn0 := hid_ hn0
  clear hn0
  generalize hn1 : numB (l.drop 8) 8 = N1 at HN1
  have Hn1 := hid_ hn1
  clear hn1
  generalize hn2 : numB (l.drop 16) 8 = N2 at HN2
  have Hn2 := hid_ hn2
  clear hn2
  generalize hn3 : numB (l.drop 24) 8 = N3 at HN3
  have Hn3 := hid_ hn3
  clear hn3
  generalize hn4 : numB (l.drop 32) 8 = N4 at HN4
  have Hn4 := hid_ hn4
  clear hn4
  have h40l : 40 < l.length := by rw [hs.len]; omega
  obtain ⟨_, _, e40, h40⟩ := hs.holds.at_ h40l
  cases e40
  have hbw : b < w.heap.size := lt_of_cell h40
  have hb1 : w.heap.size ≠ b := by omega
  have hb2 : w.heap.size + 1 ≠ b := by omega
  have hb3 : w.heap.size + 1 + 1 ≠ b := by omega
  have hx40 : l[40] = l.getD 40 0 := by rw [List.getD_eq_getElem?_getD, List.getElem?_eq_getElem h40l]; rfl
  rw [hx40] at h40
  have bx := UInt8.toNat_lt (l.getD 40 0)
  generalize hxx : l.getD 40 0 = x at *
  have Hxx := hid_ hxx
  clear hs hx40 hxx
  have n40 : ((n : Int) < 41) = False := by simp; omega
  go_enter Try.func36, Try.ntmps36
  go_wp2_with fail
  go_loopw [14] (fun vi wr => ∃ k : Nat, vi = .int .i64 (k : Nat) ∧ (
    (k = 0 ∧ wr = (w.alloc (.cells #[.int .u64 0, .int .u64 0, .int .u64 0, .int .u64 0, .int .u64 0, .string ⟨#[]⟩, .string ⟨#[]⟩, .bool false] 28)).alloc (.cells #[.int .u64 0, .int .u64 0, .int .u64 0, .int .u64 0, .int .u64 0] 54)) ∨
    (k = 1 ∧ wr = (w.alloc (.cells #[.int .u64 0, .int .u64 0, .int .u64 0, .int .u64 0, .int .u64 0, .string ⟨#[]⟩, .string ⟨#[]⟩, .bool false] 28)).alloc (.cells #[.int .u64 (N0 : Nat), .int .u64 0, .int .u64 0, .int .u64 0, .int .u64 0] 54)) ∨
    (k = 2 ∧ wr = (w.alloc (.cells #[.int .u64 0, .int .u64 0, .int .u64 0, .int .u64 0, .int .u64 0, .string ⟨#[]⟩, .string ⟨#[]⟩, .bool false] 28)).alloc (.cells #[.int .u64 (N0 : Nat), .int .u64 (N1 : Nat), .int .u64 0, .int .u64 0, .int .u64 0] 54)) ∨
    (k = 3 ∧ wr = (w.alloc (.cells #[.int .u64 0, .int .u64 0, .int .u64 0, .int .u64 0, .int .u64 0, .string ⟨#[]⟩, .string ⟨#[]⟩, .bool false] 28)).alloc (.cells #[.int .u64 (N0 : Nat), .int .u64 (N1 : Nat), .int .u64 (N2 : Nat), .int .u64 0, .int .u64 0] 54)) ∨
    (k = 4 ∧ wr = (w.alloc (.cells #[.int .u64 0, .int .u64 0, .int .u64 0, .int .u64 0, .int .u64 0, .string ⟨#[]⟩, .string ⟨#[]⟩, .bool false] 28)).alloc (.cells #[.int .u64 (N0 : Nat), .int .u64 (N1 : Nat), .int .u64 (N2 : Nat), .int .u64 (N3 : Nat), .int .u64 0] 54)) ∨
    (k = 5 ∧ wr = (w.alloc (.cells #[.int .u64 0, .int .u64 0, .int .u64 0, .int .u64 0, .int .u64 0, .string ⟨#[]⟩, .string ⟨#[]⟩, .bool false] 28)).alloc (.cells #[.int .u64 (N0 : Nat), .int .u64 (N1 : Nat), .int .u64 (N2 : Nat), .int .u64 (N3 : Nat), .int .u64 (N4 : Nat)] 54)))) (fun vi _ => 5 - (intOf vi).toNat)
  case atStart => exact ⟨0, rfl, .inl ⟨rfl, rfl⟩⟩
  case round =>
    obtain ⟨k, rfl, ⟨rfl, rfl⟩ | ⟨rfl, rfl⟩ | ⟨rfl, rfl⟩ | ⟨rfl, rfl⟩ | ⟨rfl, rfl⟩ | ⟨rfl, rfl⟩⟩ := hrel
    · go_wp2_with fail
      refine Calls.mono (HN0.out _ (((Below.refl _ _).alloc (Nat.le_refl _) _).alloc (by simp) _)) ?_
      rintro e w' ⟨rfl, rfl⟩
      go_wp2_with fail
      go_roundw
      case rel => exact ⟨1, rfl, .inr (.inl ⟨rfl, by first | rfl | trivial⟩)⟩
      case measure => simp [intOf]
    · go_wp2_with fail
      refine Calls.mono (HN1.out _ (((Below.refl _ _).alloc (Nat.le_refl _) _).alloc (by simp) _)) ?_
      rintro e w' ⟨rfl, rfl⟩
      go_wp2_with fail
      go_roundw
      case rel => exact ⟨2, rfl, .inr (.inr (.inl ⟨rfl, by first | rfl | trivial⟩))⟩
      case measure => simp [intOf]
    · go_wp2_with fail
      refine Calls.mono (HN2.out _ (((Below.refl _ _).alloc (Nat.le_refl _) _).alloc (by simp) _)) ?_
      rintro e w' ⟨rfl, rfl⟩
      go_wp2_with fail
      go_roundw
      case rel => exact ⟨3, rfl, .inr (.inr (.inr (.inl ⟨rfl, by first | rfl | trivial⟩)))⟩
      case measure => simp [intOf]
    · go_wp2_with fail
      refine Calls.mono (HN3.out _ (((Below.refl _ _).alloc (Nat.le_refl _) _).alloc (by simp) _)) ?_
      rintro e w' ⟨rfl, rfl⟩
      go_wp2_with fail
      go_roundw
      case rel => exact ⟨4, rfl, .inr (.inr (.inr (.inr (.inl ⟨rfl, by first | rfl | trivial⟩))))⟩
      case measure => simp [intOf]
    · go_wp2_with fail
      refine Calls.mono (HN4.out _ (((Below.refl _ _).alloc (Nat.le_refl _) _).alloc (by simp) _)) ?_
      rintro e w' ⟨rfl, rfl⟩
      go_wp2_with fail
      go_roundw
      case rel => exact ⟨5, rfl, .inr (.inr (.inr (.inr (.inr (⟨rfl, by first | rfl | trivial⟩)))))⟩
      case measure => simp [intOf]
    · by_cases hx1 : 1 < x.toNat
      · have Hr := hid_ (show partedF l = (6, SpanD.zero, []) by unfold partedF; rw [if_neg (by rw [Hlen.out]; omega), if_pos (by rw [Hxx.out]; exact hx1)])
        go_wp2_with fail
        refine bodyPost_ret (v := .tuple #[spanVal SpanD.zero, .slice none 0 0, .int .i64 6]) (by simp [results, Try.results36, go_sem, SpanD.zero]) rfl ?_
        exact parted_none Hr.out (((Below.refl _ _).alloc (Nat.le_refl _) _).alloc (by simp) _)
      · have Hbad := hid_ (fun k y0 y1 r => parted_two (l := l) (k := k) (y0 := y0) (y1 := y1) (r := r) (by rw [Hlen.out]; exact h) (by rw [Hxx.out]; exact hx1))
        have Hgood := hid_ (fun y0 y1 r => parted_end (l := l) (y0 := y0) (y1 := y1) (r := r) (by rw [Hlen.out]; exact h) (by rw [Hxx.out]; exact hx1))
        have Hd := hid_ (fun W hW => (Hall.out W hW).from_ 41 h)
        have hnx : x.toNat = 0 ∨ x.toNat = 1 := by omega
        go_wp2_with fail
        all_goals
          go_loopw [3, 33] (fun vr vi wr => ∃ (k : Nat) (y0 y1 : ByteArray) (r : List UInt8) (A3 : Option Addr) (n3 c3 : Nat), vi = .int .i64 (k : Nat) ∧ vr = .slice A3 n3 c3 ∧ Hid (Two l k y0 y1 r) ∧ Hid (∀ W, Below w0.heap.size w0 W → Sl W A3 n3 c3 r) ∧
            Whole wr w.heap.size 28 #[.int .u64 0, .int .u64 0, .int .u64 0, .int .u64 0, .int .u64 0, .string ⟨#[]⟩, .string ⟨#[]⟩, .bool false] ∧ Whole wr (w.heap.size + 1) 54 #[.int .u64 (N0 : Nat), .int .u64 (N1 : Nat), .int .u64 (N2 : Nat), .int .u64 (N3 : Nat), .int .u64 (N4 : Nat)] ∧ Whole wr (w.heap.size + 1 + 1) 52 #[.string y0, .string y1] ∧ Below w.heap.size w wr) (fun _ vi _ => 2 - (intOf vi).toNat)
          case atStart =>
            refine ⟨0, ByteArray.empty, ByteArray.empty, l.drop 41, _, _, _, rfl, rfl, hid_ (two_zero l), hid_ (fun W hW => (Hd.out W hW).at_ ?_ ?_ ?_ rfl), ((whole_new _ _ _).alloc _).alloc _, ?_, ?_, (((Below.refl _ _).alloc (Nat.le_refl _) _).alloc (by simp) _).alloc (by simp; omega) _⟩
            · first | exact cutAt_same (by omega) | (rw [cutAt_add (by omega), Option.map_some, add_plain])
            · omega
            · omega
            · exact (whole_at _ _ _ _ (by simp)).alloc _
            · exact whole_at _ _ _ _ (by simp)
          case round =>
            obtain ⟨k, y0, y1, r, A3, n3, c3, rfl, rfl, HT, Hsl, hw0, hw1, hw2, hb⟩ := hrel
            have Hw0 := hid_ hw0
            have Hw1 := hid_ hw1
            have Hw2 := hid_ hw2
            have Hb := hid_ hb
            have hl0 := hw0.lt
            have hl1 := hw1.lt
            have hl2 := hw2.lt
            clear hw0 hw1 hw2 hb
            rcases HT.out.le with rfl | rfl | rfl
            · have Hc := hid_ (partedText_in w0.heap.size w0 A3 n3 c3 r wr Hsl.out (Hw.out.trans (Hb.out.mono Hw.out.size)))
              go_wp2_with fail
              refine Calls.mono Hc.out ?_
              rintro e w2 ⟨A4, n4, c4, rfl, hs4, hb4⟩
              have Hs4 := hid_ hs4
              have Hb4 := hid_ (Hb.out.trans (hb4.mono Hb.out.size))
              have Hv0 := hid_ (Hw0.out.below hb4 hl0)
              have Hv1 := hid_ (Hw1.out.below hb4 hl1)
              have Hv2 := hid_ (Hw2.out.below hb4 hl2)
              have t0 : w2.cell? ⟨w.heap.size + 1 + 1, 0, none⟩ = some (.string y0) := Hv2.out.cell 0 _ rfl
              have f2 : ∀ o, w2.frozen? ⟨w.heap.size + 1 + 1, o, none⟩ = false := fun o => Hv2.out.free o
              clear hs4 hb4
              by_cases hK : (cutTextF r).1 = 0
              · have Hnext := hid_ (HT.out.one hK)
                rw [hK]
                clear hK
                generalize (cutTextF r).2.1 = y at *
                generalize (cutTextF r).2.2 = r2 at *
                go_wp2_with fail
                go_roundw
                case rel => exact ⟨1, y, y1, r2, A4, n4, c4, rfl, rfl, Hnext, Hs4, Hv0.out.far (by simp only []; omega) _, Hv1.out.far (by simp only []; omega) _, Hv2.out.store 0 _, Hb4.out.setCell (by simp; omega) _⟩
                case measure => simp [intOf]
              · have Hend := hid_ (Hbad.out _ _ _ _ HT.out (by omega) hK)
                have hKb : ((cutTextF r).1 != 0) = true := by rw [bne_iff_ne]; exact hK
                have f0 : ∀ o, w2.frozen? ⟨w.heap.size, o, none⟩ = false := fun o => Hv0.out.free o
                have z0 := Hv0.out.cell 0 _ rfl
                have z1 := Hv0.out.cell 1 _ rfl
                have z2 := Hv0.out.cell 2 _ rfl
                have z3 := Hv0.out.cell 3 _ rfl
                have z4 := Hv0.out.cell 4 _ rfl
                have z5 := Hv0.out.cell 5 _ rfl
                have z6 := Hv0.out.cell 6 _ rfl
                have z7 := Hv0.out.cell 7 _ rfl
                generalize (cutTextF r).1 = K at *
                have HK := hid_ hK
                clear hK
                go_wp2_with fail
                refine bodyPost_ret (v := .tuple #[spanVal SpanD.zero, .slice none 0 0, .int .i64 K]) (by simp [results, Try.results36, go_sem, SpanD.zero, z0, z1, z2, z3, z4, z5, z6, z7]) rfl ?_
                refine parted_none Hend.out ?_
                repeat (refine Below.setCell ?_ (by simp only []; omega) _)
                exact Hb4.out
            · have Hc := hid_ (partedText_in w0.heap.size w0 A3 n3 c3 r wr Hsl.out (Hw.out.trans (Hb.out.mono Hw.out.size)))
              go_wp2_with fail
              refine Calls.mono Hc.out ?_
              rintro e w2 ⟨A4, n4, c4, rfl, hs4, hb4⟩
              have Hs4 := hid_ hs4
              have Hb4 := hid_ (Hb.out.trans (hb4.mono Hb.out.size))
              have Hv0 := hid_ (Hw0.out.below hb4 hl0)
              have Hv1 := hid_ (Hw1.out.below hb4 hl1)
              have Hv2 := hid_ (Hw2.out.below hb4 hl2)
              have t0 : w2.cell? ⟨w.heap.size + 1 + 1, 1, none⟩ = some (.string y1) := Hv2.out.cell 1 _ rfl
              have f2 : ∀ o, w2.frozen? ⟨w.heap.size + 1 + 1, o, none⟩ = false := fun o => Hv2.out.free o
              clear hs4 hb4
              by_cases hK : (cutTextF r).1 = 0
              · have Hnext := hid_ (HT.out.two hK)
                rw [hK]
                clear hK
                generalize (cutTextF r).2.1 = y at *
                generalize (cutTextF r).2.2 = r2 at *
                go_wp2_with fail
                go_roundw
                case rel => exact ⟨2, y0, y, r2, A4, n4, c4, rfl, rfl, Hnext, Hs4, Hv0.out.far (by simp only []; omega) _, Hv1.out.far (by simp only []; omega) _, Hv2.out.store 1 _, Hb4.out.setCell (by simp; omega) _⟩
                case measure => simp [intOf]
              · have Hend := hid_ (Hbad.out _ _ _ _ HT.out (by omega) hK)
                have hKb : ((cutTextF r).1 != 0) = true := by rw [bne_iff_ne]; exact hK
                have f0 : ∀ o, w2.frozen? ⟨w.heap.size, o, none⟩ = false := fun o => Hv0.out.free o
                have z0 := Hv0.out.cell 0 _ rfl
                have z1 := Hv0.out.cell 1 _ rfl
                have z2 := Hv0.out.cell 2 _ rfl
                have z3 := Hv0.out.cell 3 _ rfl
                have z4 := Hv0.out.cell 4 _ rfl
                have z5 := Hv0.out.cell 5 _ rfl
                have z6 := Hv0.out.cell 6 _ rfl
                have z7 := Hv0.out.cell 7 _ rfl
                generalize (cutTextF r).1 = K at *
                have HK := hid_ hK
                clear hK
                go_wp2_with fail
                refine bodyPost_ret (v := .tuple #[spanVal SpanD.zero, .slice none 0 0, .int .i64 K]) (by simp [results, Try.results36, go_sem, SpanD.zero, z0, z1, z2, z3, z4, z5, z6, z7]) rfl ?_
                refine parted_none Hend.out ?_
                repeat (refine Below.setCell ?_ (by simp only []; omega) _)
                exact Hb4.out
            · have Hfin := hid_ (Hgood.out _ _ _ HT.out)
              have f0 : ∀ o, wr.frozen? ⟨w.heap.size, o, none⟩ = false := fun o => Hw0.out.free o
              have z0 := Hw0.out.cell 0 _ rfl
              have z1 := Hw0.out.cell 1 _ rfl
              have z2 := Hw0.out.cell 2 _ rfl
              have z3 := Hw0.out.cell 3 _ rfl
              have z4 := Hw0.out.cell 4 _ rfl
              have z5 := Hw0.out.cell 5 _ rfl
              have z6 := Hw0.out.cell 6 _ rfl
              have z7 := Hw0.out.cell 7 _ rfl
              have m0 := Hw1.out.cell 0 _ rfl
              have m1 := Hw1.out.cell 1 _ rfl
              have m2 := Hw1.out.cell 2 _ rfl
              have m3 := Hw1.out.cell 3 _ rfl
              have m4 := Hw1.out.cell 4 _ rfl
              have s0 := Hw2.out.cell 0 _ rfl
              have s1 := Hw2.out.cell 1 _ rfl
              rcases hnx with hx0 | hx0
              · have e1 : ((x.toNat : Int) == 1) = false := by rw [beq_eq_false_iff_ne]; omega
                have Hnum := hid_ (show numsOf l y0 y1 = ⟨N0, N1, N2, N3, N4, y0, y1, false⟩ by unfold numsOf; rw [Hn0.out, Hn1.out, Hn2.out, Hn3.out, Hn4.out, Hxx.out, hx0]; rfl)
                have Hx0 := hid_ hx0
                clear hx0
                go_wp2_with fail
                refine bodyPost_ret (v := .tuple #[spanVal ⟨N0, N1, N2, N3, N4, y0, y1, false⟩, .slice A3 n3 c3, .int .i64 0]) (by simp [results, Try.results36, go_sem, z0, z1, z2, z3, z4, z5, z6, z7]) rfl ?_
                refine parted_ok (Hfin.out.trans (by rw [Hnum.out])) Hsl.out ?_
                repeat (refine Below.setCell ?_ (by simp only []; omega) _)
                exact Hb.out
              · have e1 : ((x.toNat : Int) == 1) = true := by rw [beq_iff_eq]; omega
                have Hnum := hid_ (show numsOf l y0 y1 = ⟨N0, N1, N2, N3, N4, y0, y1, true⟩ by unfold numsOf; rw [Hn0.out, Hn1.out, Hn2.out, Hn3.out, Hn4.out, Hxx.out, hx0]; rfl)
                have Hx0 := hid_ hx0
                clear hx0
                go_wp2_with fail
                refine bodyPost_ret (v := .tuple #[spanVal ⟨N0, N1, N2, N3, N4, y0, y1, true⟩, .slice A3 n3 c3, .int .i64 0]) (by simp [results, Try.results36, go_sem, z0, z1, z2, z3, z4, z5, z6, z7]) rfl ?_
                refine parted_ok (Hfin.out.trans (by rw [Hnum.out])) Hsl.out ?_
                repeat (refine Below.setCell ?_ (by simp only []; omega) _)
                exact Hb.out
end Go.Proofs.Ytfnjfjghajcdkaa
