/-
  What the program's parted and Cut answer.
-/
import Derived.Test.YtnpbokbfkdncmaaGreatZGA
import Derived.Test.YtnpbokbfkdncmaaGreatZGC
import Derived.Test.YtnpbokbfkdncmaaGreatZGD
namespace Go.Proofs.YtnpbokbfkdncmaaGreat
open Go.RowKit Ru


/-- How far the two texts are cut. -/
def Two (l : List UInt8) (k : Nat) (y0 y1 : ByteArray) (r : List UInt8) : Prop :=
  (k = 0 ∧ y0 = ByteArray.empty ∧ y1 = ByteArray.empty ∧ r = l.drop 41) ∨
  (k = 1 ∧ (cutTextF (l.drop 41)).1 = 0 ∧ y0 = (cutTextF (l.drop 41)).2.1 ∧ y1 = ByteArray.empty ∧ r = (cutTextF (l.drop 41)).2.2) ∨
  (k = 2 ∧ (cutTextF (l.drop 41)).1 = 0 ∧ (cutTextF (cutTextF (l.drop 41)).2.2).1 = 0 ∧ y0 = (cutTextF (l.drop 41)).2.1 ∧ y1 = (cutTextF (cutTextF (l.drop 41)).2.2).2.1 ∧ r = (cutTextF (cutTextF (l.drop 41)).2.2).2.2)
theorem two_zero (l : List UInt8) : Two l 0 ByteArray.empty ByteArray.empty (l.drop 41) := .inl ⟨rfl, rfl, rfl, rfl⟩
theorem Two.one {l : List UInt8} {y0 y1 : ByteArray} {r : List UInt8} (h : Two l 0 y0 y1 r) (hk : (cutTextF r).1 = 0) : Two l 1 (cutTextF r).2.1 y1 (cutTextF r).2.2 := by
  rcases h with ⟨_, h0, h1, rfl⟩ | ⟨h, _⟩ | ⟨h, _⟩
  · exact .inr (.inl ⟨rfl, hk, rfl, h1, rfl⟩)
  · cases h
  · cases h
theorem Two.two {l : List UInt8} {y0 y1 : ByteArray} {r : List UInt8} (h : Two l 1 y0 y1 r) (hk : (cutTextF r).1 = 0) : Two l 2 y0 (cutTextF r).2.1 (cutTextF r).2.2 := by
  rcases h with ⟨h, _⟩ | ⟨_, h0, h1, h2, rfl⟩ | ⟨h, _⟩
  · cases h
  · exact .inr (.inr ⟨rfl, h0, hk, h1, rfl, rfl⟩)
  · cases h
theorem Two.le {l : List UInt8} {k : Nat} {y0 y1 : ByteArray} {r : List UInt8} (h : Two l k y0 y1 r) : k = 0 ∨ k = 1 ∨ k = 2 := by
  rcases h with ⟨h, _⟩ | ⟨h, _⟩ | ⟨h, _⟩ <;> omega
/-- What the bytes say, right or not. -/
def partedF (l : List UInt8) : Int × SpanD × List UInt8 :=
  if l.length < 41 then (3, SpanD.zero, [])
  else if 1 < (l.getD 40 0).toNat then (6, SpanD.zero, [])
  else if (cutTextF (l.drop 41)).1 ≠ 0 then ((cutTextF (l.drop 41)).1, SpanD.zero, [])
  else if (cutTextF (cutTextF (l.drop 41)).2.2).1 ≠ 0 then ((cutTextF (cutTextF (l.drop 41)).2.2).1, SpanD.zero, [])
  else (0, numsOf l (cutTextF (l.drop 41)).2.1 (cutTextF (cutTextF (l.drop 41)).2.2).2.1, (cutTextF (cutTextF (l.drop 41)).2.2).2.2)
theorem cutSpan_parted (l : List UInt8) : cutSpanF l = if (partedF l).1 ≠ 0 then ((partedF l).1, SpanD.zero, []) else if rightF (partedF l).2.1 ≠ 0 then (rightF (partedF l).2.1, SpanD.zero, []) else partedF l := by
  unfold cutSpanF partedF
  repeat' split
  all_goals simp_all
/-- .. and what is behind stands wherever the bytes stand. -/
def PartedPost (w0 w : World) (l : List UInt8) (e : Ending) (w' : World) : Prop :=
  ∃ A n c, e = .returned (.tuple #[spanVal (partedF l).2.1, .slice A n c, .int .i64 (partedF l).1]) ∧ (∀ W, Below w0.heap.size w0 W → Sl W A n c (partedF l).2.2) ∧ Below w.heap.size w w'
theorem parted_none {w0 w w' : World} {l : List UInt8} {k : Int} (h : partedF l = (k, SpanD.zero, [])) (hb : Below w.heap.size w w') :
    PartedPost w0 w l (.returned (.tuple #[spanVal SpanD.zero, .slice none 0 0, .int .i64 k])) w' := ⟨none, 0, 0, by rw [h], by rw [h]; exact fun _ _ => Sl.none _, hb⟩
theorem parted_ok {w0 w w' : World} {l r : List UInt8} {s : SpanD} {A : Option Addr} {n c : Nat} (h : partedF l = (0, s, r)) (hr : ∀ W, Below w0.heap.size w0 W → Sl W A n c r) (hb : Below w.heap.size w w') :
    PartedPost w0 w l (.returned (.tuple #[spanVal s, .slice A n c, .int .i64 0])) w' := ⟨A, n, c, by rw [h], by rw [h]; exact hr, hb⟩
theorem parted_two {l : List UInt8} (h : 41 ≤ l.length) (h1 : ¬ 1 < (l.getD 40 0).toNat) {k : Nat} {y0 y1 : ByteArray} {r : List UInt8} (ht : Two l k y0 y1 r) (hk : k < 2) (hc : (cutTextF r).1 ≠ 0) : partedF l = ((cutTextF r).1, SpanD.zero, []) := by
  unfold partedF
  rw [if_neg (by omega), if_neg h1]
  rcases ht with ⟨rfl, _, _, rfl⟩ | ⟨rfl, h0, _, _, rfl⟩ | ⟨rfl, _⟩
  · rw [if_pos hc]
  · rw [if_neg (by rw [h0]; simp), if_pos hc]
  · omega
theorem parted_end {l : List UInt8} (h : 41 ≤ l.length) (h1 : ¬ 1 < (l.getD 40 0).toNat) {y0 y1 : ByteArray} {r : List UInt8} (ht : Two l 2 y0 y1 r) : partedF l = (0, numsOf l y0 y1, r) := by
  unfold partedF
  rw [if_neg (by omega), if_neg h1]
  rcases ht with ⟨h, _⟩ | ⟨h, _⟩ | ⟨_, h0, h2, rfl, rfl, rfl⟩
  · cases h
  · cases h
  · rw [if_neg (by rw [h0]; simp), if_neg (by rw [h2]; simp)]
theorem parted_short {l : List UInt8} (h : l.length < 41) : partedF l = (3, SpanD.zero, []) := by unfold partedF; rw [if_pos h]

set_option maxRecDepth 100000 in
set_option maxHeartbeats 1000000 in
theorem parted_few (w0 : World) (A : Option Addr) (n c : Nat) (l : List UInt8) (w : World) (hs : Sl w A n c l) (h : n < 41) :
    Calls Tryz.prog 96 #[.slice A n c] w (PartedPost w0 w l) := by
  have Hc := hid_ (parted_short (l := l) (by rw [hs.len]; exact h))
  go_enter Tryz.func96, Tryz.ntmps96
  go_wp2_with fail
  refine bodyPost_ret (v := .tuple #[spanVal SpanD.zero, .slice none 0 0, .int .i64 3]) (by simp [results, Tryz.results96, go_sem, SpanD.zero]) rfl ?_
  exact parted_none Hc.out ((Below.refl _ _).alloc (Nat.le_refl _) _)

/-- A number's contract at a place of the bytes, in whatever world they still stand. -/
theorem number_from (b off : Nat) (n c : Nat) (l : List UInt8) (m : Nat) (w : World) (hs : Sl w (some ⟨b, off, none⟩) n c l) (h : m + 8 ≤ n) (hm : m < c) :
    ∀ W, Below w.heap.size w W → Calls Tryz.prog 103 #[.slice (some ⟨b, off + m, none⟩) (n - m) (c - m)] W fun e w' => e = .returned (.int .u64 (numB (l.drop m) 8 : Nat)) ∧ W = w' := by
  intro W hW
  have h1 := (hs.from_ m (by omega)).below hW
  rw [cutAt_add (by omega), Option.map_some, add_plain] at h1
  exact number_any _ _ _ _ W h1 (by omega)

set_option maxRecDepth 100000 in
set_option maxHeartbeats 4000000 in
theorem parted_many (w0 : World) (b off : Nat) (n c : Nat) (l : List UInt8) (w : World) (hall : ∀ W, Below w0.heap.size w0 W → Sl W (some ⟨b, off, none⟩) n c l) (hw : Below w0.heap.size w0 w) (h : 41 ≤ n) :
    Calls Tryz.prog 96 #[.slice (some ⟨b, off, none⟩) n c] w (PartedPost w0 w l) := by
  have hs := hall w hw
  have Hall := hid_ hall
  have Hw := hid_ hw
  have hle := hs.le
  have hnc := hs.cap
  have hcm := hs.max
  have Hs := hid_ hs
  clear hall hw
  have Hlen := hid_ hs.len
  have HN0 := hid_ (number_from b off n c l 0 w hs (by omega) (by omega))
  have HN1 := hid_ (number_from b off n c l 8 w hs (by omega) (by omega))
  have HN2 := hid_ (number_from b off n c l 16 w hs (by omega) (by omega))
  have HN3 := hid_ (number_from b off n c l 24 w hs (by omega) (by omega))
  have HN4 := hid_ (number_from b off n c l 32 w hs (by omega) (by omega))
  rw [List.drop_zero] at HN0
  generalize hn0 : numB l 8 = N0 at HN0
  have Hn0 := hid_ hn0
  clear hn0
  generalize hn1 : numB (l.drop 8) 8 = N1 at HN1
  have Hn1 := hid_ hn1
  clear hn1
  generalize hn2 : numB (l.drop 16) 8 = N2 at HN2
  have Hn2 := hid_ hn2
  clear hn2
  generalize hn3 : numB (l.drop 24) 8 = N3 at HN3
  have Hn3 := hid_ hn3
  clear hn3
  generalize hn4 : numB (l.drop 32) 8 = N4 at HN4
  have Hn4 := hid_ hn4
  clear hn4
  have h40l : 40 < l.length := by rw [hs.len]; omega
  obtain ⟨_, _, e40, h40⟩ := hs.holds.at_ h40l
  cases e40
  have hbw : b < w.heap.size := lt_of_cell h40
  have hb1 : w.heap.size ≠ b := by omega
  have hb2 : w.heap.size + 1 ≠ b := by omega
  have hb3 : w.heap.size + 1 + 1 ≠ b := by omega
  have hx40 : l[40] = l.getD 40 0 := by rw [List.getD_eq_getElem?_getD, List.getElem?_eq_getElem h40l]; rfl
  rw [hx40] at h40
  have bx := UInt8.toNat_lt (l.getD 40 0)
  generalize hxx : l.getD 40 0 = x at *
  have Hxx := hid_ hxx
  clear hs hx40 hxx
  have n40 : ((n : Int) < 41) = False := by simp; omega
  go_enter Tryz.func96, Tryz.ntmps96
  go_wp2_with fail
  go_loopw [14] (fun vi wr => ∃ k : Nat, vi = .int .i64 (k : Nat) ∧ (
    (k = 0 ∧ wr = (w.alloc (.cells #[.int .u64 0, .int .u64 0, .int .u64 0, .int .u64 0, .int .u64 0, .string ⟨#[]⟩, .string ⟨#[]⟩, .bool false] 44)).alloc (.cells #[.int .u64 0, .int .u64 0, .int .u64 0, .int .u64 0, .int .u64 0] 119)) ∨
    (k = 1 ∧ wr = (w.alloc (.cells #[.int .u64 0, .int .u64 0, .int .u64 0, .int .u64 0, .int .u64 0, .string ⟨#[]⟩, .string ⟨#[]⟩, .bool false] 44)).alloc (.cells #[.int .u64 (N0 : Nat), .int .u64 0, .int .u64 0, .int .u64 0, .int .u64 0] 119)) ∨
    (k = 2 ∧ wr = (w.alloc (.cells #[.int .u64 0, .int .u64 0, .int .u64 0, .int .u64 0, .int .u64 0, .string ⟨#[]⟩, .string ⟨#[]⟩, .bool false] 44)).alloc (.cells #[.int .u64 (N0 : Nat), .int .u64 (N1 : Nat), .int .u64 0, .int .u64 0, .int .u64 0] 119)) ∨
    (k = 3 ∧ wr = (w.alloc (.cells #[.int .u64 0, .int .u64 0, .int .u64 0, .int .u64 0, .int .u64 0, .string ⟨#[]⟩, .string ⟨#[]⟩, .bool false] 44)).alloc (.cells #[.int .u64 (N0 : Nat), .int .u64 (N1 : Nat), .int .u64 (N2 : Nat), .int .u64 0, .int .u64 0] 119)) ∨
    (k = 4 ∧ wr = (w.alloc (.cells #[.int .u64 0, .int .u64 0, .int .u64 0, .int .u64 0, .int .u64 0, .string ⟨#[]⟩, .string ⟨#[]⟩, .bool false] 44)).alloc (.cells #[.int .u64 (N0 : Nat), .int .u64 (N1 : Nat), .int .u64 (N2 : Nat), .int .u64 (N3 : Nat), .int .u64 0] 119)) ∨
    (k = 5 ∧ wr = (w.alloc (.cells #[.int .u64 0, .int .u64 0, .int .u64 0, .int .u64 0, .int .u64 0, .string ⟨#[]⟩, .string ⟨#[]⟩, .bool false] 44)).alloc (.cells #[.int .u64 (N0 : Nat), .int .u64 (N1 : Nat), .int .u64 (N2 : Nat), .int .u64 (N3 : Nat), .int .u64 (N4 : Nat)] 119)))) (fun vi _ => 5 - (intOf vi).toNat)
  case atStart => exact ⟨0, rfl, .inl ⟨rfl, rfl⟩⟩
  case round =>
    obtain ⟨k, rfl, ⟨rfl, rfl⟩ | ⟨rfl, rfl⟩ | ⟨rfl, rfl⟩ | ⟨rfl, rfl⟩ | ⟨rfl, rfl⟩ | ⟨rfl, rfl⟩⟩ := hrel
    · go_wp2_with fail
      refine Calls.mono (HN0.out _ (((Below.refl _ _).alloc (Nat.le_refl _) _).alloc (by simp) _)) ?_
      rintro e w' ⟨rfl, rfl⟩
      go_wp2_with fail
      go_roundw
      case rel => exact ⟨1, rfl, .inr (.inl ⟨rfl, by first | rfl | trivial⟩)⟩
      case measure => simp [intOf]
    · go_wp2_with fail
      refine Calls.mono (HN1.out _ (((Below.refl _ _).alloc (Nat.le_refl _) _).alloc (by simp) _)) ?_
      rintro e w' ⟨rfl, rfl⟩
      go_wp2_with fail
      go_roundw
      case rel => exact ⟨2, rfl, .inr (.inr (.inl ⟨rfl, by first | rfl | trivial⟩))⟩
      case measure => simp [intOf]
    · go_wp2_with fail
      refine Calls.mono (HN2.out _ (((Below.refl _ _).alloc (Nat.le_refl _) _).alloc (by simp) _)) ?_
      rintro e w' ⟨rfl, rfl⟩
      go_wp2_with fail
      go_roundw
      case rel => exact ⟨3, rfl, .inr (.inr (.inr (.inl ⟨rfl, by first | rfl | trivial⟩)))⟩
      case measure => simp [intOf]
    · go_wp2_with fail
      refine Calls.mono (HN3.out _ (((Below.refl _ _).alloc (Nat.le_refl _) _).alloc (by simp) _)) ?_
      rintro e w' ⟨rfl, rfl⟩
      go_wp2_with fail
      go_roundw
      case rel => exact ⟨4, rfl, .inr (.inr (.inr (.inr (.inl ⟨rfl, by first | rfl | trivial⟩))))⟩
      case measure => simp [intOf]
    · go_wp2_with fail
      refine Calls.mono (HN4.out _ (((Below.refl _ _).alloc (Nat.le_refl _) _).alloc (by simp) _)) ?_
      rintro e w' ⟨rfl, rfl⟩
      go_wp2_with fail
      go_roundw
      case rel => exact ⟨5, rfl, .inr (.inr (.inr (.inr (.inr (⟨rfl, by first | rfl | trivial⟩)))))⟩
      case measure => simp [intOf]
    · by_cases hx1 : 1 < x.toNat
      · have Hr := hid_ (show partedF l = (6, SpanD.zero, []) by unfold partedF; rw [if_neg (by rw [Hlen.out]; omega), if_pos (by rw [Hxx.out]; exact hx1)])
        go_wp2_with fail
        refine bodyPost_ret (v := .tuple #[spanVal SpanD.zero, .slice none 0 0, .int .i64 6]) (by simp [results, Tryz.results96, go_sem, SpanD.zero]) rfl ?_
        exact parted_none Hr.out (((Below.refl _ _).alloc (Nat.le_refl _) _).alloc (by simp) _)
      · have Hbad := hid_ (fun k y0 y1 r => parted_two (l := l) (k := k) (y0 := y0) (y1 := y1) (r := r) (by rw [Hlen.out]; exact h) (by rw [Hxx.out]; exact hx1))
        have Hgood := hid_ (fun y0 y1 r => parted_end (l := l) (y0 := y0) (y1 := y1) (r := r) (by rw [Hlen.out]; exact h) (by rw [Hxx.out]; exact hx1))
        have Hd := hid_ (fun W hW => (Hall.out W hW).from_ 41 h)
        have hnx : x.toNat = 0 ∨ x.toNat = 1 := by omega
        go_wp2_with fail
        all_goals
          go_loopw [3, 33] (fun vr vi wr => ∃ (k : Nat) (y0 y1 : ByteArray) (r : List UInt8) (A3 : Option Addr) (n3 c3 : Nat), vi = .int .i64 (k : Nat) ∧ vr = .slice A3 n3 c3 ∧ Hid (Two l k y0 y1 r) ∧ Hid (∀ W, Below w0.heap.size w0 W → Sl W A3 n3 c3 r) ∧
            Whole wr w.heap.size 44 #[.int .u64 0, .int .u64 0, .int .u64 0, .int .u64 0, .int .u64 0, .string ⟨#[]⟩, .string ⟨#[]⟩, .bool false] ∧ Whole wr (w.heap.size + 1) 119 #[.int .u64 (N0 : Nat), .int .u64 (N1 : Nat), .int .u64 (N2 : Nat), .int .u64 (N3 : Nat), .int .u64 (N4 : Nat)] ∧ Whole wr (w.heap.size + 1 + 1) 122 #[.string y0, .string y1] ∧ Below w.heap.size w wr) (fun _ vi _ => 2 - (intOf vi).toNat)
          case atStart =>
            refine ⟨0, ByteArray.empty, ByteArray.empty, l.drop 41, _, _, _, rfl, rfl, hid_ (two_zero l), hid_ (fun W hW => (Hd.out W hW).at_ ?_ ?_ ?_ rfl), ((whole_new _ _ _).alloc _).alloc _, ?_, ?_, (((Below.refl _ _).alloc (Nat.le_refl _) _).alloc (by simp) _).alloc (by simp; omega) _⟩
            · first | exact cutAt_same (by omega) | (rw [cutAt_add (by omega), Option.map_some, add_plain])
            · omega
            · omega
            · exact (whole_at _ _ _ _ (by simp)).alloc _
            · exact whole_at _ _ _ _ (by simp)
          case round =>
            obtain ⟨k, y0, y1, r, A3, n3, c3, rfl, rfl, HT, Hsl, hw0, hw1, hw2, hb⟩ := hrel
            have Hw0 := hid_ hw0
            have Hw1 := hid_ hw1
            have Hw2 := hid_ hw2
            have Hb := hid_ hb
            have hl0 := hw0.lt
            have hl1 := hw1.lt
            have hl2 := hw2.lt
            clear hw0 hw1 hw2 hb
            rcases HT.out.le with rfl | rfl | rfl
            · have Hc := hid_ (partedText_in w0.heap.size w0 A3 n3 c3 r wr Hsl.out (Hw.out.trans (Hb.out.mono Hw.out.size)))
              go_wp2_with fail
              refine Calls.mono Hc.out ?_
              rintro e w2 ⟨A4, n4, c4, rfl, hs4, hb4⟩
              have Hs4 := hid_ hs4
              have Hb4 := hid_ (Hb.out.trans (hb4.mono Hb.out.size))
              have Hv0 := hid_ (Hw0.out.below hb4 hl0)
              have Hv1 := hid_ (Hw1.out.below hb4 hl1)
              have Hv2 := hid_ (Hw2.out.below hb4 hl2)
              have t0 : w2.cell? ⟨w.heap.size + 1 + 1, 0, none⟩ = some (.string y0) := Hv2.out.cell 0 _ rfl
              have f2 : ∀ o, w2.frozen? ⟨w.heap.size + 1 + 1, o, none⟩ = false := fun o => Hv2.out.free o
              clear hs4 hb4
              by_cases hK : (cutTextF r).1 = 0
              · have Hnext := hid_ (HT.out.one hK)
                rw [hK]
                clear hK
                generalize (cutTextF r).2.1 = y at *
                generalize (cutTextF r).2.2 = r2 at *
                go_wp2_with fail
                go_roundw
                case rel => exact ⟨1, y, y1, r2, A4, n4, c4, rfl, rfl, Hnext, Hs4, Hv0.out.far (by simp only []; omega) _, Hv1.out.far (by simp only []; omega) _, Hv2.out.store 0 _, Hb4.out.setCell (by simp; omega) _⟩
                case measure => simp [intOf]
              · have Hend := hid_ (Hbad.out _ _ _ _ HT.out (by omega) hK)
                have hKb : ((cutTextF r).1 != 0) = true := by rw [bne_iff_ne]; exact hK
                have f0 : ∀ o, w2.frozen? ⟨w.heap.size, o, none⟩ = false := fun o => Hv0.out.free o
                have z0 := Hv0.out.cell 0 _ rfl
                have z1 := Hv0.out.cell 1 _ rfl
                have z2 := Hv0.out.cell 2 _ rfl
                have z3 := Hv0.out.cell 3 _ rfl
                have z4 := Hv0.out.cell 4 _ rfl
                have z5 := Hv0.out.cell 5 _ rfl
                have z6 := Hv0.out.cell 6 _ rfl
                have z7 := Hv0.out.cell 7 _ rfl
                generalize (cutTextF r).1 = K at *
                have HK := hid_ hK
                clear hK
                go_wp2_with fail
                refine bodyPost_ret (v := .tuple #[spanVal SpanD.zero, .slice none 0 0, .int .i64 K]) (by simp [results, Tryz.results96, go_sem, SpanD.zero, z0, z1, z2, z3, z4, z5, z6, z7]) rfl ?_
                refine parted_none Hend.out ?_
                repeat (refine Below.setCell ?_ (by simp only []; omega) _)
                exact Hb4.out
            · have Hc := hid_ (partedText_in w0.heap.size w0 A3 n3 c3 r wr Hsl.out (Hw.out.trans (Hb.out.mono Hw.out.size)))
              go_wp2_with fail
              refine Calls.mono Hc.out ?_
              rintro e w2 ⟨A4, n4, c4, rfl, hs4, hb4⟩
              have Hs4 := hid_ hs4
              have Hb4 := hid_ (Hb.out.trans (hb4.mono Hb.out.size))
              have Hv0 := hid_ (Hw0.out.below hb4 hl0)
              have Hv1 := hid_ (Hw1.out.below hb4 hl1)
              have Hv2 := hid_ (Hw2.out.below hb4 hl2)
              have t0 : w2.cell? ⟨w.heap.size + 1 + 1, 1, none⟩ = some (.string y1) := Hv2.out.cell 1 _ rfl
              have f2 : ∀ o, w2.frozen? ⟨w.heap.size + 1 + 1, o, none⟩ = false := fun o => Hv2.out.free o
              clear hs4 hb4
              by_cases hK : (cutTextF r).1 = 0
              · have Hnext := hid_ (HT.out.two hK)
                rw [hK]
                clear hK
                generalize (cutTextF r).2.1 = y at *
                generalize (cutTextF r).2.2 = r2 at *
                go_wp2_with fail
                go_roundw
                case rel => exact ⟨2, y0, y, r2, A4, n4, c4, rfl, rfl, Hnext, Hs4, Hv0.out.far (by simp only []; omega) _, Hv1.out.far (by simp only []; omega) _, Hv2.out.store 1 _, Hb4.out.setCell (by simp; omega) _⟩
                case measure => simp [intOf]
              · have Hend := hid_ (Hbad.out _ _ _ _ HT.out (by omega) hK)
                have hKb : ((cutTextF r).1 != 0) = true := by rw [bne_iff_ne]; exact hK
                have f0 : ∀ o, w2.frozen? ⟨w.heap.size, o, none⟩ = false := fun o => Hv0.out.free o
                have z0 := Hv0.out.cell 0 _ rfl
                have z1 := Hv0.out.cell 1 _ rfl
                have z2 := Hv0.out.cell 2 _ rfl
                have z3 := Hv0.out.cell 3 _ rfl
                have z4 := Hv0.out.cell 4 _ rfl
                have z5 := Hv0.out.cell 5 _ rfl
                have z6 := Hv0.out.cell 6 _ rfl
                have z7 := Hv0.out.cell 7 _ rfl
                generalize (cutTextF r).1 = K at *
                have HK := hid_ hK
                clear hK
                go_wp2_with fail
                refine bodyPost_ret (v := .tuple #[spanVal SpanD.zero, .slice none 0 0, .int .i64 K]) (by simp [results, Tryz.results96, go_sem, SpanD.zero, z0, z1, z2, z3, z4, z5, z6, z7]) rfl ?_
                refine parted_none Hend.out ?_
                repeat (refine Below.setCell ?_ (by simp only []; omega) _)
                exact Hb4.out
            · have Hfin := hid_ (Hgood.out _ _ _ HT.out)
              have f0 : ∀ o, wr.frozen? ⟨w.heap.size, o, none⟩ = false := fun o => Hw0.out.free o
              have z0 := Hw0.out.cell 0 _ rfl
              have z1 := Hw0.out.cell 1 _ rfl
              have z2 := Hw0.out.cell 2 _ rfl
              have z3 := Hw0.out.cell 3 _ rfl
              have z4 := Hw0.out.cell 4 _ rfl
              have z5 := Hw0.out.cell 5 _ rfl
              have z6 := Hw0.out.cell 6 _ rfl
              have z7 := Hw0.out.cell 7 _ rfl
              have m0 := Hw1.out.cell 0 _ rfl
              have m1 := Hw1.out.cell 1 _ rfl
              have m2 := Hw1.out.cell 2 _ rfl
              have m3 := Hw1.out.cell 3 _ rfl
              have m4 := Hw1.out.cell 4 _ rfl
              have s0 := Hw2.out.cell 0 _ rfl
              have s1 := Hw2.out.cell 1 _ rfl
              rcases hnx with hx0 | hx0
              · have e1 : ((x.toNat : Int) == 1) = false := by rw [beq_eq_false_iff_ne]; omega
                have Hnum := hid_ (show numsOf l y0 y1 = ⟨N0, N1, N2, N3, N4, y0, y1, false⟩ by unfold numsOf; rw [Hn0.out, Hn1.out, Hn2.out, Hn3.out, Hn4.out, Hxx.out, hx0]; rfl)
                have Hx0 := hid_ hx0
                clear hx0
                go_wp2_with fail
                refine bodyPost_ret (v := .tuple #[spanVal ⟨N0, N1, N2, N3, N4, y0, y1, false⟩, .slice A3 n3 c3, .int .i64 0]) (by simp [results, Tryz.results96, go_sem, z0, z1, z2, z3, z4, z5, z6, z7]) rfl ?_
                refine parted_ok (Hfin.out.trans (by rw [Hnum.out])) Hsl.out ?_
                repeat (refine Below.setCell ?_ (by simp only []; omega) _)
                exact Hb.out
              · have e1 : ((x.toNat : Int) == 1) = true := by rw [beq_iff_eq]; omega
                have Hnum := hid_ (show numsOf l y0 y1 = ⟨N0, N1, N2, N3, N4, y0, y1, true⟩ by unfold numsOf; rw [Hn0.out, Hn1.out, Hn2.out, Hn3.out, Hn4.out, Hxx.out, hx0]; rfl)
                have Hx0 := hid_ hx0
                clear hx0
                go_wp2_with fail
                refine bodyPost_ret (v := .tuple #[spanVal ⟨N0, N1, N2, N3, N4, y0, y1, true⟩, .slice A3 n3 c3, .int .i64 0]) (by simp [results, Tryz.results96, go_sem, z0, z1, z2, z3, z4, z5, z6, z7]) rfl ?_
                refine parted_ok (Hfin.out.trans (by rw [Hnum.out])) Hsl.out ?_
                repeat (refine Below.setCell ?_ (by simp only []; omega) _)
                exact Hb.out
end Go.Proofs.YtnpbokbfkdncmaaGreat

/-
  What the program's Cut answers.
-/
namespace Go.Proofs.YtnpbokbfkdncmaaGreat
open Go.RowKit Ru

theorem Own.far {B : Nat} {w : World} {A : Option Addr} {n c : Nat} {l : List UInt8} (h : Own B w A n c l) {p : Addr} (hp : p.block < B) (v : Value) : Own B (w.setCell p v) A n c l := by
  obtain ⟨hx, h | ⟨g, cap, cur, e, hg, hh, r⟩⟩ := h
  · exact ⟨hx, .inl h⟩
  · exact ⟨hx, .inr ⟨g, cap, cur, e, hg, (Below.heap_setCell w p v g (by omega)).trans hh, r⟩⟩
/-- A span stored into a block. -/
abbrev setSpan (w : World) (g : Nat) (s : SpanD) : World :=
  (((((((w.setCell ⟨g, 0, none⟩ (.int .u64 (s.trace : Nat))).setCell ⟨g, 1, none⟩ (.int .u64 (s.id : Nat))).setCell ⟨g, 2, none⟩ (.int .u64 (s.parent : Nat))).setCell ⟨g, 3, none⟩ (.int .u64 (s.start : Nat))).setCell ⟨g, 4, none⟩ (.int .u64 (s.len : Nat))).setCell ⟨g, 5, none⟩ (.string s.service)).setCell ⟨g, 6, none⟩ (.string s.name)).setCell ⟨g, 7, none⟩ (.bool s.fail)
theorem eight_of {cs : Array Value} (h : cs.size = 8) : ∃ a b c d e f g i, cs = #[a, b, c, d, e, f, g, i] := by
  obtain ⟨l⟩ := cs
  match l, h with
  | [a, b, c, d, e, f, g, i], _ => exact ⟨a, b, c, d, e, f, g, i, rfl⟩
theorem Whole.span {w : World} {g : Nat} {t : TypeId} {cs : Array Value} (h : Whole w g t cs) (hc : cs.size = 8) (s : SpanD) : Whole (setSpan w g s) g t (spanCells s) := by
  obtain ⟨a, b, c, d, e, f, k, i, rfl⟩ := eight_of hc
  have h8 := (((((((h.store 0 (.int .u64 (s.trace : Nat))).store 1 (.int .u64 (s.id : Nat))).store 2 (.int .u64 (s.parent : Nat))).store 3 (.int .u64 (s.start : Nat))).store 4 (.int .u64 (s.len : Nat))).store 5 (.string s.service)).store 6 (.string s.name)).store 7 (.bool s.fail)
  have e : ((((((((#[a, b, c, d, e, f, k, i].setIfInBounds 0 (.int .u64 (s.trace : Nat))).setIfInBounds 1 (.int .u64 (s.id : Nat))).setIfInBounds 2 (.int .u64 (s.parent : Nat))).setIfInBounds 3 (.int .u64 (s.start : Nat))).setIfInBounds 4 (.int .u64 (s.len : Nat))).setIfInBounds 5 (.string s.service)).setIfInBounds 6 (.string s.name)).setIfInBounds 7 (.bool s.fail) : Array Value) = spanCells s := by simp [spanCells]
  rw [e] at h8
  exact h8
theorem Whole.box {w : World} {g : Nat} {t : TypeId} {s : SpanD} (h : Whole w g t (spanCells s)) : Box w g s :=
  ⟨h.cell 0 _ rfl, h.cell 1 _ rfl, h.cell 2 _ rfl, h.cell 3 _ rfl, h.cell 4 _ rfl, h.cell 5 _ rfl, h.cell 6 _ rfl, h.cell 7 _ rfl⟩
theorem below_span {B : Nat} {a w : World} (h : Below B a w) {g : Nat} (hg : B ≤ g) (s : SpanD) : Below B a (setSpan w g s) :=
  ((((((((h.setCell (p := ⟨g, 0, none⟩) hg _).setCell (p := ⟨g, 1, none⟩) hg _).setCell (p := ⟨g, 2, none⟩) hg _).setCell (p := ⟨g, 3, none⟩) hg _).setCell (p := ⟨g, 4, none⟩) hg _).setCell (p := ⟨g, 5, none⟩) hg _).setCell (p := ⟨g, 6, none⟩) hg _).setCell (p := ⟨g, 7, none⟩) hg _)
theorem parted_any (w0 : World) (A : Option Addr) (n c : Nat) (l : List UInt8) (w : World) (hall : ∀ W, Below w0.heap.size w0 W → Sl W A n c l) (hw : Below w0.heap.size w0 w) :
    Calls Tryz.prog 96 #[.slice A n c] w (PartedPost w0 w l) := by
  have hs := hall w hw
  by_cases h : n < 41
  · exact parted_few w0 A n c l w hs h
  · obtain ⟨b, off, rfl, _⟩ := hs.holds.at_ (k := 0) (by rw [hs.len]; omega)
    exact parted_many w0 b off n c l w hall hw (by omega)
/-- The cells of a span's own block. -/
theorem spanCells_eq (s : SpanD) : spanCells s = #[.int .u64 (s.trace : Nat), .int .u64 (s.id : Nat), .int .u64 (s.parent : Nat), .int .u64 (s.start : Nat), .int .u64 (s.len : Nat), .string s.service, .string s.name, .bool s.fail] := rfl
theorem cut_bad {l : List UInt8} {k : Int} (h : (partedF l).1 = k) (hk : k ≠ 0) : cutSpanF l = (k, SpanD.zero, []) := by
  rw [cutSpan_parted, h, if_pos hk]
theorem cut_wrong {l : List UInt8} (h : (partedF l).1 = 0) {k : Int} (hr : rightF (partedF l).2.1 = k) (hk : k ≠ 0) : cutSpanF l = (k, SpanD.zero, []) := by
  rw [cutSpan_parted, if_neg (by rw [h]; simp), hr, if_pos hk]
theorem cut_fine {l : List UInt8} (h : (partedF l).1 = 0) (hr : rightF (partedF l).2.1 = 0) : cutSpanF l = (0, (partedF l).2.1, (partedF l).2.2) := by
  rw [cutSpan_parted, if_neg (by rw [h]; simp), if_neg (by rw [hr]; simp), ← h]
theorem partedF_wf (l : List UInt8) (hl : l.length ≤ 9223372036854775807) : (partedF l).2.1.Wf := by
  have hz : SpanD.zero.Wf := ⟨by decide, by decide, by decide, by decide, by decide, by decide, by decide⟩
  have hc : ∀ m : List UInt8, m.length ≤ 9223372036854775807 → (cutTextF m).2.1.size ≤ 9223372036854775807 ∧ (cutTextF m).2.2.length ≤ 9223372036854775807 := by
    intro m hm
    unfold cutTextF
    repeat' split
    all_goals simp [strOf_size]
    all_goals omega
  have h1 := hc (l.drop 41) (by rw [List.length_drop]; omega)
  have h2 := hc _ h1.2
  unfold partedF
  repeat' split
  all_goals first | exact hz | exact numsOf_wf _ _ _ h1.1 h2.1
theorem partedF_rest (l : List UInt8) : (partedF l).2.2.length ≤ l.length := by
  have hc : ∀ m : List UInt8, (cutTextF m).2.2.length ≤ m.length := by
    intro m
    unfold cutTextF
    repeat' split
    all_goals simp
  have h1 := hc (l.drop 41)
  have h2 := hc (cutTextF (l.drop 41)).2.2
  rw [List.length_drop] at h1
  unfold partedF
  repeat' split
  all_goals simp only [List.length_nil]
  all_goals omega
theorem spanCut_ok {w w' : World} {l r : List UInt8} {s : SpanD} {A : Option Addr} {n c : Nat} (h : cutSpanF l = (0, s, r)) (hr : Sl w' A n c r) (hb : Below w.heap.size w w') :
    SpanCutPost w l (.returned (.tuple #[spanVal s, .slice A n c, .int .i64 0])) w' := ⟨A, n, c, by rw [h], by rw [h]; exact hr, hb⟩

set_option maxRecDepth 100000 in
set_option maxHeartbeats 4000000 in
theorem cut_any (A : Option Addr) (n c : Nat) (l : List UInt8) (w : World) (hs : Sl w A n c l) (hn : n ≤ 140737488000000) :
    Calls Tryz.prog 83 #[.slice A n c] w (SpanCutPost w l) := by
  have Hp := hid_ (fun W hW => parted_any w A n c l W (fun _ h => hs.below h) hW)
  have Hwf := hid_ (partedF_wf l (by rw [hs.len]; omega))
  have Hr := hid_ (fun W => right_any (partedF l).2.1 W Hwf.out)
  have Hbad := hid_ (fun hk => cut_bad (l := l) rfl hk)
  have Hwrong := hid_ (fun h hr => cut_wrong (l := l) h rfl hr)
  have Hfine := hid_ (cut_fine (l := l))
  have Hlen := hid_ (show (partedF l).2.2.length ≤ 140737488000000 by have := partedF_rest l; have := hs.len; omega)
  clear hs
  go_enter Tryz.func83, Tryz.ntmps83
  go_wp2_with fail
  refine Calls.mono (Hp.out _ ((Below.refl _ _).alloc (Nat.le_refl _) _)) ?_
  rintro e w1 ⟨A1, n1, c1, rfl, hs1, hb1⟩
  have Hs1 := hid_ hs1
  have Hw1 := hid_ ((whole_new w 44 _).below hb1 (by simp))
  have Hb1 := hid_ (((Below.refl w.heap.size w).alloc (Nat.le_refl _) _).trans (hb1.mono (by simp)))
  have hlt1 := Hw1.out.lt
  have f1 : ∀ o, w1.frozen? ⟨w.heap.size, o, none⟩ = false := fun o => Hw1.out.free o
  have z0 := Hw1.out.cell 0 _ rfl
  have z1 := Hw1.out.cell 1 _ rfl
  have z2 := Hw1.out.cell 2 _ rfl
  have z3 := Hw1.out.cell 3 _ rfl
  have z4 := Hw1.out.cell 4 _ rfl
  have z5 := Hw1.out.cell 5 _ rfl
  have z6 := Hw1.out.cell 6 _ rfl
  have z7 := Hw1.out.cell 7 _ rfl
  clear hs1 hb1
  generalize hK : (partedF l).1 = K at *
  have HK := hid_ hK
  clear hK
  generalize hS : (partedF l).2.1 = s at *
  have HS := hid_ hS
  clear hS
  generalize hR : (partedF l).2.2 = r at *
  have HR := hid_ hR
  clear hR
  by_cases hk : K = 0
  · have hkb : (K == 0) = true := by rw [beq_iff_eq]; exact hk
    have Hk := hid_ hk
    clear hk
    go_wp2_with fail
    have Hw2 := hid_ (Hw1.out.span rfl s)
    have Hb2 := hid_ (below_span Hb1.out (Nat.le_refl w.heap.size) s)
    refine Calls.mono (Hr.out _) ?_
    rintro e w3 ⟨rfl, hb3⟩
    have Hw3 := hid_ (Hw2.out.below hb3 (by simpa using hlt1))
    have Hb3 := hid_ (Hb2.out.trans (hb3.mono (by simpa using Hb1.out.size)))
    have hlt3 := Hw3.out.lt
    clear hb3 z0 z1 z2 z3 z4 z5 z6 z7 f1
    obtain ⟨z0, z1, z2, z3, z4, z5, z6, z7⟩ := Hw3.out.box
    have f3 : ∀ o, w3.frozen? ⟨w.heap.size, o, none⟩ = false := fun o => Hw3.out.free o
    by_cases hr : rightF s = 0
    · have Hcut := hid_ (Hfine.out Hk.out hr)
      rw [hr]
      have Hcl := hid_ (fun W hW => clone_any A1 n1 c1 r W (Hs1.out W hW) (by rw [← (Hs1.out W hW).len]; exact Hlen.out))
      clear hr
      go_wp2_with fail
      go_region_with (first | (go_at_call 55; (with_reducible refine Calls.mono (Hcl.out w3.drew Hb3.out.drew) ?_); rintro e w4 ⟨A5, n5, c5, rfl, ho5, hb5⟩; have Ho5 := hid_ ho5; have Hb5 := hid_ (Hb3.out.drew.trans (hb5.mono Hb3.out.size)); have Hw5 := hid_ (Whole.below (w := w3.drew) Hw3.out hb5 hlt3); clear ho5 hb5; have f4 := (fun o => Hw5.out.free o); obtain ⟨q0, q1, q2, q3, q4, q5, q6, q7⟩ := Hw5.out.box))
      all_goals
        go_wp2_with fail
        have Hy := Hw5.out.span rfl s
        have Hby := below_span Hb5.out (Nat.le_refl w.heap.size) s
        have hr4 : Sl (setSpan w4 w.heap.size s) A5 n5 c5 r := ((((((((Ho5.out.far (p := ⟨w.heap.size, 0, none⟩) hlt3 _).far (p := ⟨w.heap.size, 1, none⟩) hlt3 _).far (p := ⟨w.heap.size, 2, none⟩) hlt3 _).far (p := ⟨w.heap.size, 3, none⟩) hlt3 _).far (p := ⟨w.heap.size, 4, none⟩) hlt3 _).far (p := ⟨w.heap.size, 5, none⟩) hlt3 _).far (p := ⟨w.heap.size, 6, none⟩) hlt3 _).far (p := ⟨w.heap.size, 7, none⟩) hlt3 _).sl
        have Hy2 : Whole ((((((((w4.setCell ⟨w.heap.size, 0, none⟩ (.int .u64 (s.trace : Nat))).setCell ⟨w.heap.size, 1, none⟩ (.int .u64 (s.id : Nat))).setCell ⟨w.heap.size, 2, none⟩ (.int .u64 (s.parent : Nat))).setCell ⟨w.heap.size, 3, none⟩ (.int .u64 (s.start : Nat))).setCell ⟨w.heap.size, 4, none⟩ (.int .u64 (s.len : Nat))).setCell ⟨w.heap.size, 5, none⟩ (.string s.service)).setCell ⟨w.heap.size, 6, none⟩ (.string s.name)).setCell ⟨w.heap.size, 7, none⟩ (.bool s.fail)) w.heap.size 44 (spanCells s) ∧ Below w.heap.size w ((((((((w4.setCell ⟨w.heap.size, 0, none⟩ (.int .u64 (s.trace : Nat))).setCell ⟨w.heap.size, 1, none⟩ (.int .u64 (s.id : Nat))).setCell ⟨w.heap.size, 2, none⟩ (.int .u64 (s.parent : Nat))).setCell ⟨w.heap.size, 3, none⟩ (.int .u64 (s.start : Nat))).setCell ⟨w.heap.size, 4, none⟩ (.int .u64 (s.len : Nat))).setCell ⟨w.heap.size, 5, none⟩ (.string s.service)).setCell ⟨w.heap.size, 6, none⟩ (.string s.name)).setCell ⟨w.heap.size, 7, none⟩ (.bool s.fail)) ∧ Sl ((((((((w4.setCell ⟨w.heap.size, 0, none⟩ (.int .u64 (s.trace : Nat))).setCell ⟨w.heap.size, 1, none⟩ (.int .u64 (s.id : Nat))).setCell ⟨w.heap.size, 2, none⟩ (.int .u64 (s.parent : Nat))).setCell ⟨w.heap.size, 3, none⟩ (.int .u64 (s.start : Nat))).setCell ⟨w.heap.size, 4, none⟩ (.int .u64 (s.len : Nat))).setCell ⟨w.heap.size, 5, none⟩ (.string s.service)).setCell ⟨w.heap.size, 6, none⟩ (.string s.name)).setCell ⟨w.heap.size, 7, none⟩ (.bool s.fail)) A5 n5 c5 r := ⟨Hy, Hby, hr4⟩
        clear Hy Hby hr4 z0 z1 z2 z3 z4 z5 z6 z7 f3 q0 q1 q2 q3 q4 q5 q6 q7 f4
        generalize ((((((((w4.setCell ⟨w.heap.size, 0, none⟩ (.int .u64 (s.trace : Nat))).setCell ⟨w.heap.size, 1, none⟩ (.int .u64 (s.id : Nat))).setCell ⟨w.heap.size, 2, none⟩ (.int .u64 (s.parent : Nat))).setCell ⟨w.heap.size, 3, none⟩ (.int .u64 (s.start : Nat))).setCell ⟨w.heap.size, 4, none⟩ (.int .u64 (s.len : Nat))).setCell ⟨w.heap.size, 5, none⟩ (.string s.service)).setCell ⟨w.heap.size, 6, none⟩ (.string s.name)).setCell ⟨w.heap.size, 7, none⟩ (.bool s.fail)) = W at Hy2 ⊢
        obtain ⟨Hy, Hby, hr4⟩ := Hy2
        obtain ⟨y0, y1, y2, y3, y4, y5, y6, y7⟩ := Hy.box
        refine bodyPost_ret (v := .tuple #[spanVal s, .slice A5 n5 c5, .int .i64 0]) (by simp [results, Tryz.results83, go_sem, y0, y1, y2, y3, y4, y5, y6, y7]) rfl ?_
        exact spanCut_ok Hcut.out hr4 Hby
    · have hrb : (rightF s != 0) = true := by rw [bne_iff_ne]; exact hr
      have Hcut := hid_ (Hwrong.out Hk.out hr)
      generalize rightF s = R at *
      have Hr2 := hid_ hr
      clear hr
      go_wp2_with fail
      have Hy := Hw3.out.span rfl SpanD.zero
      have Hby := below_span Hb3.out (Nat.le_refl w.heap.size) SpanD.zero
      have Hy2 : Whole ((((((((w3.setCell ⟨w.heap.size, 0, none⟩ (.int .u64 0)).setCell ⟨w.heap.size, 1, none⟩ (.int .u64 0)).setCell ⟨w.heap.size, 2, none⟩ (.int .u64 0)).setCell ⟨w.heap.size, 3, none⟩ (.int .u64 0)).setCell ⟨w.heap.size, 4, none⟩ (.int .u64 0)).setCell ⟨w.heap.size, 5, none⟩ (.string ⟨#[]⟩)).setCell ⟨w.heap.size, 6, none⟩ (.string ⟨#[]⟩)).setCell ⟨w.heap.size, 7, none⟩ (.bool false)) w.heap.size 44 (spanCells SpanD.zero) ∧ Below w.heap.size w ((((((((w3.setCell ⟨w.heap.size, 0, none⟩ (.int .u64 0)).setCell ⟨w.heap.size, 1, none⟩ (.int .u64 0)).setCell ⟨w.heap.size, 2, none⟩ (.int .u64 0)).setCell ⟨w.heap.size, 3, none⟩ (.int .u64 0)).setCell ⟨w.heap.size, 4, none⟩ (.int .u64 0)).setCell ⟨w.heap.size, 5, none⟩ (.string ⟨#[]⟩)).setCell ⟨w.heap.size, 6, none⟩ (.string ⟨#[]⟩)).setCell ⟨w.heap.size, 7, none⟩ (.bool false)) := ⟨Hy, Hby⟩
      clear Hy Hby z0 z1 z2 z3 z4 z5 z6 z7 f3
      generalize ((((((((w3.setCell ⟨w.heap.size, 0, none⟩ (.int .u64 0)).setCell ⟨w.heap.size, 1, none⟩ (.int .u64 0)).setCell ⟨w.heap.size, 2, none⟩ (.int .u64 0)).setCell ⟨w.heap.size, 3, none⟩ (.int .u64 0)).setCell ⟨w.heap.size, 4, none⟩ (.int .u64 0)).setCell ⟨w.heap.size, 5, none⟩ (.string ⟨#[]⟩)).setCell ⟨w.heap.size, 6, none⟩ (.string ⟨#[]⟩)).setCell ⟨w.heap.size, 7, none⟩ (.bool false)) = W at Hy2 ⊢
      obtain ⟨Hy, Hby⟩ := Hy2
      obtain ⟨y0, y1, y2, y3, y4, y5, y6, y7⟩ := Hy.box
      refine bodyPost_ret (v := .tuple #[spanVal SpanD.zero, .slice none 0 0, .int .i64 R]) (by simp [results, Tryz.results83, go_sem, y0, y1, y2, y3, y4, y5, y6, y7, SpanD.zero]) rfl ?_
      exact spanCut_none Hcut.out Hby
  · have hkb : (K == 0) = false := by rw [beq_eq_false_iff_ne]; exact hk
    have hkn : (K != 0) = true := by rw [bne_iff_ne]; exact hk
    have Hcut := hid_ (Hbad.out hk)
    have Hk := hid_ hk
    clear hk
    go_wp2_with fail
    have Hy := ((Hw1.out.span rfl s).span rfl SpanD.zero)
    have Hby := below_span (below_span Hb1.out (Nat.le_refl w.heap.size) s) (Nat.le_refl w.heap.size) SpanD.zero
    have Hy2 : Whole ((((((((((((((((w1.setCell ⟨w.heap.size, 0, none⟩ (.int .u64 (s.trace : Nat))).setCell ⟨w.heap.size, 1, none⟩ (.int .u64 (s.id : Nat))).setCell ⟨w.heap.size, 2, none⟩ (.int .u64 (s.parent : Nat))).setCell ⟨w.heap.size, 3, none⟩ (.int .u64 (s.start : Nat))).setCell ⟨w.heap.size, 4, none⟩ (.int .u64 (s.len : Nat))).setCell ⟨w.heap.size, 5, none⟩ (.string s.service)).setCell ⟨w.heap.size, 6, none⟩ (.string s.name)).setCell ⟨w.heap.size, 7, none⟩ (.bool s.fail)).setCell ⟨w.heap.size, 0, none⟩ (.int .u64 0)).setCell ⟨w.heap.size, 1, none⟩ (.int .u64 0)).setCell ⟨w.heap.size, 2, none⟩ (.int .u64 0)).setCell ⟨w.heap.size, 3, none⟩ (.int .u64 0)).setCell ⟨w.heap.size, 4, none⟩ (.int .u64 0)).setCell ⟨w.heap.size, 5, none⟩ (.string ⟨#[]⟩)).setCell ⟨w.heap.size, 6, none⟩ (.string ⟨#[]⟩)).setCell ⟨w.heap.size, 7, none⟩ (.bool false)) w.heap.size 44 (spanCells SpanD.zero) ∧ Below w.heap.size w ((((((((((((((((w1.setCell ⟨w.heap.size, 0, none⟩ (.int .u64 (s.trace : Nat))).setCell ⟨w.heap.size, 1, none⟩ (.int .u64 (s.id : Nat))).setCell ⟨w.heap.size, 2, none⟩ (.int .u64 (s.parent : Nat))).setCell ⟨w.heap.size, 3, none⟩ (.int .u64 (s.start : Nat))).setCell ⟨w.heap.size, 4, none⟩ (.int .u64 (s.len : Nat))).setCell ⟨w.heap.size, 5, none⟩ (.string s.service)).setCell ⟨w.heap.size, 6, none⟩ (.string s.name)).setCell ⟨w.heap.size, 7, none⟩ (.bool s.fail)).setCell ⟨w.heap.size, 0, none⟩ (.int .u64 0)).setCell ⟨w.heap.size, 1, none⟩ (.int .u64 0)).setCell ⟨w.heap.size, 2, none⟩ (.int .u64 0)).setCell ⟨w.heap.size, 3, none⟩ (.int .u64 0)).setCell ⟨w.heap.size, 4, none⟩ (.int .u64 0)).setCell ⟨w.heap.size, 5, none⟩ (.string ⟨#[]⟩)).setCell ⟨w.heap.size, 6, none⟩ (.string ⟨#[]⟩)).setCell ⟨w.heap.size, 7, none⟩ (.bool false)) := ⟨Hy, Hby⟩
    clear Hy Hby z0 z1 z2 z3 z4 z5 z6 z7 f1
    generalize ((((((((((((((((w1.setCell ⟨w.heap.size, 0, none⟩ (.int .u64 (s.trace : Nat))).setCell ⟨w.heap.size, 1, none⟩ (.int .u64 (s.id : Nat))).setCell ⟨w.heap.size, 2, none⟩ (.int .u64 (s.parent : Nat))).setCell ⟨w.heap.size, 3, none⟩ (.int .u64 (s.start : Nat))).setCell ⟨w.heap.size, 4, none⟩ (.int .u64 (s.len : Nat))).setCell ⟨w.heap.size, 5, none⟩ (.string s.service)).setCell ⟨w.heap.size, 6, none⟩ (.string s.name)).setCell ⟨w.heap.size, 7, none⟩ (.bool s.fail)).setCell ⟨w.heap.size, 0, none⟩ (.int .u64 0)).setCell ⟨w.heap.size, 1, none⟩ (.int .u64 0)).setCell ⟨w.heap.size, 2, none⟩ (.int .u64 0)).setCell ⟨w.heap.size, 3, none⟩ (.int .u64 0)).setCell ⟨w.heap.size, 4, none⟩ (.int .u64 0)).setCell ⟨w.heap.size, 5, none⟩ (.string ⟨#[]⟩)).setCell ⟨w.heap.size, 6, none⟩ (.string ⟨#[]⟩)).setCell ⟨w.heap.size, 7, none⟩ (.bool false)) = W at Hy2 ⊢
    obtain ⟨Hy, Hby⟩ := Hy2
    obtain ⟨y0, y1, y2, y3, y4, y5, y6, y7⟩ := Hy.box
    refine bodyPost_ret (v := .tuple #[spanVal SpanD.zero, .slice none 0 0, .int .i64 K]) (by simp [results, Tryz.results83, go_sem, y0, y1, y2, y3, y4, y5, y6, y7, SpanD.zero]) rfl ?_
    exact spanCut_none Hcut.out Hby
end Go.Proofs.YtnpbokbfkdncmaaGreat
