/-
  What the program's putNumber and Put answer.
-/
import Derived.Test.YtnphbefnmbagfaaSpRight
import Derived.Test.YtnphbefnmbagfaaRefPut
namespace Go.Proofs.Ytnphbefnmbagfaa
open Go.RowKit Ru

theorem byte_hi (x j : Nat) : (x : Int) / 2 ^ (8 * j) % 256 = ((byteOf x j).toNat : Int) := by
  rw [byteOf_toNat, show (256 : Nat) ^ j = 2 ^ (8 * j) by rw [Nat.pow_mul], Int.natCast_emod, Int.natCast_ediv, Int.natCast_pow]
  rfl

set_option maxHeartbeats 1000000 in
theorem putNumber_any (B : Nat) (A : Option Addr) (n c : Nat) (l : List UInt8) (x : Nat) (w : World) (hown : Own B w A n c l) (hB : B ≤ w.heap.size) (hn : n ≤ 140737488000000) :
    Calls Try.prog 32 #[.slice A n c, .int .u64 (x : Nat)] w fun e w' => ∃ A' c', e = .returned (.slice A' (n + 8) c') ∧ Own B w' A' (n + 8) c' (l ++ eight x) ∧ Below B w w' := by
  have Ho0 := hid_ hown
  clear hown
  go_enter Try.func32, Try.ntmps32
  go_wp2
  go_loopw [0, 6] (fun v i wr => ∃ (k : Nat) (A1 : Option Addr) (c1 : Nat), k ≤ 8 ∧ i = .int .i64 (k : Nat) ∧ v = .slice A1 (n + k) c1 ∧ Own B wr A1 (n + k) c1 (l ++ eightK x k) ∧ Below B w wr) (fun _ i _ => 8 - (intOf i).toNat)
  case atStart => exact ⟨0, A, c, by omega, rfl, rfl, by rw [show eightK x 0 = [] from rfl, List.append_nil]; exact Ho0.out, Below.refl _ _⟩
  case round =>
    obtain ⟨k, A1, c1, hk, rfl, rfl, ho, hb⟩ := hrel
    have Ho := hid_ ho
    have Hb := hid_ hb
    clear ho hb
    by_cases hlt : k < 8
    · obtain ⟨j, hj⟩ : ∃ j : Nat, j = 7 - k := ⟨_, rfl⟩
      have hjk : (7 : Int) - (k : Int) = (j : Int) := by omega
      have Hes := hid_ (show l ++ eightK x (k + 1) = (l ++ eightK x k) ++ [byteOf x j] by rw [eightK_succ, List.append_assoc, hj])
      have Hy := hid_ (byte_hi x j)
      clear hj
      go_wp2_with (at_builtin; refine wpList_bytes rfl (.tmp 9) (.tmp 16) rfl B A1 (n + k) c1 _ rfl (Ho.out.alloc _) (some ⟨wr.heap.size, 0, none⟩) 1 1 [byteOf x j] rfl (own_lit wr [byteOf x j] _ (by rw [Hy.out]; rfl) 1 rfl (by omega) wr.heap.size (Nat.le_refl _)).sl (n + (k + 1)) (l ++ eightK x (k + 1)) rfl Hes.out.symm (by omega) (by have := Hb.out.size; simp; omega) ?_; intro A2 c2 w2 ho' hb'; have Ho2 := hid_ ho'; have Hb2 := hid_ ((Hb.out.alloc (Nat.le_trans hB Hb.out.size) _).trans hb'); clear ho' hb')
      go_roundw
      case rel => exact ⟨k + 1, A2, c2, by omega, by go_num, rfl, Ho2.out, Hb2.out⟩
      case measure => simp [intOf]; omega
    · have hk8 : k = 8 := by omega
      subst hk8
      go_wp2_with fail
      go_ret
      exact ⟨A1, c1, rfl, Ho.out, Hb.out⟩

/-- A span that lies in a block of its own. -/
structure Box (w : World) (b : Nat) (s : SpanD) : Prop where
  c0 : w.cell? ⟨b, 0, none⟩ = some (.int .u64 (s.trace : Nat))
  c1 : w.cell? ⟨b, 1, none⟩ = some (.int .u64 (s.id : Nat))
  c2 : w.cell? ⟨b, 2, none⟩ = some (.int .u64 (s.parent : Nat))
  c3 : w.cell? ⟨b, 3, none⟩ = some (.int .u64 (s.start : Nat))
  c4 : w.cell? ⟨b, 4, none⟩ = some (.int .u64 (s.len : Nat))
  c5 : w.cell? ⟨b, 5, none⟩ = some (.string s.service)
  c6 : w.cell? ⟨b, 6, none⟩ = some (.string s.name)
  c7 : w.cell? ⟨b, 7, none⟩ = some (.bool s.fail)
theorem Box.below {w w' : World} {b B : Nat} {s : SpanD} (h : Box w b s) (hb : Below B w w') (hB : b < B) : Box w' b s := by
  obtain ⟨h0, h1, h2, h3, h4, h5, h6, h7⟩ := h
  have k : ∀ o, w'.cell? ⟨b, o, none⟩ = w.cell? ⟨b, o, none⟩ := fun o => hb.cell (p := ⟨b, o, none⟩) hB
  exact ⟨by rw [k]; exact h0, by rw [k]; exact h1, by rw [k]; exact h2, by rw [k]; exact h3, by rw [k]; exact h4, by rw [k]; exact h5, by rw [k]; exact h6, by rw [k]; exact h7⟩
theorem box_new (w : World) (s : SpanD) (T : TypeId) : Box (w.alloc (.cells (spanCells s) T)) w.heap.size s :=
  ⟨by rw [World.cell?_alloc_mark]; rfl, by rw [World.cell?_alloc_mark]; rfl, by rw [World.cell?_alloc_mark]; rfl, by rw [World.cell?_alloc_mark]; rfl, by rw [World.cell?_alloc_mark]; rfl, by rw [World.cell?_alloc_mark]; rfl, by rw [World.cell?_alloc_mark]; rfl, by rw [World.cell?_alloc_mark]; rfl⟩

set_option maxHeartbeats 1000000 in
theorem put_no (A : Option Addr) (n c : Nat) (l0 : List UInt8) (s : SpanD) (w : World) (hs : s.Wf) (hk : rightF s ≠ 0) :
    Calls Try.prog 17 #[.slice A n c, spanVal s] w (SpanPost w l0 s) := by
  have Hr := hid_ (fun W => right_any s W hs)
  generalize hK : rightF s = K at hk
  have HK := hid_ hK
  have hkb : (K != 0) = true := by rw [bne_iff_ne]; exact hk
  have Hk := hid_ hk
  clear hK hk
  go_enter Try.func17, Try.ntmps17
  go_wp2_with fail
  refine (Hr.out _).mono ?_
  rintro e w1 ⟨rfl, hb⟩
  rw [HK.out]
  have Hb := hid_ hb
  clear hb
  go_wp2_with fail
  go_ret2
  exact spanPost_no HK.out Hk.out (((Below.refl _ _).alloc (Nat.le_refl _) _).trans (Hb.out.mono (by simp)))

theorem truth_flag (b : Bool) (w : World) :
    Calls Try.prog 33 #[.bool b] w fun e w' => e = .returned (.int .u8 ((flag b).toNat : Int)) ∧ w = w' :=
  (truth_any b w).mono fun e w' ⟨h1, h2⟩ => ⟨by rw [h1]; cases b <;> rfl, h2⟩
def tailK (s : SpanD) (k : Nat) : List UInt8 := ([s.service, s.name].take k).flatMap textF
theorem tailK_length (s : SpanD) {k : Nat} (hk : k ≤ 2) (h1 : s.service.size ≤ 32) (h2 : s.name.size ≤ 32) : (tailK s k).length ≤ 66 := by
  unfold tailK
  rcases (show k = 0 ∨ k = 1 ∨ k = 2 by omega) with rfl | rfl | rfl
  all_goals simp [textF_length]
  all_goals omega
theorem tailK_succ (s : SpanD) {k : Nat} (h : k < 2) : tailK s (k + 1) = tailK s k ++ textF (textAt s k) := by
  rcases (show k = 0 ∨ k = 1 by omega) with rfl | rfl
  · simp [tailK, textAt]
  · simp [tailK, textAt]
theorem put_len (s : SpanD) (k : Nat) : (headK s k).length = 8 * min k 5 := by
  unfold headK
  have : ∀ l : List Nat, (l.flatMap eight).length = 8 * l.length := fun l => by
    induction l with
    | nil => rfl
    | cons a l ih => rw [List.flatMap_cons, List.length_append, ih, eight_length, List.length_cons]; omega
  rw [this, List.length_take, numsN_length]

set_option maxRecDepth 100000 in
set_option maxHeartbeats 4000000 in
theorem put_ok (A : Option Addr) (n c : Nat) (l0 : List UInt8) (s : SpanD) (w : World) (hd : Sl w A n c l0) (hn : n ≤ 140737480000000) (hs : s.Wf) (hk : rightF s = 0) :
    Calls Try.prog 17 #[.slice A n c, spanVal s] w (SpanPost w l0 s) := by
  have Hr := hid_ (fun W => right_any s W hs)
  have Hnu := hid_ (fun W => numbers_any s W)
  have Htx := hid_ (fun W => texts_any s W)
  have HK := hid_ hk
  have Hs := hid_ hs
  have Hd := hid_ hd
  have hz := right_zero hk
  have Hsv := hid_ (name_sizes hz.2.1)
  have Hnm := hid_ (name_sizes hz.2.2)
  clear hk hs hd hz
  go_enter Try.func17, Try.ntmps17
  go_wp2_with fail
  refine (Hr.out _).mono ?_
  rintro e w1 ⟨rfl, hb⟩
  rw [HK.out]
  have Hx1 := hid_ ((box_new w s 28).below hb (by simp))
  have Hb1 := hid_ (((Below.refl w.heap.size w).alloc (Nat.le_refl _) (.cells (spanCells s) 28)).trans (hb.mono (by simp)))
  have hz1 : w.heap.size < w1.heap.size := by have := hb.size; simp at this; omega
  clear hb
  have Hd1 := hid_ (Hd.out.below Hb1.out)
  go_wp2_with (first
    | ((with_reducible refine wpList_makeBytes rfl _ _ rfl _ (n + 107) rfl rfl (by omega) (by omega) ?_); intro A1 c1 w2 ho' hb'; have Ho1 := hid_ ho'; have Hb2 := hid_ hb'; have Hd2 := hid_ (Hd1.out.below hb'); clear ho' hb')
    | (at_builtin; refine wpList_bytes rfl (.tmp 23) (.tmp 24) rfl w1.heap.size _ 0 _ [] rfl Ho1.out A n c l0 rfl Hd2.out n l0 (by omega) rfl (by omega) (Hb2.out.size) ?_; intro A2 c2 w3 ho' hb'; have Ho3 := hid_ ho'; have Hb3 := hid_ (Hb2.out.trans hb'); obtain ⟨x0, x1, x2, x3, x4, x5, x6, x7⟩ := Hx1.out.below Hb3.out hz1; clear ho' hb'))
  refine (Hnu.out _).mono ?_
  rintro e w4 ⟨rfl, hb4⟩
  have Hb4 := hid_ (Hb3.out.trans (hb4.mono Hb3.out.size))
  have Ho4 := hid_ (Ho3.out.later hb4)
  clear hb4 x0 x1 x2 x3 x4 x5 x6 x7
  have Hidx := hid_ (show ∀ k (_ : k < (numsN s).length) w, (Instr.index 54 (numbersVal s) (.int .i64 (k : Nat))).run Try.prog w = .ok (.int .u64 ((numsN s)[k] : Nat)) w by
    intro k hk w
    rw [numsN_length] at hk
    rcases (show k = 0 ∨ k = 1 ∨ k = 2 ∨ k = 3 ∨ k = 4 by omega) with rfl | rfl | rfl | rfl | rfl
    all_goals kernel_rfl)
  go_wp2_with fail
  go_loopw [7, 28] (fun vb vi wr => ∃ k Ab cb, k ≤ 5 ∧ vi = .int .i64 (k : Nat) ∧ vb = .slice Ab (n + 8 * k) cb ∧ Own w1.heap.size wr Ab (n + 8 * k) cb (l0 ++ headK s k) ∧ Below w1.heap.size w1 wr) (fun _ vi _ => 5 - (intOf vi).toNat)
  case atStart => exact ⟨0, A2, c2, by omega, rfl, rfl, by rw [show headK s 0 = [] from rfl, List.append_nil]; exact Ho4.out, Hb4.out⟩
  case round =>
    obtain ⟨k, Ab, cb, hk, rfl, rfl, ho, hb⟩ := hrel
    have Ho := hid_ ho
    have Hbl := hid_ hb
    clear ho hb
    by_cases hlt : k < 5
    · have hkl : k < (numsN s).length := by rw [numsN_length]; exact hlt
      have hix := Hidx.out k hkl
      have Hh := hid_ (headK_succ s hkl)
      generalize (numsN s)[k] = x at *
      go_wp2_with fail
      refine Calls.mono (putNumber_any w1.heap.size Ab (n + 8 * k) cb _ x wr Ho.out Hbl.out.size (by omega)) ?_
      rintro e w5 ⟨A5, c5, rfl, ho', hb'⟩
      have Ho5 := hid_ ho'
      have Hb5 := hid_ (Hbl.out.trans hb')
      clear ho' hb'
      go_wp2_with fail
      go_roundw
      case rel => exact ⟨k + 1, A5, c5, by omega, by go_num, by rw [show n + 8 * (k + 1) = n + 8 * k + 8 by omega], by rw [Hh.out, ← List.append_assoc]; exact Ho5.out, Hb5.out⟩
      case measure => simp [intOf]; omega
    · obtain rfl : k = 5 := by omega
      have hzr : w.heap.size < wr.heap.size := by have := Hbl.out.size; omega
      have x7 := (Hx1.out.below Hbl.out hz1).c7
      have Htr := hid_ (fun W => truth_flag s.fail W)
      go_wp2_with fail
      refine (Htr.out _).mono ?_
      rintro e w5 ⟨rfl, rfl⟩
      clear x7
      go_wp2_with (at_builtin; refine wpList_bytes rfl (.tmp 35) (.tmp 39) rfl w1.heap.size Ab (n + 8 * 5) cb _ rfl (Ho.out.alloc _) (some ⟨wr.heap.size, 0, none⟩) 1 1 [flag s.fail] rfl (own_lit wr [flag s.fail] _ rfl 1 rfl (by omega) wr.heap.size (Nat.le_refl _)).sl (n + 41) (l0 ++ headK s 5 ++ [flag s.fail]) (by omega) rfl (by omega) (by have := Hbl.out.size; simp; omega) ?_; intro A6 c6 w6 ho' hb'; have Ho6 := hid_ ho'; have Hb6 := hid_ ((Hbl.out.alloc Hbl.out.size _).trans hb'); obtain ⟨x0, x1, x2, x3, x4, x5, x6, x7⟩ := Hx1.out.below Hb6.out hz1; clear ho' hb')
      refine (Htx.out _).mono ?_
      rintro e w7 ⟨rfl, hb7⟩
      have Hb7 := hid_ (Hb6.out.trans (hb7.mono Hb6.out.size))
      have Ho7 := hid_ (Ho6.out.later hb7)
      clear hb7 x0 x1 x2 x3 x4 x5 x6 x7
      have Hidx2 := hid_ (show ∀ k (_ : k < 2) w, (Instr.index 52 (textsVal s) (.int .i64 (k : Nat))).run Try.prog w = .ok (.string (textAt s k)) w by
        intro k hk w
        rcases (show k = 0 ∨ k = 1 by omega) with rfl | rfl
        all_goals kernel_rfl)
      have Hsz := hid_ (show ∀ k (_ : k < 2), (textAt s k).size ≤ 32 by
        intro k hk
        rcases (show k = 0 ∨ k = 1 by omega) with rfl | rfl
        · exact Hsv.out.2
        · exact Hnm.out.2)
      go_wp2_with fail
      go_loopw [7, 43] (fun vb vi wr => ∃ k Ab m cb, k ≤ 2 ∧ vi = .int .i64 (k : Nat) ∧ vb = .slice Ab m cb ∧ m = n + 41 + (tailK s k).length ∧ Own w1.heap.size wr Ab m cb (l0 ++ headK s 5 ++ [flag s.fail] ++ tailK s k) ∧ Below w1.heap.size w1 wr) (fun _ vi _ => 2 - (intOf vi).toNat)
      case atStart => exact ⟨0, A6, n + 41, c6, by omega, rfl, rfl, rfl, by rw [show tailK s 0 = [] from rfl, List.append_nil]; exact Ho7.out, Hb7.out⟩
      case round =>
        obtain ⟨k, Ab2, m, cb2, hk, rfl, rfl, hm, ho, hb⟩ := hrel
        have Ho8 := hid_ ho
        have Hb8 := hid_ hb
        have Htl := tailK_length s hk Hsv.out.2 Hnm.out.2
        have Hm := hid_ hm
        have hm2 : m ≤ n + 107 := by omega
        clear ho hb hm Htl
        by_cases hlt : k < 2
        · have hix := Hidx2.out k hlt
          have hts := Hsz.out k hlt
          have Ht := hid_ (tailK_succ s hlt)
          have Htf := hid_ (textF_length (textAt s k))
          generalize textAt s k = x at *
          have hsz : (UInt8.ofNat x.size).toNat = x.size := by rw [UInt8.toNat_ofNat']; omega
          have Hy := hid_ (show (Value.int .u8 (x.size : Int)) = .int .u8 ((UInt8.ofNat x.size).toNat : Int) by rw [hsz])
          clear hsz
          go_wp2_with (first
            | (at_builtin; refine wpList_bytes rfl (.tmp 46) (.tmp 50) rfl w1.heap.size Ab2 m cb2 _ rfl (Ho8.out.alloc _) (some ⟨wr.heap.size, 0, none⟩) 1 1 [UInt8.ofNat x.size] rfl (own_lit wr [UInt8.ofNat x.size] _ (by rw [Hy.out]; rfl) 1 rfl (by omega) wr.heap.size (Nat.le_refl _)).sl (m + 1) _ rfl rfl (by omega) (by have := Hb8.out.size; simp; omega) ?_; intro A9 c9 w9 ho' hb'; have Ho9 := hid_ ho'; have Hb9 := hid_ ((Hb8.out.alloc Hb8.out.size _).trans hb'); clear ho' hb')
            | (at_builtin; refine wpList_string rfl (.tmp 52) (.tmp 53) rfl w1.heap.size A9 (m + 1) c9 _ rfl Ho9.out x rfl (m + (1 + x.size)) _ (by omega) rfl (by omega) Hb9.out.size ?_; intro A10 c10 w10 ho' hb'; have Ho10 := hid_ ho'; have Hb10 := hid_ (Hb9.out.trans hb'); clear ho' hb'))
          go_roundw
          case rel => exact ⟨k + 1, A10, m + (1 + x.size), c10, by omega, by go_num, rfl, by rw [Ht.out, List.length_append, Htf.out, Hm.out]; omega, Ho10.out.at_ rfl (by rw [Ht.out]; simp only [List.append_assoc]; rfl), Hb10.out⟩
          case measure => simp [intOf]; omega
        · obtain rfl : k = 2 := by omega
          go_wp2_with fail
          go_ret2
          refine spanPost_ok HK.out ((Ho8.out.mono Hb1.out.size).at_ rfl ?_) (Hb1.out.trans (Hb8.out.mono Hb1.out.size))
          rw [putF]
          simp [tailK]
theorem put_any (A : Option Addr) (n c : Nat) (l0 : List UInt8) (s : SpanD) (w : World) (hd : Sl w A n c l0) (hn : n ≤ 140737480000000) (hs : s.Wf) :
    Calls Try.prog 17 #[.slice A n c, spanVal s] w (SpanPost w l0 s) := by
  by_cases h : rightF s = 0
  · exact put_ok A n c l0 s w hd hn hs h
  · exact put_no A n c l0 s w hs h
theorem refput_any (A : Option Addr) (n c : Nat) (l0 : List UInt8) (s : SpanD) (w : World) (hd : Sl w A n c l0) (hn : n ≤ 140737480000000) (hs : s.Wf) :
    Calls Try.prog 18 #[.slice A n c, spanVal s] w (SpanPost w l0 s) := by
  by_cases h : rightF s = 0
  · exact refput_ok A n c l0 s w hd hn hs h
  · exact refput_no A n c l0 s w hs h
end Go.Proofs.Ytnphbefnmbagfaa
