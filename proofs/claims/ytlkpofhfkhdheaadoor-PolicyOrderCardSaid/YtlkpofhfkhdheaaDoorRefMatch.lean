/-
  The reference's Match, by tables.
-/
import Derived.Test.YtlkpofhfkhdheaaDoorMatch
import Derived.Test.YtlkpofhfkhdheaaDoorWhole
import Derived.StillTailTactics
import Derived.BigQuiet
namespace Go.Proofs.YtlkpofhfkhdheaaDoor
open Go.RowKit Ru

/-- A block of so many booleans. -/
def Bools (w : World) (g N : Nat) (f : Nat → Bool) : Prop := ∃ cs, Whole w g 4 cs ∧ cs.size = N ∧ ∀ k, k < N → cs[k]? = some (.bool (f k))
theorem Bools.lt {w : World} {g N : Nat} {f : Nat → Bool} (h : Bools w g N f) : g < w.heap.size := by
  obtain ⟨cs, h, _⟩ := h
  exact h.lt
theorem Bools.cell {w : World} {g N : Nat} {f : Nat → Bool} (h : Bools w g N f) (k : Nat) (hk : k < N) {x : Bool} (hx : f k = x) : w.cell? ⟨g, k, none⟩ = some (.bool x) := by
  obtain ⟨cs, h, h1, h2⟩ := h
  rw [← hx]
  exact h.cell k _ (h2 k hk)
theorem Bools.free {w : World} {g N : Nat} {f : Nat → Bool} (h : Bools w g N f) (k : Nat) : w.frozen? ⟨g, k, none⟩ = false := by
  obtain ⟨cs, h, h1, h2⟩ := h
  exact h.free k
theorem Bools.like {w : World} {g N : Nat} {f f' : Nat → Bool} (h : Bools w g N f) (he : ∀ k, k < N → f k = f' k) : Bools w g N f' := by
  obtain ⟨cs, h, h1, h2⟩ := h
  exact ⟨cs, h, h1, fun k hk => by rw [h2 k hk, he k hk]⟩
theorem Bools.store {w : World} {g N : Nat} {f : Nat → Bool} (h : Bools w g N f) (i : Nat) (hi : i < N) (x : Bool) : Bools (w.setCell ⟨g, i, none⟩ (.bool x)) g N (fun k => if k = i then x else f k) := by
  obtain ⟨cs, h, h1, h2⟩ := h
  refine ⟨_, h.store i _, by simpa using h1, fun k hk => ?_⟩
  by_cases e : k = i
  · subst e
    simp only [if_true]
    exact Array.getElem?_setIfInBounds_self_of_lt (by omega)
  · simp only [if_neg e]
    rw [Array.getElem?_setIfInBounds_ne (by omega)]
    exact h2 k hk
theorem Bools.far {w : World} {g N : Nat} {f : Nat → Bool} (h : Bools w g N f) {p : Addr} (hp : g ≠ p.block) (v : Value) : Bools (w.setCell p v) g N f := by
  obtain ⟨cs, h, h1⟩ := h
  exact ⟨cs, h.far hp v, h1⟩
theorem Bools.alloc {w : World} {g N : Nat} {f : Nat → Bool} (h : Bools w g N f) (o : Obj) : Bools (w.alloc o) g N f := by
  obtain ⟨cs, h, h1⟩ := h
  exact ⟨cs, h.alloc o, h1⟩
theorem Bools.drewN {w : World} {g N : Nat} {f : Nat → Bool} (h : Bools w g N f) (n : Nat) : Bools (w.drewN n) g N f := h
theorem Bools.drew {w : World} {g N : Nat} {f : Nat → Bool} (h : Bools w g N f) : Bools w.drew g N f := h
theorem makebools (n : Nat) (hn : n ≤ 2000000) (W : World) :
    (Instr.makeSlice 91 (.int .i64 (n : Int)) (.int .i64 (n : Int))).run Tryd.prog W = .ok (.slice (some ⟨W.heap.size, 0, none⟩) n n) (W.alloc (.cells (madeCells #[.bool false] n) 4)) := by
  obtain ⟨i0, hi0, hz0, hz1, hz2⟩ := info_parts (P := Tryd.prog) (e := 4) (z := .bool false) (size := 1) (bytes := 1) (by kernel_rfl)
  have h := run_make (P := Tryd.prog) W 91 4 i0 _ Tryd.underlying91 hi0 hz0 .i64 .i64 n n (by omega) (Int.le_refl _) (by rw [hz2]; omega) (by omega)
  rw [hz1, Nat.mul_one, Int.toNat_natCast] at h
  exact h
theorem bools_made (n : Nat) (W : World) : Bools (W.alloc (.cells (madeCells #[.bool false] n) 4)) W.heap.size n (fun _ => false) := by
  refine ⟨_, whole_new W _ _, by first | (rw [size_madeCells, Nat.mul_one]; done) | simp [size_madeCells], fun k hk => ?_⟩
  rw [← Array.getElem?_toList, toList_madeCells_one]
  simp [hk]

theorem bools_made_at (n g : Nat) (W : World) (hg : g = W.heap.size) : Bools (W.alloc (.cells (madeCells #[.bool false] n) 4)) g n (fun _ => false) := by subst hg; exact bools_made n W

theorem bools_next {w : World} {g N k : Nat} {M : Nat → Bool} (h : Bools w g N (fun j => if k + 1 ≤ j then M j else false)) (hk : k < N) (x : Bool) (hx : M k = x) : Bools (w.setCell ⟨g, k, none⟩ (.bool x)) g N (fun j => if k ≤ j then M j else false) := by
  refine (h.store k hk x).like fun j _ => ?_
  by_cases e : j = k
  · subst e
    simp only [if_true, Nat.le_refl, hx]
  · simp only [if_neg e]
    by_cases h1 : k ≤ j
    · rw [if_pos h1, if_pos (by omega)]
    · rw [if_neg h1, if_neg (by omega)]
theorem bools_skip {w : World} {g N k : Nat} {M : Nat → Bool} (h : Bools w g N (fun j => if k + 1 ≤ j then M j else false)) (hx : M k = false) : Bools w g N (fun j => if k ≤ j then M j else false) := by
  refine h.like fun j _ => ?_
  by_cases e : j = k
  · subst e
    rw [if_neg (by omega), if_pos (Nat.le_refl _), hx]
  · by_cases h1 : k ≤ j
    · rw [if_pos h1, if_pos (by omega)]
    · rw [if_neg h1, if_neg (by omega)]
set_option maxRecDepth 20000 in
set_option maxHeartbeats 4000000 in
theorem refmatch_any (A : Option Addr) (n c : Nat) (ps : List Nat) (B : Option Addr) (m d : Nat) (ss : List Nat) (w : World) (ha : Row w A n c (runeVals ps)) (hb : Row w B m d (runeVals ss)) (hm : m ≤ 1000000) :
    Calls Tryd.prog 56 #[.slice A n c, .slice B m d] w (BoolIs w (matchF ps ss)) := by
  obtain rfl : n = ps.length := by rw [← ha.len]; simp [runeVals]
  obtain rfl : m = ss.length := by rw [← hb.len]; simp [runeVals]
  have hnl := ha.le
  have Ha := hid_ ha
  have Hb := hid_ hb
  clear ha hb
  have Hmk := hid_ (fun W => makebools (ss.length + 1) (by omega) W)
  have cN : ((ss.length + 1 : Nat) : Int) = (ss.length : Int) + 1 := by omega
  rw [cN] at Hmk
  go_enter Tryd.func56, Tryd.ntmps56
  go_wp2_with fail
  rw [Hmk.out]
  have B0 := bools_made (ss.length + 1) w
  have hfr : (w.alloc (.cells (madeCells #[.bool false] (ss.length + 1)) 4)).frozen? ⟨w.heap.size, ss.length, none⟩ = false := B0.free _
  have hce := B0.cell ss.length (by omega) rfl
  have B1 := hid_ (B0.store ss.length (by omega) true)
  have Hb1 := hid_ (show Below w.heap.size w (w.alloc (.cells (madeCells #[.bool false] (ss.length + 1)) 4)) from (Below.refl _ _).alloc (Nat.le_refl _) _)
  clear B0
  generalize hw1 : w.alloc (.cells (madeCells #[.bool false] (ss.length + 1)) 4) = w1 at *
  go_wp2_with fail
  go_loopw [5, 6] (fun v5 v6 wr => ∃ (k g : Nat), k ≤ ps.length ∧ v5 = .slice (some ⟨g, 0, none⟩) (ss.length + 1) (ss.length + 1) ∧ v6 = .int .i64 ((k : Int) - 1) ∧ w.heap.size ≤ g ∧ Hid (Bools wr g (ss.length + 1) (fun j => matchF (ps.drop k) (ss.drop j))) ∧ Hid (Below w.heap.size w wr)) (fun _ v6 _ => (intOf v6 + 1).toNat)
  case atStart =>
    refine ⟨ps.length, w.heap.size, Nat.le_refl _, rfl, rfl, Nat.le_refl _, hid_ (B1.out.like fun j hj => ?_), hid_ (Hb1.out.setCell (p := ⟨w.heap.size, ss.length, none⟩) (Nat.le_refl _) _)⟩
    rw [table_low]
    by_cases e : j = ss.length
    · rw [if_pos e, decide_eq_true (by omega)]
    · rw [if_neg e, decide_eq_false (by omega)]
  case round =>
    clear B1 Hb1 hfr hce
    obtain ⟨k, g, hk, rfl, rfl, hg, Hbs, Hw⟩ := hrel
    cases k with
    | zero =>
      have hc := Hbs.out.cell 0 (by omega) rfl
      simp only [List.drop_zero] at hc
      have e1 : ((0 : Nat) : Int) - 1 = -1 := rfl
      rw [e1]
      go_wp2_with fail
      go_ret
      exact boolIs_mk rfl Hw.out
    | succ i =>
      have e1 : ((i + 1 : Nat) : Int) - 1 = (i : Int) := by omega
      rw [e1]
      go_wp2_with fail
      rw [Hmk.out]
      have hgs : g < wr.heap.size := Hbs.out.lt
      have N0 := hid_ (bools_made (ss.length + 1) wr)
      have Hbs2 := hid_ (Hbs.out.alloc (.cells (madeCells #[.bool false] (ss.length + 1)) 4))
      have Hw2 := hid_ (show Below w.heap.size w (wr.alloc (.cells (madeCells #[.bool false] (ss.length + 1)) 4)) from Hw.out.alloc Hw.out.size _)
      have hsz := Hw.out.size
      clear Hbs Hw
      generalize hw2 : wr.alloc (.cells (madeCells #[.bool false] (ss.length + 1)) 4) = w2 at *
      generalize hG : wr.heap.size = G at *
      clear hw2
      go_wp2_with fail
      have hik : i < ps.length := hk
      go_loopw [8] (fun v8 wr => ∃ (q : Nat), q ≤ ss.length + 1 ∧ v8 = .int .i64 ((q : Int) - 1) ∧ Hid (Bools wr G (ss.length + 1) (fun j => if q ≤ j then matchF (ps.drop i) (ss.drop j) else false)) ∧ Hid (Bools wr g (ss.length + 1) (fun j => matchF (ps.drop (i + 1)) (ss.drop j))) ∧ Hid (Below w.heap.size w wr)) (fun v8 _ => (intOf v8 + 1).toNat)
      case atStart => exact ⟨ss.length + 1, Nat.le_refl _, by rw [show ((ss.length + 1 : Nat) : Int) - 1 = (ss.length : Int) by omega], hid_ (N0.out.like fun j hj => by rw [if_neg (by omega)]), Hbs2, Hw2⟩
      case round =>
        clear N0 Hbs2 Hw2
        obtain ⟨q, hq, rfl, Hn, Hi, Hw⟩ := hrel
        have hGs := Hn.out.lt
        have hgs2 := Hi.out.lt
        cases q with
        | zero =>
          have e2 : ((0 : Nat) : Int) - 1 = -1 := rfl
          rw [e2]
          go_wp2_with fail
          go_roundw
          case rel => exact ⟨i, G, by omega, rfl, rfl, hsz, hid_ (Hn.out.like fun j hj => by rw [if_pos (by omega)]), Hw⟩
          case measure => simp [intOf]
        | succ k =>
          have e2 : ((k + 1 : Nat) : Int) - 1 = (k : Int) := by omega
          rw [e2]
          have Ha2 := Ha.out.below Hw.out
          have Hb2 := Hb.out.below Hw.out
          obtain ⟨bA, oA, rfl, hcA⟩ := Ha2.at_ (k := i) (by simpa [runeVals] using hik)
          have hcp : wr.cell? ⟨bA, oA + i, .none⟩ = some (.int .i32 (ps[i] : Nat)) := by rw [hcA]; simp [runeVals]
          clear hcA Ha2
          have esp : ps.getD i 0 = ps[i] := by simp [List.getD_eq_getElem?_getD, List.getElem?_eq_getElem hik]
          have hfr := Hn.out.free k
          have hck := Hn.out.cell k (by omega) rfl
          have hci := Hi.out.cell k (by omega) rfl
          by_cases h42 : ps[i] = 42
          · rw [h42] at hcp
            by_cases hkl : k < ss.length
            · have hcn := Hn.out.cell (k + 1) (by omega) (if_pos (Nat.le_refl _))
              have ht := table_star hik (by rw [esp, h42]) hkl
              generalize matchF (ps.drop (i + 1)) (ss.drop k) = x1 at *
              generalize matchF (ps.drop i) (ss.drop (k + 1)) = x2 at *
              cases x1
              · go_wp2_with fail
                go_roundw
                case rel => exact ⟨k, by omega, rfl, hid_ (bools_next Hn.out (by omega) _ (by first | exact ht | (rw [ht]; done) | (rw [ht]; rfl))), hid_ (Hi.out.far (p := ⟨G, k, none⟩) (by show g ≠ G; omega) _), hid_ (Hw.out.setCell (p := ⟨G, k, none⟩) hsz _)⟩
                case measure => simp [intOf] <;> omega
              · go_wp2_with fail
                go_roundw
                case rel => exact ⟨k, by omega, rfl, hid_ (bools_next Hn.out (by omega) _ (by first | exact ht | (rw [ht]; done) | (rw [ht]; rfl))), hid_ (Hi.out.far (p := ⟨G, k, none⟩) (by show g ≠ G; omega) _), hid_ (Hw.out.setCell (p := ⟨G, k, none⟩) hsz _)⟩
                case measure => simp [intOf] <;> omega
            · have ht := table_star_end hik (by rw [esp, h42]) (by omega : ss.length ≤ k)
              generalize matchF (ps.drop (i + 1)) (ss.drop k) = x1 at *
              have e3 : decide ((k : Int) < (ss.length : Int)) = false := decide_eq_false (by omega)
              cases x1
              · go_wp2_with fail
                go_roundw
                case rel => exact ⟨k, by omega, rfl, hid_ (bools_next Hn.out (by omega) _ (by first | exact ht | (rw [ht]; done) | (rw [ht]; rfl))), hid_ (Hi.out.far (p := ⟨G, k, none⟩) (by show g ≠ G; omega) _), hid_ (Hw.out.setCell (p := ⟨G, k, none⟩) hsz _)⟩
                case measure => simp [intOf] <;> omega
              · go_wp2_with fail
                go_roundw
                case rel => exact ⟨k, by omega, rfl, hid_ (bools_next Hn.out (by omega) _ (by first | exact ht | (rw [ht]; done) | (rw [ht]; rfl))), hid_ (Hi.out.far (p := ⟨G, k, none⟩) (by show g ≠ G; omega) _), hid_ (Hw.out.setCell (p := ⟨G, k, none⟩) hsz _)⟩
                case measure => simp [intOf] <;> omega
          · have e42 : (((ps[i] : Nat) : Int) == 42) = false := by rw [beq_eq_false_iff_ne]; omega
            by_cases hkl : k < ss.length
            · obtain ⟨bB, oB, rfl, hcB⟩ := Hb2.at_ (k := k) (by simpa [runeVals] using hkl)
              have hcs : wr.cell? ⟨bB, oB + k, .none⟩ = some (.int .i32 (ss[k] : Nat)) := by rw [hcB]; simp [runeVals]
              clear hcB Hb2
              have ess : ss.getD k 0 = ss[k] := by simp [List.getD_eq_getElem?_getD, List.getElem?_eq_getElem hkl]
              have hcn := Hi.out.cell (k + 1) (by omega) rfl
              by_cases h63 : ps[i] = 63
              · have ht := table_fit hik (by rw [esp]; exact h42) hkl (.inl (by rw [esp, h63]))
                rw [h63] at hcp e42
                generalize matchF (ps.drop (i + 1)) (ss.drop (k + 1)) = x2 at *
                go_wp2_with fail
                go_quiet (fail)
                go_wp2_with fail
                go_roundw
                case rel => exact ⟨k, by omega, rfl, hid_ (bools_next (Bools.drewN Hn.out _) (by omega) _ ht), hid_ ((Bools.drewN Hi.out _).far (p := ⟨G, k, none⟩) (by show g ≠ G; omega) _), hid_ ((below_drewN Hw.out _).setCell (p := ⟨G, k, none⟩) hsz _)⟩
                case measure => simp [intOf] <;> omega
              · have e63 : (((ps[i] : Nat) : Int) == 63) = false := by rw [beq_eq_false_iff_ne]; omega
                by_cases hsn : ps[i] = ss[k]
                · have ht := table_fit hik (by rw [esp]; exact h42) hkl (.inr (by rw [esp, ess, hsn]))
                  rw [hsn] at hcp e42 e63
                  clear h42 h63 esp ess hsn
                  generalize ss[k] = x at *
                  generalize matchF (ps.drop (i + 1)) (ss.drop (k + 1)) = x2 at *
                  go_wp2_with fail
                  go_quiet (fail)
                  go_wp2_with fail
                  go_roundw
                  case rel => exact ⟨k, by omega, rfl, hid_ (bools_next (Bools.drewN Hn.out _) (by omega) _ ht), hid_ ((Bools.drewN Hi.out _).far (p := ⟨G, k, none⟩) (by show g ≠ G; omega) _), hid_ ((below_drewN Hw.out _).setCell (p := ⟨G, k, none⟩) hsz _)⟩
                  case measure => simp [intOf] <;> omega
                · have ht := table_no hik (by rw [esp]; exact h42) (fun _ => by rw [esp, ess]; exact ⟨h63, hsn⟩) (k := k) (S := ss)
                  have e3 : (((ps[i] : Nat) : Int) == ((ss[k] : Nat) : Int)) = false := by rw [beq_eq_false_iff_ne]; omega
                  clear h42 h63 esp ess hsn
                  generalize ss[k] = x at *
                  generalize ps[i] = y at *
                  go_wp2_with fail
                  go_quiet (fail)
                  go_wp2_with fail
                  go_roundw
                  case rel => exact ⟨k, by omega, rfl, hid_ (bools_skip (Bools.drewN Hn.out _) ht), hid_ (Bools.drewN Hi.out _), hid_ (below_drewN Hw.out _)⟩
                  case measure => simp [intOf] <;> omega
            · have ht := table_no hik (by rw [esp]; exact h42) (fun h => absurd h hkl) (k := k) (S := ss)
              have e3 : decide ((k : Int) < (ss.length : Int)) = false := decide_eq_false (by omega)
              clear h42 esp
              generalize ps[i] = y at *
              go_wp2_with fail
              go_quiet (fail)
              go_wp2_with fail
              go_roundw
              case rel => exact ⟨k, by omega, rfl, hid_ (bools_skip (Bools.drewN Hn.out _) ht), hid_ (Bools.drewN Hi.out _), hid_ (below_drewN Hw.out _)⟩
              case measure => simp [intOf] <;> omega
end Go.Proofs.YtlkpofhfkhdheaaDoor
