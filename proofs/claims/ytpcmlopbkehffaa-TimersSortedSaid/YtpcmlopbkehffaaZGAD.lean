/-
  container/heap's down, Fix, Push, Remove at the items (gen_down.py).
-/
import Derived.Test.YtpcmlopbkehffaaZGAC
namespace Go.Proofs.Ytpcmlopbkehffaa
set_option linter.unusedSimpArgs false
set_option linter.unusedVariables false
open Go.RowKit Go.Shelf
namespace Ti
set_option linter.unusedSimpArgs false
set_option linter.unusedVariables false
/-- down's answer. -/
def DownPost (w : World) (g a n c N i0 : Nat) (l : List ItD) (e : Ending) (w' : World) : Prop := ∃ b l', e = .returned (.bool b) ∧ Moved w g a n c N l w' l' ∧ ((b = true ∧ HeapV (V l') N) ∨ (b = false ∧ UpOk (V l') N i0))
theorem down_end {v : Nat → Nat} {n i0 i : Nat} (h : DownOk v n i0 i) (h0 : i0 ≤ i) (hc : ∀ k, 0 < k → k < n → par k = i → v i ≤ v k) : (decide (i > i0) = true ∧ HeapV v n) ∨ (decide (i > i0) = false ∧ UpOk v n i0) := by
  rcases Nat.lt_or_ge i0 i with h1 | h1
  · exact .inl ⟨decide_eq_true h1, down_done h h1 hc⟩
  · obtain rfl : i = i0 := by omega
    exact .inr ⟨decide_eq_false (by omega), down_stays h hc⟩
theorem downPost_mk {w w' : World} {g a n c N i0 i : Nat} {l l' : List ItD} {b : Bool} (hb : b = decide (i > i0)) (h : Moved w g a n c N l w' l') (hd : DownOk (V l') N i0 i) (h0 : i0 ≤ i) (hc : ∀ k, 0 < k → k < N → par k = i → V l' i ≤ V l' k) : DownPost w g a n c N i0 l (.returned (.bool b)) w' := by
  subst hb
  exact ⟨_, l', rfl, h, down_end hd h0 hc⟩
theorem child {k i : Nat} (h0 : 0 < k) (h : par k = i) : k = 2 * i + 1 ∨ k = 2 * i + 2 := by unfold par at h; omega
theorem drewN_drewN (w : World) (a b : Nat) : (w.drewN a).drewN b = w.drewN (a + b) := by simp [World.drewN, Nat.add_assoc]
set_option maxHeartbeats 2000000 in
set_option maxRecDepth 100000 in
theorem down_any {w : World} {g a n c : Nat} {l : List ItD} (h : ItsIn w g a n c l) {N i0 : Nat} (hi : i0 < N) (hN : N ≤ l.length) (hm : n ≤ 1000000000) (hu : DownOk (V l) N i0 i0) :
    Calls Try.prog 59 #[hpV g, .int .i64 (i0 : Nat), .int .i64 (N : Nat)] w (DownPost w g a n c N i0 l) := by
  have H0 := hid_ (Moved.refl N h)
  have HU := hid_ hu
  have eL := enters_less
  have eS := enters_swap
  have hn := h.its.len
  clear h hu
  go_enter Try.func59, Try.ntmps59
  go_wp2_with fail
  go_loopw [7] (fun v7 wr => ∃ (i : Nat) (lr : List ItD), v7 = .int .i64 i ∧ i0 ≤ i ∧ i < N ∧ Hid (Moved w g a n c N l wr lr) ∧ Hid (DownOk (V lr) N i0 i)) (fun v7 _ => N - (intOf v7).toNat)
  case atStart => exact ⟨i0, l, by go_num, Nat.le_refl _, hi, H0, HU⟩
  case round =>
    obtain ⟨i, lr, rfl, h0, hk, HM, HK⟩ := hrel
    have hlr := HM.out.len
    obtain ⟨x, hx⟩ : ∃ x, x = 2 * i + 1 := ⟨_, rfl⟩
    obtain ⟨y, hy⟩ : ∃ y, y = 2 * i + 2 := ⟨_, rfl⟩
    have q1 : wrap64 (2 * (i : Int)) = 2 * (i : Int) := by unfold wrap64; omega
    have q2 : wrap64 (2 * (i : Int) + 1) = (x : Int) := by unfold wrap64; omega
    have q3 : (x : Int) + 1 = (y : Int) := by omega
    have q9 : wrap64 (y : Int) = (y : Int) := by unfold wrap64; omega
    have q4 : decide ((i : Int) > (i0 : Int)) = decide (i > i0) := by
      by_cases e : i > i0
      · rw [decide_eq_true e, decide_eq_true (by omega)]
      · rw [decide_eq_false e, decide_eq_false (by omega)]
    have q7 : decide ((x : Int) < 0) = false := decide_eq_false (by omega)
    have HX := hid_ hx
    have HY := hid_ hy
    have HH0 := hid_ h0
    have HKN := hid_ hk
    by_cases hA : N ≤ x
    · have q5 : decide ((x : Int) ≥ (N : Int)) = true := decide_eq_true (by omega)
      have q6 : decide ((N : Int) ≤ (x : Int)) = true := decide_eq_true (by omega)
      have q10 : decide (N ≤ x) = true := decide_eq_true (by omega)
      have q11 : decide (x ≥ N) = true := decide_eq_true (by omega)
      have HE := hid_ (fun k (k0 : 0 < k) (kn : k < N) (kp : par k = i) => (show V lr i ≤ V lr k by have := child k0 kp; omega))
      clear hx hy hlr h0 hk hA
      go_wp2_with fail
      go_ret
      exact downPost_mk (by first | rfl | rw [q4]) HM.out HK.out HH0.out HE.out
    · have q5 : decide ((x : Int) ≥ (N : Int)) = false := decide_eq_false (by omega)
      have q6 : decide ((N : Int) ≤ (x : Int)) = false := decide_eq_false (by omega)
      have q10 : decide (N ≤ x) = false := decide_eq_false (by omega)
      have q11 : decide (x ≥ N) = false := decide_eq_false (by omega)
      have hil : i < lr.length := by omega
      have hxl : x < lr.length := by omega
      by_cases hB : y < N
      · have q8 : decide ((y : Int) < (N : Int)) = true := decide_eq_true (by omega)
        have q12 : decide (y < N) = true := decide_eq_true (by omega)
        have hyl : y < lr.length := by omega
        have HLC := hid_ (less_any HM.out.it.its hyl hxl (HM.out.it.keys y hyl) (HM.out.it.keys x hxl))
        have HV1 := hid_ (show lessI lr[y].due lr[x].due = decide (V lr y < V lr x) by rw [V_at hyl, V_at hxl]; rfl)
        generalize lessI lr[y].due lr[x].due = b1 at *
        cases b1
        · have mL0 := finds_less HM.out.it.cell
          have mL := fun q => finds_less (HM.out.it.drewN q).cell
          have mS := fun q => finds_swap (HM.out.it.drewN q).cell
          have HLC2 := hid_ (fun q => less_any (HM.out.it.drewN q).its hxl hil (HM.out.it.keys x hxl) (HM.out.it.keys i hil))
          have HSC := hid_ (fun q => swap_any (HM.out.it.drewN q).its hil hxl (by omega : i ≠ x))
          have HV := hid_ (show lessI lr[x].due lr[i].due = decide (V lr x < V lr i) by rw [V_at hxl, V_at hil]; rfl)
          have HMIN := hid_ (fun k (k0 : 0 < k) (kn : k < N) (kp : par k = i) => (show V lr x ≤ V lr k by have h1 := child k0 kp; have h2 := of_decide_eq_false HV1.out.symm; have h3 := HX.out; have h4 := HY.out; (rcases (show k = x ∨ k = y by omega) with h5 | h5 <;> rw [h5] <;> omega)))
          have HPJ := hid_ (show par x = i ∧ 0 < x ∧ x < N ∧ i < x by unfold par; omega)
          have HSV := hid_ (swapL_V (l := lr) hil hxl)
          clear hx hy hlr h0 hk hA hB
          generalize lessI lr[x].due lr[i].due = b2 at *
          clear hil hxl hyl
          cases b2
          · go_wp2_with (first
              | (go_at_fn 127; (with_reducible refine HLC.out.mono ?_); rintro e w1 ⟨rfl, q, rfl⟩; (try rw [drewN_drewN]))
              | (go_at_fn 127; (with_reducible refine (HLC2.out _).mono ?_); rintro e w1 ⟨rfl, q, rfl⟩; (try rw [drewN_drewN]))
              | (go_at_fn 128; (with_reducible refine (HSC.out _).mono ?_); rintro e w2 ⟨rfl, hsw⟩; have HSW := hid_ hsw; clear hsw))
            go_ret
            exact downPost_mk (by first | rfl | rw [q4]) (HM.out.drewN _) HK.out HH0.out (fun k k0 kn kp => by have h1 := HMIN.out k k0 kn kp; have h2 := of_decide_eq_false HV.out.symm; omega)
          · go_wp2_with (first
              | (go_at_fn 127; (with_reducible refine HLC.out.mono ?_); rintro e w1 ⟨rfl, q, rfl⟩; (try rw [drewN_drewN]))
              | (go_at_fn 127; (with_reducible refine (HLC2.out _).mono ?_); rintro e w1 ⟨rfl, q, rfl⟩; (try rw [drewN_drewN]))
              | (go_at_fn 128; (with_reducible refine (HSC.out _).mono ?_); rintro e w2 ⟨rfl, hsw⟩; have HSW := hid_ hsw; clear hsw))
            go_roundw
            case rel =>
              refine ⟨x, _, by go_num, by have := HPJ.out; have := HH0.out; omega, HPJ.out.2.2.1, hid_ ((HM.out.drewN _).swap HKN.out HPJ.out.2.2.1 hN HSW.out.1 HSW.out.2), hid_ ?_⟩
              rw [HSV.out]
              exact down_step HK.out HH0.out HPJ.out.2.2.1 HPJ.out.2.1 HPJ.out.1 (of_decide_eq_true HV.out.symm) HMIN.out
            case measure => have := HPJ.out; have := HKN.out; simp [intOf]; omega
        · have mL0 := finds_less HM.out.it.cell
          have mL := fun q => finds_less (HM.out.it.drewN q).cell
          have mS := fun q => finds_swap (HM.out.it.drewN q).cell
          have HLC2 := hid_ (fun q => less_any (HM.out.it.drewN q).its hyl hil (HM.out.it.keys y hyl) (HM.out.it.keys i hil))
          have HSC := hid_ (fun q => swap_any (HM.out.it.drewN q).its hil hyl (by omega : i ≠ y))
          have HV := hid_ (show lessI lr[y].due lr[i].due = decide (V lr y < V lr i) by rw [V_at hyl, V_at hil]; rfl)
          have HMIN := hid_ (fun k (k0 : 0 < k) (kn : k < N) (kp : par k = i) => (show V lr y ≤ V lr k by have h1 := child k0 kp; have h2 := of_decide_eq_true HV1.out.symm; have h3 := HX.out; have h4 := HY.out; (rcases (show k = x ∨ k = y by omega) with h5 | h5 <;> rw [h5] <;> omega)))
          have HPJ := hid_ (show par y = i ∧ 0 < y ∧ y < N ∧ i < y by unfold par; omega)
          have HSV := hid_ (swapL_V (l := lr) hil hyl)
          clear hx hy hlr h0 hk hA hB
          generalize lessI lr[y].due lr[i].due = b2 at *
          clear hil hxl hyl
          cases b2
          · go_wp2_with (first
              | (go_at_fn 127; (with_reducible refine HLC.out.mono ?_); rintro e w1 ⟨rfl, q, rfl⟩; (try rw [drewN_drewN]))
              | (go_at_fn 127; (with_reducible refine (HLC2.out _).mono ?_); rintro e w1 ⟨rfl, q, rfl⟩; (try rw [drewN_drewN]))
              | (go_at_fn 128; (with_reducible refine (HSC.out _).mono ?_); rintro e w2 ⟨rfl, hsw⟩; have HSW := hid_ hsw; clear hsw))
            go_ret
            exact downPost_mk (by first | rfl | rw [q4]) (HM.out.drewN _) HK.out HH0.out (fun k k0 kn kp => by have h1 := HMIN.out k k0 kn kp; have h2 := of_decide_eq_false HV.out.symm; omega)
          · go_wp2_with (first
              | (go_at_fn 127; (with_reducible refine HLC.out.mono ?_); rintro e w1 ⟨rfl, q, rfl⟩; (try rw [drewN_drewN]))
              | (go_at_fn 127; (with_reducible refine (HLC2.out _).mono ?_); rintro e w1 ⟨rfl, q, rfl⟩; (try rw [drewN_drewN]))
              | (go_at_fn 128; (with_reducible refine (HSC.out _).mono ?_); rintro e w2 ⟨rfl, hsw⟩; have HSW := hid_ hsw; clear hsw))
            go_roundw
            case rel =>
              refine ⟨y, _, by go_num, by have := HPJ.out; have := HH0.out; omega, HPJ.out.2.2.1, hid_ ((HM.out.drewN _).swap HKN.out HPJ.out.2.2.1 hN HSW.out.1 HSW.out.2), hid_ ?_⟩
              rw [HSV.out]
              exact down_step HK.out HH0.out HPJ.out.2.2.1 HPJ.out.2.1 HPJ.out.1 (of_decide_eq_true HV.out.symm) HMIN.out
            case measure => have := HPJ.out; have := HKN.out; simp [intOf]; omega
      · have q8 : decide ((y : Int) < (N : Int)) = false := decide_eq_false (by omega)
        have q12 : decide (y < N) = false := decide_eq_false (by omega)
        have mL0 := finds_less HM.out.it.cell
        have mL := fun q => finds_less (HM.out.it.drewN q).cell
        have mS := fun q => finds_swap (HM.out.it.drewN q).cell
        have HLC := hid_ (less_any HM.out.it.its hxl hil (HM.out.it.keys x hxl) (HM.out.it.keys i hil))
        have HSC := hid_ (fun q => swap_any (HM.out.it.drewN q).its hil hxl (by omega : i ≠ x))
        have HV := hid_ (show lessI lr[x].due lr[i].due = decide (V lr x < V lr i) by rw [V_at hxl, V_at hil]; rfl)
        have HMIN := hid_ (fun k (k0 : 0 < k) (kn : k < N) (kp : par k = i) => (show V lr x ≤ V lr k by have h1 := child k0 kp; have h3 := HX.out; have h4 := HY.out; (rcases (show k = x by omega) with h5; rw [h5]; exact Nat.le_refl _)))
        have HPJ := hid_ (show par x = i ∧ 0 < x ∧ x < N ∧ i < x by unfold par; omega)
        have HSV := hid_ (swapL_V (l := lr) hil hxl)
        clear hx hy hlr h0 hk hA hB
        generalize lessI lr[x].due lr[i].due = b2 at *
        clear hil hxl
        cases b2
        · go_wp2_with (first
            | (go_at_fn 127; (with_reducible refine HLC.out.mono ?_); rintro e w1 ⟨rfl, q, rfl⟩; (try rw [drewN_drewN]))
            | (go_at_fn 127; (with_reducible refine (HLC.out _).mono ?_); rintro e w1 ⟨rfl, q, rfl⟩; (try rw [drewN_drewN]))
            | (go_at_fn 128; (with_reducible refine (HSC.out _).mono ?_); rintro e w2 ⟨rfl, hsw⟩; have HSW := hid_ hsw; clear hsw))
          go_ret
          exact downPost_mk (by first | rfl | rw [q4]) (HM.out.drewN _) HK.out HH0.out (fun k k0 kn kp => by have h1 := HMIN.out k k0 kn kp; have h2 := of_decide_eq_false HV.out.symm; omega)
        · go_wp2_with (first
            | (go_at_fn 127; (with_reducible refine HLC.out.mono ?_); rintro e w1 ⟨rfl, q, rfl⟩; (try rw [drewN_drewN]))
            | (go_at_fn 127; (with_reducible refine (HLC.out _).mono ?_); rintro e w1 ⟨rfl, q, rfl⟩; (try rw [drewN_drewN]))
            | (go_at_fn 128; (with_reducible refine (HSC.out _).mono ?_); rintro e w2 ⟨rfl, hsw⟩; have HSW := hid_ hsw; clear hsw))
          go_roundw
          case rel =>
            refine ⟨x, _, by go_num, by have := HPJ.out; have := HH0.out; omega, HPJ.out.2.2.1, hid_ ((HM.out.drewN _).swap HKN.out HPJ.out.2.2.1 hN HSW.out.1 HSW.out.2), hid_ ?_⟩
            rw [HSV.out]
            exact down_step HK.out HH0.out HPJ.out.2.2.1 HPJ.out.2.1 HPJ.out.1 (of_decide_eq_true HV.out.symm) HMIN.out
          case measure => have := HPJ.out; have := HKN.out; simp [intOf]; omega
end Ti
end Go.Proofs.Ytpcmlopbkehffaa

/-
  container/heap's Fix at the items; items' own Push and Pop; the library's Push, Remove.
-/
namespace Go.Proofs.Ytpcmlopbkehffaa
set_option linter.unusedSimpArgs false
set_option linter.unusedVariables false
open Go.RowKit Go.Shelf
namespace Ti
set_option linter.unusedSimpArgs false
set_option linter.unusedVariables false
set_option maxHeartbeats 2000000 in
set_option maxRecDepth 100000 in
theorem fix_any {w : World} {g a n c : Nat} {l : List ItD} (h : ItsIn w g a n c l) {i : Nat} (hi : i < n) (hm : n ≤ 1000000000) (hu : DownOk (V l) n i i) :
    Calls Try.prog 48 #[hpV g, .int .i64 (i : Nat)] w (UpPost w g a n c n l) := by
  have hn := h.its.len
  have HD := hid_ (down_any h hi (Nat.le_of_eq hn.symm) hm hu)
  have HUP := hid_ (fun w1 (l1 : List ItD) (hM : Moved w g a n c n l w1 l1) hU => up_any hM.it (N := n) (j := i) hi (by rw [hM.len]; omega) hm hU)
  have HL := hid_ (fun w => len_any (some ⟨a, 0, none⟩) n c w)
  have eN := enters_len
  have mN := finds_len h.cell
  clear h hu
  go_enter Try.func48, Try.ntmps48
  go_wp2_with (first
    | (go_at_fn 126; (with_reducible refine (HL.out _).mono ?_); rintro e w1 ⟨rfl, rfl⟩)
    | (go_at_call 59; (with_reducible refine HD.out.mono ?_); rintro e w1 ⟨b, l1, rfl, hm1, (⟨rfl, hh⟩ | ⟨rfl, hh⟩)⟩ <;> have HM1 := hid_ hm1 <;> have HH := hid_ hh <;> clear hm1 hh)
    | (go_at_call 60; (with_reducible refine (HUP.out _ _ HM1.out HH.out).mono ?_); rintro e w2 ⟨rfl, hup⟩; have HU2 := hid_ hup; clear hup))
  · go_end0
    exact upPost_mk HM1.out HH.out
  · go_end0
    obtain ⟨l2, h2, h3⟩ := HU2.out
    exact upPost_mk (HM1.out.trans h2) h3
end Ti
end Go.Proofs.Ytpcmlopbkehffaa

/-
  The items' own Push and Pop.
-/
namespace Go.Proofs.Ytpcmlopbkehffaa
set_option linter.unusedSimpArgs false
set_option linter.unusedVariables false
open Go.RowKit Go.Shelf
namespace Ti
set_option linter.unusedSimpArgs false
set_option linter.unusedVariables false
/-- What Push of the items leaves. -/
def IPush (w : World) (g : Nat) (A : Option Addr) (n c : Nat) (bs : List Nat) (q : Nat) (d : DueD) (mv : Value) (e : Ending) (w' : World) : Prop :=
  e = .returned (.tuple #[]) ∧ ∃ a c', OwnP 0 w' (some ⟨a, 0, none⟩) (n + 1) c' (bs ++ [q]) ∧ Whole w' g 62 #[.slice (some ⟨a, 0, none⟩) (n + 1) c', mv] ∧ Whole w' q 113 (cellsI d n) ∧
    Tn (fun b => b = g ∨ b = q ∨ (Value.slice A n c).ownBlock = some b) w w' ∧ ((Value.slice A n c).ownBlock = some a ∨ w.heap.size ≤ a)
theorem ptr_new (w : World) (x : Nat) (T : TypeId) : ptrE.Row (w.alloc (.cells #[.pointer (some ⟨x, 0, none⟩)] T)) (some ⟨w.heap.size, 0, none⟩) 1 1 [x] := Enc.row_new (E := ptrE) w x _ rfl T
theorem own_far {B : Nat} {w w' : World} {A : Option Addr} {n c : Nat} {ss : List Nat} (h : OwnP B w A n c ss) (hk : ∀ a, (Value.slice A n c).ownBlock = some a → w'.heap[a]? = w.heap[a]?) : OwnP B w' A n c ss := by
  obtain ⟨hl, h1 | ⟨g, cap, cur, e', hg, hh, r⟩⟩ := h
  · exact ⟨hl, .inl h1⟩
  · exact ⟨hl, .inr ⟨g, cap, cur, e', hg, (hk g (by rw [e']; rfl)).trans hh, r⟩⟩
theorem whole_grown {w w' : World} {g : Nat} {t : TypeId} {cs : Array Value} {row : Option Nat} (h : Whole w g t cs) (hb : w.grownBy w' row) (hg : some g ≠ row) : Whole w' g t cs := (hb.block g h.lt hg).trans h
theorem isItem (v : Value) (w : World) : (Instr.typeAssert (.iface 110 v) 20 110 true).run Try.prog w = .ok (.tuple #[v, .bool true]) w := by kernel_rfl
set_option maxHeartbeats 2000000 in
set_option maxRecDepth 100000 in
theorem ipush_any {w : World} {g : Nat} {A : Option Addr} {n c : Nat} {bs : List Nat} {q p0 : Nat} {d : DueD} {mv : Value} (hg : Whole w g 62 #[.slice A n c, mv]) (hr : OwnP 0 w A n c bs)
    (hq : Whole w q 113 (cellsI d p0)) (hgq : g ≠ q) (hA : ∀ a, (Value.slice A n c).ownBlock = some a → a ≠ g ∧ a ≠ q) (hm : n ≤ 1000000000) :
    Calls Try.prog 130 #[.pointer (some ⟨g, 0, none⟩), .iface 110 (.pointer (some ⟨q, 0, none⟩))] w (IPush w g A n c bs q d mv) := by
  have c0 : w.cell? ⟨g, 0, none⟩ = some (.slice A n c) := hg.cell 0 _ rfl
  have c2 : w.cell? ⟨q, 2, none⟩ = some (.int .i64 (p0 : Nat)) := hq.cell 2 _ rfl
  have f0 := hg.free
  have f1 := hq.free
  have HG1 := hid_ (hg.far (p := ⟨q, 2, none⟩) hgq (.int .i64 (n : Nat)))
  have HQ1 := hq.store 2 (.int .i64 (n : Nat))
  rw [cellsI_set] at HQ1
  have HQ1 := hid_ HQ1
  have HR1 := hid_ (own_far (w' := w.setCell ⟨q, 2, none⟩ (.int .i64 (n : Nat))) hr (fun a ha => Below.heap_setCell w _ _ a (hA a ha).2))
  have HT1 := hid_ ((Tn.refl (fun b => b = g ∨ b = q ∨ (Value.slice A n c).ownBlock = some b) w).set (.inl (.inr (.inl rfl))) 2 (.int .i64 (n : Nat)))
  have HA := hid_ hA
  have HGQ := hid_ hgq
  have c1 : (w.setCell ⟨q, 2, none⟩ (.int .i64 (n : Nat))).cell? ⟨g, 0, none⟩ = some (.slice A n c) := HG1.out.cell 0 _ rfl
  have f2 := HG1.out.free
  clear hg hr hq hA hgq
  have HL2 := hid_ (show ptrE.Row ((w.setCell ⟨q, 2, none⟩ (.int .i64 (n : Nat))).alloc (.cells #[.pointer (some ⟨q, 0, none⟩)] 110)) (some ⟨w.heap.size, 0, none⟩) 1 1 [q] by
    have := ptr_new (w.setCell ⟨q, 2, none⟩ (.int .i64 (n : Nat))) q 110
    rwa [World.size_setCell] at this)
  have HR2 := hid_ (HR1.out.later ((Below.refl _ _).alloc (Nat.le_refl _) (.cells #[.pointer (some ⟨q, 0, none⟩)] 110)))
  have HT2 := hid_ (HT1.out.alloc (.cells #[.pointer (some ⟨q, 0, none⟩)] 110))
  have HG2 := hid_ (HG1.out.alloc (.cells #[.pointer (some ⟨q, 0, none⟩)] 110))
  have HQ2 := hid_ (HQ1.out.alloc (.cells #[.pointer (some ⟨q, 0, none⟩)] 110))
  have HGL := hid_ HG1.out.lt
  have hT := isItem (.pointer (some ⟨q, 0, none⟩)) w
  go_enter Try.func130, Try.ntmps130
  go_wp2_with (at_builtin; refine Enc.wpList_rows (E := ptrE) (e := 110) rfl (.tmp 22) (.tmp 24) 59 rfl _ 8 Try.underlying59 info_ptr rfl 0 A n c _ rfl HR2.out (some ⟨w.heap.size, 0, none⟩) 1 1 [q] rfl HL2.out (n + 1) _ rfl rfl (by omega) (by omega) (Nat.zero_le _) ?_; intro A5 c5 w5 ho5 hb5 hg5 hat5; have HG5 := hid_ (whole_grown HG2.out hg5 (fun e => (HA.out g e.symm).1 rfl)); have c5g : w5.cell? ⟨g, 0, none⟩ = some (.slice A n c) := HG5.out.cell 0 _ rfl; have f5g := HG5.out.free; have HX := hid_ (And.intro ho5 (And.intro hg5 hat5)); clear ho5 hb5 hg5 hat5)
  go_end0
  obtain ⟨ho, hg5, hat⟩ := HX.out
  obtain ⟨a, rfl, _, hlt, _⟩ := ho.place (by omega)
  have hq5 := whole_grown HQ2.out hg5 (fun e => (HA.out q e.symm).2 rfl)
  have hag : a ≠ g := by
    rintro rfl
    rcases hat with h1 | h1
    · exact (HA.out a h1.symm).1 rfl
    · injection h1 with h1
      have := HGL.out
      simp only [World.size_alloc, World.size_setCell] at h1 this
      omega
  refine ⟨rfl, a, c5, own_stands ho (Below.heap_setCell w5 _ _ a hag), HG5.out.store 0 _, hq5.far (Ne.symm HGQ.out) _, ?_, ?_⟩
  · exact ((HT2.out.grown hg5 fun j hj => .inl (.inr (.inr hj))).set (.inl (.inl rfl)) 0 _)
  · rcases hat with h1 | h1
    · exact .inl h1.symm
    · injection h1 with h1
      simp only [World.size_alloc, World.size_setCell] at h1
      exact .inr (by omega)
/-- What Pop of the items leaves. -/
def IPop (w : World) (g a n c : Nat) (bs : List Nat) (q : Nat) (mv : Value) (e : Ending) (w' : World) : Prop :=
  e = .returned (.iface 110 (.pointer (some ⟨q, 0, none⟩))) ∧ OwnP 0 w' (some ⟨a, 0, none⟩) n c bs ∧ Whole w' g 62 #[.slice (some ⟨a, 0, none⟩) n c, mv] ∧ Tn (fun b => b = g ∨ b = a) w w'
theorem own_back {w : World} {a N n c : Nat} {bs : List Nat} {q : Nat} (h : OwnP 0 w (some ⟨a, 0, none⟩) N c (bs ++ [q])) (hn : bs.length = n) (v : Value) : OwnP 0 (w.setCell ⟨a, n, none⟩ v) (some ⟨a, 0, none⟩) n c bs := by
  have hlen := h.len
  obtain ⟨hl, h1 | ⟨g, cap, cur, e', hg, hh, hnc, hcm, hs, hc⟩⟩ := h
  · cases h1.1
  · injection e' with e1 e2 e3
    injection e1 with e1
    injection e1 with e1 _ _
    subst e1 e3
    rw [List.length_append, List.length_singleton] at hlen
    refine ⟨by rw [ptrE.all_length, hn], .inr ⟨a, c, cur.setIfInBounds n v, rfl, hg, ?_, by omega, hcm, by rw [Array.size_setIfInBounds]; exact hs, ?_⟩⟩
    · exact Whole.store hh _ _
    · have hK : ptrE.K = 1 := rfl
      rw [hK] at hc ⊢
      rw [Array.toList_setIfInBounds, List.take_set_of_le (by omega)]
      have h2 := congrArg (List.take (n * 1)) hc
      rw [List.take_take, Nat.min_eq_left (by omega), ptrE.all_append, List.take_append_of_le_length (by rw [ptrE.all_length, hn]; exact Nat.le_of_eq (by rfl))] at h2
      exact h2.trans (List.take_of_length_le (by rw [ptrE.all_length, hn]; exact Nat.le_of_eq (by rfl)))
set_option maxHeartbeats 2000000 in
set_option maxRecDepth 100000 in
theorem ipop_any {w : World} {g a N n c : Nat} {bs : List Nat} {q : Nat} {mv : Value} (hg : Whole w g 62 #[.slice (some ⟨a, 0, none⟩) N c, mv]) (hr : OwnP 0 w (some ⟨a, 0, none⟩) N c (bs ++ [q]))
    (hn : bs.length = n) (hag : a ≠ g) (hm : n ≤ 1000000000) :
    Calls Try.prog 129 #[.pointer (some ⟨g, 0, none⟩)] w (IPop w g a n c bs q mv) := by
  have hN : n + 1 = N := by have := hr.len; rw [List.length_append, List.length_singleton] at this; omega
  have hNc := hr.row.cap
  have c0 : w.cell? ⟨g, 0, none⟩ = some (.slice (some ⟨a, 0, none⟩) N c) := hg.cell 0 _ rfl
  have c1 : w.cell? ⟨a, n, none⟩ = some (.pointer (some ⟨q, 0, none⟩)) := by
    have := ptr_at hr (k := n) (by rw [List.length_append, List.length_singleton]; omega)
    rw [List.getElem_append_right (by omega)] at this
    simpa [hn] using this
  have f0 := hg.free
  have f1 := own_free hr
  have HG1 := hid_ (hg.far (p := ⟨a, n, none⟩) (Ne.symm hag) (.pointer none))
  have c2 : (w.setCell ⟨a, n, none⟩ (.pointer none)).cell? ⟨g, 0, none⟩ = some (.slice (some ⟨a, 0, none⟩) N c) := HG1.out.cell 0 _ rfl
  have f2 := HG1.out.free
  have HR1 := hid_ (own_back hr hn (.pointer none))
  have HAG := hid_ hag
  have q1 : (N : Int) - 1 = (n : Int) := by omega
  have q2 : n < N := by omega
  have q3 : (n : Int) < (N : Int) := by omega
  have q4 : (0 : Int) ≤ (n : Int) := by omega
  have q5 : n ≤ c := by omega
  have q6 : (n : Int) ≤ (c : Int) := by omega
  have q7 : wrap64 (n : Int) = (n : Int) := wrap64_small hm
  clear hg hr hag hN hn
  go_enter Try.func129, Try.ntmps129
  go_wp2_with fail
  go_ret
  refine ⟨rfl, own_stands HR1.out (Below.heap_setCell _ _ _ a HAG.out), HG1.out.store 0 _, ?_⟩
  exact ((Tn.refl (fun b => b = g ∨ b = a) w).set (.inl (.inr rfl)) n _).set (.inl (.inl rfl)) 0 _
end Ti
end Go.Proofs.Ytpcmlopbkehffaa
