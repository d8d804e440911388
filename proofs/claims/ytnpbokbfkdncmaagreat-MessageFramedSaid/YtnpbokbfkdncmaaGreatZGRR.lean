/-
  What the reference's reader answers, and what it leaves: bytes, and whether they ended too soon.
-/
import Derived.Test.YtnpbokbfkdncmaaGreatZGC
import Derived.Test.YtnpbokbfkdncmaaGreatZGM
namespace Go.Proofs.YtnpbokbfkdncmaaGreat
set_option linter.unusedSimpArgs false
set_option linter.unusedVariables false
open Go.RowKit Ru

/-- Block g is the reference's reader: these bytes are left to it, and whether it has gone wrong; they lie in no block of Q. -/
def Rr (w : World) (g : Nat) (Q : Nat → Prop) (s : List UInt8 × Bool) : Prop := ∃ A n c, Whole w g 57 #[.slice A n c, .bool s.2] ∧ Sl w A n c s.1 ∧ ∀ a, A = some a → s.1 ≠ [] → a.block ≠ g ∧ ¬ Q a.block
theorem Rr.lt {w : World} {g : Nat} {Q : Nat → Prop} {s : List UInt8 × Bool} (h : Rr w g Q s) : g < w.heap.size := by
  obtain ⟨A, n, c, h, _⟩ := h
  exact h.lt
theorem Rr.sub {w : World} {g : Nat} {Q Q' : Nat → Prop} {s : List UInt8 × Bool} (h : Rr w g Q s) (hq : ∀ q, Q' q → Q q) : Rr w g Q' s := by
  obtain ⟨A, n, c, h1, h2, h3⟩ := h
  exact ⟨A, n, c, h1, h2, fun a e hne => ⟨(h3 a e hne).1, fun hq' => (h3 a e hne).2 (hq _ hq')⟩⟩
def RrPost (w : World) (g : Nat) (Q : Nat → Prop) (v : Value) (s : List UInt8 × Bool) (e : Ending) (w' : World) : Prop := e = .returned v ∧ Rr w' g Q s ∧ w.grownBy w' (some g)
theorem rrPost_mk {w w' : World} {g : Nat} {Q : Nat → Prop} {v v' : Value} {s s' : List UInt8 × Bool} (e : v' = v) (h : Rr w' g Q s') (el : s' = s) (hg : w.grownBy w' (some g)) : RrPost w g Q v s (.returned v') w' := ⟨by rw [e], el ▸ h, hg⟩
theorem Rr.grown {w w' : World} {g : Nat} {Q : Nat → Prop} {s : List UInt8 × Bool} {row : Option Nat} (h : Rr w g Q s) (hg : w.grownBy w' row) (hne : some g ≠ row) (hr : ∀ q, row = some q → Q q) : Rr w' g Q s := by
  obtain ⟨A, n, c, h1, h2, h3⟩ := h
  refine ⟨A, n, c, h1.grown hg (Ne.symm hne), ⟨?_, h2.len, h2.cap, h2.max, h2.nil⟩, h3⟩
  intro hne2
  obtain ⟨b, off, e, hc⟩ := h2.holds hne2
  exact ⟨b, off, e, fun k u hu => hg.cell (hc k u hu) (fun e2 => (h3 ⟨b, off, Option.none⟩ e (by intro hl; rw [hl] at hne2; exact hne2 rfl)).2 (hr _ e2.symm))⟩
theorem Rr.below {w w' : World} {g : Nat} {Q : Nat → Prop} {s : List UInt8 × Bool} (h : Rr w g Q s) (hb : Below w.heap.size w w') : Rr w' g Q s :=
  h.grown (grown_below hb (Nat.le_refl _) none) (by intro e; cases e) (fun _ e => by cases e)
theorem Rr.alloc {w : World} {g : Nat} {Q : Nat → Prop} {s : List UInt8 × Bool} (h : Rr w g Q s) (o : Obj) : Rr (w.alloc o) g Q s := h.below ((Below.refl _ _).alloc (Nat.le_refl _) _)
theorem Rr.drew {w : World} {g : Nat} {Q : Nat → Prop} {s : List UInt8 × Bool} (h : Rr w g Q s) : Rr w.drew g Q s := h.below (Below.drew (Below.refl _ _))
/-- A new block holds none of the bytes that are left. -/
theorem Rr.bar {w : World} {g : Nat} {Q : Nat → Prop} {s : List UInt8 × Bool} (h : Rr w g Q s) (o : Obj) (G : Nat) (hG : G = w.heap.size) : Rr (w.alloc o) g (fun q => Q q ∨ q = G) s := by
  subst hG
  obtain ⟨A, n, c, h1, h2, h3⟩ := h
  refine ⟨A, n, c, h1.alloc o, h2.below ((Below.refl _ _).alloc (Nat.le_refl _) _), fun a e hne => ⟨(h3 a e hne).1, ?_⟩⟩
  rintro (hq | hq)
  · exact (h3 a e hne).2 hq
  · obtain ⟨b, off, e2, hc⟩ := h2.holds (bytes_ne hne)
    rw [e] at e2
    cases e2
    obtain ⟨x, t, hx⟩ := List.exists_cons_of_ne_nil hne
    rw [hx] at hc
    have := lt_of_cell (hc 0 _ rfl)
    simp only at this hq
    omega
/-- A store into a block of Q. -/
theorem Rr.store {w : World} {g : Nat} {Q : Nat → Prop} {s : List UInt8 × Bool} (h : Rr w g Q s) {q : Nat} (hq : Q q) (hne : q ≠ g) (o : Nat) (v : Value) : Rr (w.setCell ⟨q, o, none⟩ v) g Q s :=
  h.grown (grown_set w q o v) (by intro e; injection e with e; exact hne e.symm) (fun _ e => by cases e; exact hq)
/-- k bytes are taken. -/
def takeS (k : Nat) (s : List UInt8 × Bool) : List UInt8 × Bool := (s.1.drop k, s.2 || decide (s.1.length < k))
theorem takeS_zero (s : List UInt8 × Bool) : takeS 0 s = s := by unfold takeS; simp
theorem takeS_add (j k : Nat) (s : List UInt8 × Bool) : takeS k (takeS j s) = takeS (j + k) s := by
  unfold takeS
  simp only [List.drop_drop, List.length_drop, Prod.mk.injEq, true_and, Bool.or_assoc]
  congr 1
  by_cases h1 : s.1.length < j
  · have h2 : s.1.length < j + k := by omega
    rw [decide_eq_true h1, decide_eq_true h2]; rfl
  · by_cases h2 : s.1.length < j + k
    · rw [decide_eq_false h1, decide_eq_true (show s.1.length - j < k by omega), decide_eq_true h2]; rfl
    · rw [decide_eq_false h1, decide_eq_false (show ¬ s.1.length - j < k by omega), decide_eq_false h2]; rfl
set_option maxHeartbeats 1000000 in
theorem rbyte_any (g : Nat) (Q : Nat → Prop) (s : List UInt8 × Bool) (w : World) (h : Rr w g Q s) :
    Calls Tryz.prog 27 #[.pointer (some ⟨g, 0, none⟩)] w (RrPost w g Q (.int .u8 (hd s.1 : Nat)) (takeS 1 s)) := by
  obtain ⟨l, bad⟩ := s
  obtain ⟨A, n, c, hw, hs, ha⟩ := h
  dsimp only at hw hs ha
  have hle := hs.le
  have hnc := hs.cap
  have hcm := hs.max
  have y0 := hw.cell 0 (.slice A n c) rfl
  have y1 := hw.cell 1 (.bool bad) rfl
  have yf := hw.free 0
  have yf1 := hw.free 1
  have Hw := hid_ hw
  have Hs := hid_ hs
  have Ha := hid_ ha
  rcases l with _ | ⟨x, t⟩
  · obtain rfl : n = 0 := by rw [← hs.len]; rfl
    clear hs hw ha
    go_enter Tryz.func27, Tryz.ntmps27
    go_wp2_with fail
    go_ret
    exact rrPost_mk (s' := ([], true)) rfl ⟨A, 0, c, Hw.out.store 1 _, Hs.out.farg (fun a e hne => absurd rfl hne) 1 _, fun a e hne => absurd rfl hne⟩ (by simp [takeS]) (grown_set _ _ _ _)
  · have hn : n = t.length + 1 := by rw [← hs.len]; rfl
    obtain ⟨b, off, rfl, hc⟩ := hs.holds.at_ (k := 0) (by simp)
    have c0 : w.cell? ⟨b, off, none⟩ = some (.int .u8 (x.toNat : Int)) := by simpa using hc
    subst hn
    have Hf := hid_ (hs.from_ 1 (by omega))
    obtain ⟨hb, hbq⟩ := ha _ rfl (by simp)
    have Hbq := hid_ hbq
    have e1 : ((t.length + 1 : Nat) : Int) ≠ 0 := by omega
    have e2 : (((t.length + 1 : Nat) : Int) == 0) = false := beq_eq_false_iff_ne.2 e1
    have Hne := hid_ hb
    have Hta := hid_ (show takeS 1 (x :: t, bad) = (t, bad) by simp [takeS])
    clear hs hw ha hc e1 hb hbq
    by_cases hc1 : c = 1
    · subst hc1
      have Hf2 := hid_ (show Sl w (some ⟨b, off, none⟩) 0 0 t from Hf.out.at_ (cutAt_same rfl) (by omega) rfl rfl)
      go_enter Tryz.func27, Tryz.ntmps27
      go_wp2_with fail
      go_ret
      exact rrPost_mk (s' := (t, bad)) rfl ⟨_, _, _, Hw.out.store 0 _, Hf2.out.farg (fun a e _ => by cases e; exact Hne.out) 0 _, fun a e _ => by cases e; exact ⟨Hne.out, Hbq.out⟩⟩ Hta.out.symm (grown_set _ _ _ _)
    · have Hf2 := hid_ (show Sl w (some ⟨b, off + 1, none⟩) t.length (c - 1) t from Hf.out.at_ (cutAt_off hc1 (by omega) rfl) (by omega) rfl rfl)
      go_enter Tryz.func27, Tryz.ntmps27
      go_wp2_with fail
      go_ret
      exact rrPost_mk (s' := (t, bad)) rfl ⟨_, _, _, Hw.out.store 0 _, Hf2.out.farg (fun a e _ => by cases e; exact Hne.out) 0 _, fun a e _ => by cases e; exact ⟨Hne.out, Hbq.out⟩⟩ Hta.out.symm (grown_set _ _ _ _)
theorem numB_add (l : List UInt8) {k : Nat} (hk : k < 8) : IntKind.u64.wrap (IntKind.u64.wrap ((numB l k : Nat) * 256) + ((hd (l.drop k) : Nat) : Int)) = (numB l (k + 1) : Nat) := by
  have h2 := numB_lt l k
  have h3 : (256 : Nat) ^ k ≤ 256 ^ 7 := Nat.pow_le_pow_right (by omega) (by omega)
  rw [show (256 : Nat) ^ 7 = 72057594037927936 from rfl] at h3
  have e : hd (l.drop k) = (l.getD k 0).toNat := by
    unfold hd
    simp only [List.getD_eq_getElem?_getD, List.getElem?_drop, Nat.add_zero]
  have h4 : numB l (k + 1) = numB l k * 256 + hd (l.drop k) := by rw [numB, e]
  have hc : hd (l.drop k) < 256 := by rw [e]; exact UInt8.toNat_lt _
  generalize hd (l.drop k) = z at *
  rw [wrap_u64, wrap_u64, h4]
  omega
set_option maxHeartbeats 1000000 in
theorem rrnumber_any (g : Nat) (Q : Nat → Prop) (s : List UInt8 × Bool) (w : World) (h : Rr w g Q s) :
    Calls Tryz.prog 28 #[.pointer (some ⟨g, 0, none⟩)] w (RrPost w g Q (.int .u64 (numB s.1 8 : Nat)) (takeS 8 s)) := by
  have H := hid_ h
  clear h
  go_enter Tryz.func28, Tryz.ntmps28
  go_wp2_with fail
  go_loopw [3, 4] (fun v i wr => ∃ (k z : Nat), k ≤ 8 ∧ i = .int .i64 (k : Nat) ∧ v = .int .u64 (z : Nat) ∧ Hid (numB s.1 k = z) ∧ Hid (Rr wr g Q (takeS k s)) ∧ Hid (w.grownBy wr (some g))) (fun _ i _ => 8 - (intOf i).toNat)
  case atStart => exact ⟨0, 0, by omega, rfl, rfl, hid_ rfl, hid_ (by rw [takeS_zero]; exact H.out), hid_ (grown_refl _ _)⟩
  case round =>
    obtain ⟨k, z, hk, rfl, rfl, HZ, HR, HG⟩ := hrel
    by_cases hlt : k < 8
    · have Hs := hid_ (numB_add s.1 hlt)
      have hlt' := hd_lt (s.1.drop k)
      have Hc := hid_ (fun W h => rbyte_any g Q (takeS k s) W h)
      have Hd := hid_ (takeS_add k 1 s)
      rw [show (takeS k s).1 = s.1.drop k from rfl] at Hc
      generalize hd (s.1.drop k) = y at *
      go_wp2_with fail
      refine Calls.mono (Hc.out _ HR.out) ?_
      rintro e w2 ⟨rfl, hr2, hg2⟩
      have HR2 := hid_ (Hd.out ▸ hr2)
      have HG2 := hid_ (grown_trans HG.out hg2)
      clear hr2 hg2
      go_wp2_with fail
      go_roundw
      case rel => exact ⟨k + 1, numB s.1 (k + 1), by omega, by go_num, int_at_ (by rw [← HZ.out]; exact Hs.out), hid_ rfl, HR2, HG2⟩
      case measure => simp [intOf]; omega
    · obtain rfl : k = 8 := by omega
      go_wp2_with fail
      go_ret
      exact rrPost_mk (by have := HZ.out; subst this; rfl) HR.out rfl HG.out
set_option maxHeartbeats 1000000 in
theorem rrballot_any (g : Nat) (Q : Nat → Prop) (s : List UInt8 × Bool) (w : World) (h : Rr w g Q s) :
    Calls Tryz.prog 29 #[.pointer (some ⟨g, 0, none⟩)] w (RrPost w g Q (.agg #[.int .u64 (numB s.1 8 : Nat), .int .u64 (numB (s.1.drop 8) 8 : Nat)]) (takeS 16 s)) := by
  have H := hid_ (h.bar (.cells #[.int .u64 0, .int .u64 0] 24) w.heap.size rfl)
  have R0 := hid_ (whole_new w 24 #[.int .u64 0, .int .u64 0])
  have hlt := h.lt
  have G0 := hid_ (grown_alloc (grown_refl w (some g)) (.cells #[.int .u64 0, .int .u64 0] 24))
  clear h
  go_enter Tryz.func29, Tryz.ntmps29
  go_wp2_with fail
  refine Calls.mono (rrnumber_any g _ s _ H.out) ?_
  rintro e w1 ⟨rfl, hr1, hg1⟩
  have H1 := hid_ hr1
  have R1 := hid_ (R0.out.grown hg1 (by intro e; injection e with e; omega))
  have G1 := hid_ (grown_trans G0.out hg1)
  clear hr1 hg1
  have H2' := hid_ (fun W h => rrnumber_any g (fun q => Q q ∨ q = w.heap.size) (takeS 8 s) W h)
  rw [takeS_add, show (takeS 8 s).1 = s.1.drop 8 from rfl] at H2'
  generalize numB s.1 8 = x1 at *
  generalize numB (s.1.drop 8) 8 = x2 at *
  go_wp2_with fail
  refine Calls.mono (H2'.out _ H1.out) ?_
  rintro e w2 ⟨rfl, hr2, hg2⟩
  have H2 := hid_ hr2
  have R2 := hid_ (R1.out.grown hg2 (by intro e; injection e with e; omega))
  have G2 := hid_ (grown_trans G1.out hg2)
  clear hr2 hg2
  have y0 := R2.out.cell 0 _ rfl
  have y1 := R2.out.cell 1 _ rfl
  have f0 := R2.out.free 0
  have f1 := R2.out.free 1
  have hne : g ≠ w.heap.size := by omega
  go_wp2_with fail
  exact bodyPost_ret (v := .agg #[.int .u64 (x1 : Nat), .int .u64 (x2 : Nat)]) (by simp [results, Tryz.results29, go_sem, y0, y1]) rfl
    (rrPost_mk rfl ((((H2.out.store (.inr rfl) hne.symm 0 _).store (.inr rfl) hne.symm 1 _).sub (fun _ h => .inl h))) rfl (grown_new (grown_new G2.out (Nat.le_refl _) 0 _) (Nat.le_refl _) 1 _))
def truthS (s : List UInt8 × Bool) : List UInt8 × Bool := ((takeS 1 s).1, (takeS 1 s).2 || decide (1 < hd s.1))
set_option maxHeartbeats 1000000 in
theorem rrtruth_any (g : Nat) (Q : Nat → Prop) (s : List UInt8 × Bool) (w : World) (h : Rr w g Q s) :
    Calls Tryz.prog 30 #[.pointer (some ⟨g, 0, none⟩)] w (RrPost w g Q (.bool (decide (hd s.1 = 1))) (truthS s)) := by
  have H := hid_ h
  have Hc := hid_ (fun W h => rbyte_any g Q s W h)
  have hlt := hd_lt s.1
  have Hts := hid_ (show truthS s = ((takeS 1 s).1, (takeS 1 s).2 || decide (1 < hd s.1)) from rfl)
  clear h
  generalize takeS 1 s = s1 at *
  generalize hd s.1 = y at *
  obtain ⟨l1, bad1⟩ := s1
  dsimp only at Hts
  have eg : decide (((y : Nat) : Int) > 1) = decide (1 < y) := by
    by_cases h : 1 < y
    · rw [decide_eq_true h, decide_eq_true (show ((y : Nat) : Int) > 1 by omega)]
    · rw [decide_eq_false h, decide_eq_false (show ¬ ((y : Nat) : Int) > 1 by omega)]
  have ee : (((y : Nat) : Int) == 1) = decide (y = 1) := by
    by_cases h : y = 1
    · subst h; rfl
    · rw [decide_eq_false h, beq_eq_false_iff_ne]; omega
  go_enter Tryz.func30, Tryz.ntmps30
  go_wp2_with fail
  refine Calls.mono (Hc.out _ H.out) ?_
  rintro e w1 ⟨rfl, ⟨A, n, c, hw1, hs1, ha1⟩, hg1⟩
  have y1 := hw1.cell 1 (.bool bad1) rfl
  have f1 := hw1.free 1
  have Hw1 := hid_ hw1
  have Hs1 := hid_ hs1
  have Ha1 := hid_ ha1
  have Hg1 := hid_ hg1
  clear hw1 hs1 ha1 hg1
  cases bad1
  · go_wp2_with fail
    go_ret
    exact rrPost_mk (s' := (l1, decide (1 < y))) rfl ⟨_, _, _, Hw1.out.store 1 _, Hs1.out.farg (fun a e hne => (Ha1.out a e hne).1) 1 _, Ha1.out⟩ (by rw [Hts.out]; rfl) (grown_trans Hg1.out (grown_set _ _ _ _))
  · go_wp2_with fail
    go_ret
    exact rrPost_mk (s' := (l1, true)) rfl ⟨_, _, _, Hw1.out.store 1 _, Hs1.out.farg (fun a e hne => (Ha1.out a e hne).1) 1 _, Ha1.out⟩ (by rw [Hts.out]; rfl) (grown_trans Hg1.out (grown_set _ _ _ _))
end Go.Proofs.YtnpbokbfkdncmaaGreat

/-
  Reading as the reference does it: bytes that end too soon, or tell what cannot be, are seen.
-/
namespace Go.Proofs.YtnpbokbfkdncmaaGreat
set_option linter.unusedSimpArgs false
set_option linter.unusedVariables false
open Go.RowKit Ru
open Fm Crc
theorem cut_back {b d r : List UInt8} (h : cutF b = (0, d, r)) : framed d ++ r = b := by
  have h0 : (cutF b).1 = 0 := by rw [h]
  by_cases c0 : b.length < 4
  · rw [cut_few c0] at h0; cases h0
  by_cases c1 : 8192 < numN b
  · rw [cut_long c0 c1] at h0; cases h0
  by_cases c2 : b.length < 4 + numN b + 4
  · rw [cut_cut c0 c1 c2] at h0; cases h0
  by_cases c3 : (more 0#32 (b.take (4 + numN b))).toNat = numN (b.drop (4 + numN b))
  rotate_left
  · rw [Fm.cut_bad c0 c1 c2 c3] at h0; cases h0
  rw [cut_ok c0 c1 c2 c3] at h
  injection h with _ h
  injection h with hd hr
  have hl : d.length = numN b := by rw [← hd]; simp; omega
  have e1 : word (BitVec.ofNat 32 d.length) = b.take 4 := by
    rw [hl, ← numN_take b 4 (Nat.le_refl _)]
    exact word_numN _ (by simp; omega)
  have e2 : b.take 4 ++ d = b.take (4 + numN b) := by
    rw [← hd, show b.take 4 = (b.take (4 + numN b)).take 4 by rw [List.take_take]; congr 1; omega, List.take_append_drop]
  have e3 : word (more 0#32 (b.take (4 + numN b))) = (b.drop (4 + numN b)).take 4 := by
    have : more 0#32 (b.take (4 + numN b)) = BitVec.ofNat 32 (numN ((b.drop (4 + numN b)).take 4)) := by
      apply BitVec.eq_of_toNat_eq
      rw [c3, numN_take _ 4 (Nat.le_refl _), BitVec.toNat_ofNat, Nat.mod_eq_of_lt (numN_lt _)]
    rw [this]
    exact word_numN _ (by simp; omega)
  have e4 : framed d = b.take (4 + numN b) ++ (b.drop (4 + numN b)).take 4 := by
    unfold framed
    rw [e1, e2, e3]
  rw [e4, ← hr, List.append_assoc, show b.drop (4 + numN b + 4) = (b.drop (4 + numN b)).drop 4 by rw [List.drop_drop], List.take_append_drop, List.take_append_drop]
theorem takeS_ok {k : Nat} {s : List UInt8 × Bool} (h : (takeS k s).2 = false) : s.2 = false ∧ k ≤ s.1.length := by
  unfold takeS at h
  simpa using h
theorem take8_ok {s : List UInt8 × Bool} (h : (takeS 8 s).2 = false) : s.2 = false ∧ eight (numB s.1 8) ++ (takeS 8 s).1 = s.1 := by
  obtain ⟨h1, h2⟩ := takeS_ok h
  exact ⟨h1, by rw [eight_numB _ h2]; exact List.take_append_drop 8 s.1⟩
theorem take16_ok {s : List UInt8 × Bool} (h : (takeS 16 s).2 = false) : s.2 = false ∧ (eight (numB s.1 8) ++ eight (numB (s.1.drop 8) 8)) ++ (takeS 16 s).1 = s.1 := by
  have e : takeS 16 s = takeS 8 (takeS 8 s) := by rw [takeS_add]
  rw [e] at h ⊢
  obtain ⟨h1, h2⟩ := take8_ok h
  obtain ⟨h3, h4⟩ := take8_ok h1
  exact ⟨h3, by rw [List.append_assoc, show s.1.drop 8 = (takeS 8 s).1 from rfl, h2, h4]⟩
theorem byteI_hd (l : List UInt8) (x : UInt8) : byteI ((hd (x :: l) : Nat) : Int) = x := by
  apply UInt8.toNat_inj.1
  have h := UInt8.toNat_lt x
  rw [byteI_nat (by show x.toNat < 256; omega)]
  rfl
theorem take1_ok {s : List UInt8 × Bool} (h : (takeS 1 s).2 = false) : s.2 = false ∧ byteI ((hd s.1 : Nat) : Int) :: (takeS 1 s).1 = s.1 := by
  obtain ⟨h1, h2⟩ := takeS_ok h
  obtain ⟨l, b⟩ := s
  cases l with
  | nil => simp at h2
  | cons x t => exact ⟨h1, by show byteI _ :: t = x :: t; rw [byteI_hd]⟩
theorem truthS_ok {s : List UInt8 × Bool} (h : (truthS s).2 = false) : s.2 = false ∧ flag (decide (hd s.1 = 1)) :: (truthS s).1 = s.1 := by
  unfold truthS at h ⊢
  simp only [Bool.or_eq_false_iff, decide_eq_false_iff_not] at h
  obtain ⟨h1, h2⟩ := take1_ok h.1
  refine ⟨h1, ?_⟩
  have e : flag (decide (hd s.1 = 1)) = byteI ((hd s.1 : Nat) : Int) := by
    rcases (show hd s.1 = 0 ∨ hd s.1 = 1 by omega) with e | e
    · rw [e]; rfl
    · rw [e]; rfl
  rw [e]
  exact h2
def spanS : Nat → List UInt8 × Bool → List SpanD × (List UInt8 × Bool)
  | 0, s => ([], s)
  | n + 1, s => if s.2 = true then ([], s) else ((cutSpanF s.1).2.1 :: (spanS n ((cutSpanF s.1).2.2, decide ((cutSpanF s.1).1 ≠ 0))).1, (spanS n ((cutSpanF s.1).2.2, decide ((cutSpanF s.1).1 ≠ 0))).2)
def memS : Nat → List UInt8 × Bool → List MemberD × (List UInt8 × Bool)
  | 0, s => ([], s)
  | n + 1, s => if s.2 = true then ([], s) else (memAt s.1 :: (memS n (takeS 17 s)).1, (memS n (takeS 17 s)).2)
def idS : Nat → List UInt8 × Bool → List Nat × (List UInt8 × Bool)
  | 0, s => ([], s)
  | n + 1, s => if s.2 = true then ([], s) else (numB s.1 8 :: (idS n (takeS 8 s)).1, (idS n (takeS 8 s)).2)
theorem spanS_ok : ∀ (n : Nat) (s : List UInt8 × Bool), (spanS n s).2.2 = false → s.2 = false ∧ (spanS n s).1.flatMap putF ++ (spanS n s).2.1 = s.1 ∧ (spanS n s).1.length = n ∧ ∀ x ∈ (spanS n s).1, x.Wf
  | 0, s, h => ⟨h, rfl, rfl, fun x hx => by cases hx⟩
  | n + 1, s, h => by
    unfold spanS at h ⊢
    by_cases hb : s.2 = true
    · rw [if_pos hb] at h
      rw [show (([] : List SpanD), s).2.2 = s.2 from rfl, hb] at h
      cases h
    rw [if_neg hb] at h ⊢
    obtain ⟨h1, h2, h3, h4⟩ := spanS_ok n _ h
    have hk : (cutSpanF s.1).1 = 0 := by simpa using h1
    have hc : cutSpanF s.1 = (0, (cutSpanF s.1).2.1, (cutSpanF s.1).2.2) := by rw [← hk]
    refine ⟨by simpa using hb, ?_, by rw [List.length_cons, h3], ?_⟩
    · rw [List.flatMap_cons, List.append_assoc, h2]
      exact (cutSpan_back hc).1
    · intro x hx
      rcases List.mem_cons.1 hx with rfl | hx
      · exact cutSpan_wf s.1
      · exact h4 x hx
theorem memS_ok : ∀ (n : Nat) (s : List UInt8 × Bool), (memS n s).2.2 = false → s.2 = false ∧ (memS n s).1.flatMap memB ++ (memS n s).2.1 = s.1 ∧ (memS n s).1.length = n ∧ ∀ x ∈ (memS n s).1, x.Wf
  | 0, s, h => ⟨h, rfl, rfl, fun x hx => by cases hx⟩
  | n + 1, s, h => by
    unfold memS at h ⊢
    by_cases hb : s.2 = true
    · rw [if_pos hb] at h
      rw [show (([] : List MemberD), s).2.2 = s.2 from rfl, hb] at h
      cases h
    rw [if_neg hb] at h ⊢
    obtain ⟨h1, h2, h3, h4⟩ := memS_ok n _ h
    have e : takeS 17 s = takeS 1 (takeS 16 s) := by rw [takeS_add]
    rw [e] at h1
    obtain ⟨h5, h6⟩ := take1_ok h1
    obtain ⟨h7, h8⟩ := take16_ok h5
    refine ⟨h7, ?_, by rw [List.length_cons, h3], ?_⟩
    · rw [List.flatMap_cons, List.append_assoc, h2, e]
      unfold memB memAt
      dsimp only
      rw [List.append_assoc, List.append_assoc, List.singleton_append, show s.1.drop 16 = (takeS 16 s).1 from rfl, h6, ← List.append_assoc]
      exact h8
    · intro x hx
      rcases List.mem_cons.1 hx with rfl | hx
      · exact ⟨numB_lt _ 8, numB_lt _ 8, by have := hd_lt (s.1.drop 16); show -9223372036854775808 ≤ ((hd (s.1.drop 16) : Nat) : Int); omega, by have := hd_lt (s.1.drop 16); show ((hd (s.1.drop 16) : Nat) : Int) ≤ _; omega⟩
      · exact h4 x hx
theorem idS_ok : ∀ (n : Nat) (s : List UInt8 × Bool), (idS n s).2.2 = false → s.2 = false ∧ (idS n s).1.flatMap eight ++ (idS n s).2.1 = s.1 ∧ (idS n s).1.length = n ∧ ∀ x ∈ (idS n s).1, x < 18446744073709551616
  | 0, s, h => ⟨h, rfl, rfl, fun x hx => by cases hx⟩
  | n + 1, s, h => by
    unfold idS at h ⊢
    by_cases hb : s.2 = true
    · rw [if_pos hb] at h
      rw [show (([] : List Nat), s).2.2 = s.2 from rfl, hb] at h
      cases h
    rw [if_neg hb] at h ⊢
    obtain ⟨h1, h2, h3, h4⟩ := idS_ok n _ h
    obtain ⟨h5, h6⟩ := take8_ok h1
    refine ⟨h5, ?_, by rw [List.length_cons, h3], ?_⟩
    · rw [List.flatMap_cons, List.append_assoc, h2]
      exact h6
    · intro x hx
      rcases List.mem_cons.1 hx with rfl | hx
      · exact numB_lt _ 8
      · exact h4 x hx
def stT (k : Nat) (s : List UInt8 × Bool) : List UInt8 × Bool := if k = 3 then s else takeS 8 s
def stB (h : PartsD) (s : List UInt8 × Bool) : List UInt8 × Bool := if h.ballot then takeS 16 s else s
def stA (h : PartsD) (s : List UInt8 × Bool) : List UInt8 × Bool := if h.answer then takeS 16 (truthS s) else s
def stV (h : PartsD) (s : List UInt8 × Bool) : List UInt8 × Bool := if h.verdict then takeS 1 s else s
def spL (h : PartsD) (s : List UInt8 × Bool) : List SpanD × (List UInt8 × Bool) := if h.spans then spanS (hd s.1) (takeS 1 s) else ([], s)
def meL (h : PartsD) (s : List UInt8 × Bool) : List MemberD × (List UInt8 × Bool) := if h.members then memS (hd s.1) (takeS 1 s) else ([], s)
def idL (h : PartsD) (s : List UInt8 × Bool) : List Nat × (List UInt8 × Bool) := if h.ids then idS (hd s.1) (takeS 1 s) else ([], s)
/-- A packet as the reference reads it, with what is left, and whether the bytes ended too soon. -/
def sreadF (d : List UInt8) : PackD × (List UInt8 × Bool) :=
  let k := hd d
  let h := partsF (k : Nat)
  let s1 := takeS 1 (d, false)
  let s2 := stT k s1
  let s3 := stB h s2
  let s4 := stA h s3
  let s5 := stV h s4
  let s6 := (spL h s5).2
  let s7 := (meL h s6).2
  (⟨(k : Nat), if k = 3 then 0 else numB s1.1 8, if h.ballot then numB s2.1 8 else 0, if h.ballot then numB (s2.1.drop 8) 8 else 0, if h.answer then numB (truthS s3).1 8 else 0, if h.answer then numB ((truthS s3).1.drop 8) 8 else 0,
    if h.verdict then ((hd s4.1 : Nat) : Int) else 0, if h.answer then decide (hd s3.1 = 1) else false, (spL h s5).1, (meL h s6).1, (idL h s7).1⟩, (idL h s7).2)
theorem stT_ok {k : Nat} {s : List UInt8 × Bool} (h : (stT k s).2 = false) : s.2 = false ∧ optB (decide (k ≠ 3)) (eight (if k = 3 then 0 else numB s.1 8)) ++ (stT k s).1 = s.1 := by
  unfold stT at h ⊢
  by_cases hk : k = 3
  · subst hk
    exact ⟨by simpa using h, by simp [optB]⟩
  · rw [if_neg hk] at h ⊢
    rw [if_neg hk, decide_eq_true hk]
    exact take8_ok h
theorem stB_ok {h : PartsD} {s : List UInt8 × Bool} (hb : (stB h s).2 = false) : s.2 = false ∧ optB h.ballot (eight (if h.ballot then numB s.1 8 else 0) ++ eight (if h.ballot then numB (s.1.drop 8) 8 else 0)) ++ (stB h s).1 = s.1 := by
  unfold stB at hb ⊢
  cases e : h.ballot
  · rw [e] at hb
    exact ⟨hb, rfl⟩
  · rw [e] at hb
    exact take16_ok hb
theorem stA_ok {h : PartsD} {s : List UInt8 × Bool} (hb : (stA h s).2 = false) : s.2 = false ∧ optB h.answer (flag (if h.answer then decide (hd s.1 = 1) else false) :: (eight (if h.answer then numB (truthS s).1 8 else 0) ++ eight (if h.answer then numB ((truthS s).1.drop 8) 8 else 0))) ++ (stA h s).1 = s.1 := by
  unfold stA at hb ⊢
  cases e : h.answer
  · rw [e] at hb
    exact ⟨hb, rfl⟩
  · rw [e] at hb
    obtain ⟨h1, h2⟩ := take16_ok hb
    obtain ⟨h3, h4⟩ := truthS_ok h1
    refine ⟨h3, ?_⟩
    simp only [reduceIte]
    show flag _ :: ((_ ++ _) ++ (takeS 16 (truthS s)).1) = _
    rw [h2]
    exact h4
theorem stV_ok {h : PartsD} {s : List UInt8 × Bool} (hb : (stV h s).2 = false) : s.2 = false ∧ optB h.verdict [byteI (if h.verdict then ((hd s.1 : Nat) : Int) else 0)] ++ (stV h s).1 = s.1 := by
  unfold stV at hb ⊢
  cases e : h.verdict
  · rw [e] at hb
    exact ⟨hb, rfl⟩
  · rw [e] at hb
    exact take1_ok hb
theorem spL_ok {h : PartsD} {s : List UInt8 × Bool} (hb : (spL h s).2.2 = false) : s.2 = false ∧ optB h.spans (byteI (((spL h s).1.length : Nat) : Int) :: (spL h s).1.flatMap putF) ++ (spL h s).2.1 = s.1 ∧ ∀ x ∈ (spL h s).1, x.Wf := by
  unfold spL at hb ⊢
  cases e : h.spans
  · rw [e] at hb
    exact ⟨hb, rfl, fun x hx => by cases hx⟩
  · rw [e] at hb
    obtain ⟨h1, h2, h3, h4⟩ := spanS_ok _ _ hb
    obtain ⟨h5, h6⟩ := take1_ok h1
    refine ⟨h5, ?_, h4⟩
    simp only [reduceIte]
    show byteI _ :: (_ ++ _) = _
    rw [h2, h3]
    exact h6
theorem meL_ok {h : PartsD} {s : List UInt8 × Bool} (hb : (meL h s).2.2 = false) : s.2 = false ∧ optB h.members (byteI (((meL h s).1.length : Nat) : Int) :: (meL h s).1.flatMap memB) ++ (meL h s).2.1 = s.1 ∧ ∀ x ∈ (meL h s).1, x.Wf := by
  unfold meL at hb ⊢
  cases e : h.members
  · rw [e] at hb
    exact ⟨hb, rfl, fun x hx => by cases hx⟩
  · rw [e] at hb
    obtain ⟨h1, h2, h3, h4⟩ := memS_ok _ _ hb
    obtain ⟨h5, h6⟩ := take1_ok h1
    refine ⟨h5, ?_, h4⟩
    simp only [reduceIte]
    show byteI _ :: (_ ++ _) = _
    rw [h2, h3]
    exact h6
theorem idL_ok {h : PartsD} {s : List UInt8 × Bool} (hb : (idL h s).2.2 = false) : s.2 = false ∧ optB h.ids (byteI (((idL h s).1.length : Nat) : Int) :: (idL h s).1.flatMap eight) ++ (idL h s).2.1 = s.1 ∧ ∀ x ∈ (idL h s).1, x < 18446744073709551616 := by
  unfold idL at hb ⊢
  cases e : h.ids
  · rw [e] at hb
    exact ⟨hb, rfl, fun x hx => by cases hx⟩
  · rw [e] at hb
    obtain ⟨h1, h2, h3, h4⟩ := idS_ok _ _ hb
    obtain ⟨h5, h6⟩ := take1_ok h1
    refine ⟨h5, ?_, h4⟩
    simp only [reduceIte]
    show byteI _ :: (_ ++ _) = _
    rw [h2, h3]
    exact h6
theorem parts_trace {k : Nat} (h : 1 ≤ k ∧ k ≤ 10) : (partsF (k : Nat)).trace = decide (k ≠ 3) := by
  rcases (show k = 1 ∨ k = 2 ∨ k = 3 ∨ k = 4 ∨ k = 5 ∨ k = 6 ∨ k = 7 ∨ k = 8 ∨ k = 9 ∨ k = 10 by omega) with rfl | rfl | rfl | rfl | rfl | rfl | rfl | rfl | rfl | rfl <;> rfl
theorem numB_if (c : Prop) [Decidable c] (l : List UInt8) : (if c then numB l 8 else 0) < 18446744073709551616 := by
  split
  · exact numB_lt l 8
  · omega
/-- What was read to the end, and not too far, is what is written of it. -/
theorem strict_inv {d : List UInt8} (hk : 1 ≤ hd d ∧ hd d ≤ 10) (hb : (sreadF d).2 = ([], false)) : writtenF (sreadF d).1 = d ∧ (sreadF d).1.Wf := by
  have hpt := parts_trace hk
  unfold sreadF at hb ⊢
  dsimp only at hb ⊢
  generalize hh : partsF ((hd d : Nat) : Int) = h at *
  have b7 : (idL h (meL h (spL h (stV h (stA h (stB h (stT (hd d) (takeS 1 (d, false))))))).2).2).2.2 = false := by rw [hb]
  have l7 : (idL h (meL h (spL h (stV h (stA h (stB h (stT (hd d) (takeS 1 (d, false))))))).2).2).2.1 = [] := by rw [hb]
  obtain ⟨b6, e7, w7⟩ := idL_ok b7
  obtain ⟨b5, e6, w6⟩ := meL_ok b6
  obtain ⟨b4, e5, w5⟩ := spL_ok b5
  obtain ⟨b3, e4⟩ := stV_ok b4
  obtain ⟨b2, e3⟩ := stA_ok b3
  obtain ⟨b1, e2⟩ := stB_ok b2
  obtain ⟨b0, e1⟩ := stT_ok b1
  obtain ⟨_, e0⟩ := take1_ok b0
  rw [l7, List.append_nil] at e7
  constructor
  · unfold writtenF
    dsimp only
    rw [hh, hpt, e7, e6, e5, e4, e3, e2, e1]
    exact e0
  · exact ⟨by dsimp only; split; omega; exact numB_lt _ 8, numB_if _ _, numB_if _ _, numB_if _ _, numB_if _ _, w5, w6, w7⟩
theorem takeS_put (x t : List UInt8) {k : Nat} (hx : x.length = k) : takeS k (x ++ t, false) = (t, false) := by
  unfold takeS
  subst hx
  simp
theorem truthS_put (b : Bool) (t : List UInt8) : truthS (flag b :: t, false) = (t, false) := by
  unfold truthS
  rw [show takeS 1 (flag b :: t, false) = (t, false) from takeS_put [flag b] t rfl]
  cases b <;> rfl
theorem spanS_put : ∀ (ss : List SpanD) (t : List UInt8), (∀ s ∈ ss, s.Wf) → (∀ s ∈ ss, rightF s = 0) → spanS ss.length (ss.flatMap putF ++ t, false) = (ss, (t, false))
  | [], t, _, _ => rfl
  | s :: ss, t, hw, hr => by
    have h1 : cutSpanF ((s :: ss).flatMap putF ++ t) = (0, s, ss.flatMap putF ++ t) := by
      rw [List.flatMap_cons, List.append_assoc]
      exact cutSpan_put (hw s List.mem_cons_self) (hr s List.mem_cons_self) _
    have h2 := spanS_put ss t (fun x hx => hw x (List.mem_cons_of_mem _ hx)) (fun x hx => hr x (List.mem_cons_of_mem _ hx))
    rw [List.length_cons, spanS, if_neg (by simp), h1]
    dsimp only
    rw [show decide ((0 : Int) ≠ 0) = false from rfl, h2]
theorem memS_put : ∀ (ms : List MemberD) (t : List UInt8), (∀ s ∈ ms, s.Wf) → (∀ s ∈ ms, 0 ≤ s.state ∧ s.state ≤ 2) → memS ms.length (ms.flatMap memB ++ t, false) = (ms, (t, false))
  | [], t, _, _ => rfl
  | m :: ms, t, hw, hr => by
    have h1 := (memAt_put (hw m List.mem_cons_self) (hr m List.mem_cons_self).1 (hr m List.mem_cons_self).2 (ms.flatMap memB ++ t)).1
    have h2 := memS_put ms t (fun x hx => hw x (List.mem_cons_of_mem _ hx)) (fun x hx => hr x (List.mem_cons_of_mem _ hx))
    rw [List.length_cons, memS, if_neg (by simp), List.flatMap_cons, List.append_assoc, takeS_put _ _ (memB_length m), h1, h2]
theorem idS_put : ∀ (ns : List Nat) (t : List UInt8), (∀ s ∈ ns, s < 18446744073709551616) → idS ns.length (ns.flatMap eight ++ t, false) = (ns, (t, false))
  | [], t, _ => rfl
  | n :: ns, t, hw => by
    have h2 := idS_put ns t (fun x hx => hw x (List.mem_cons_of_mem _ hx))
    rw [List.length_cons, idS, if_neg (by simp), List.flatMap_cons, List.append_assoc, takeS_put _ _ (eight_length n), numB_eight _ (hw n List.mem_cons_self), h2]
theorem stT_put (k n : Nat) (t : List UInt8) : stT k (optB (decide (k ≠ 3)) (eight n) ++ t, false) = (t, false) := by
  unfold stT
  by_cases hk : k = 3
  · subst hk; rfl
  · rw [if_neg hk, decide_eq_true hk]
    exact takeS_put _ _ (eight_length n)
theorem stB_put (h : PartsD) (a b : Nat) (t : List UInt8) : stB h (optB h.ballot (eight a ++ eight b) ++ t, false) = (t, false) := by
  unfold stB
  cases h.ballot
  · rfl
  · exact takeS_put (eight a ++ eight b) _ (by rw [List.length_append, eight_length, eight_length])
theorem stA_put (h : PartsD) (o : Bool) (a b : Nat) (t : List UInt8) : stA h (optB h.answer (flag o :: (eight a ++ eight b)) ++ t, false) = (t, false) := by
  unfold stA
  cases h.answer
  · rfl
  · show takeS 16 (truthS (flag o :: ((eight a ++ eight b) ++ t), false)) = _
    rw [truthS_put]
    exact takeS_put _ _ (by rw [List.length_append, eight_length, eight_length])
theorem stV_put (h : PartsD) (v : Int) (t : List UInt8) : stV h (optB h.verdict [byteI v] ++ t, false) = (t, false) := by
  unfold stV
  cases h.verdict
  · rfl
  · exact takeS_put [byteI v] t rfl
theorem spL_put (h : PartsD) (ss : List SpanD) (t : List UInt8) (h0 : h.spans = false → ss = []) (hl : ss.length ≤ 16) (hw : ∀ s ∈ ss, s.Wf) (hr : ∀ s ∈ ss, rightF s = 0) : spL h (optB h.spans (byteI ((ss.length : Nat) : Int) :: ss.flatMap putF) ++ t, false) = (ss, (t, false)) := by
  unfold spL
  cases e : h.spans
  · rw [h0 e]; rfl
  · show spanS (hd (byteI _ :: (ss.flatMap putF ++ t))) (takeS 1 (byteI _ :: (ss.flatMap putF ++ t), false)) = _
    rw [len_byte hl, show takeS 1 (byteI ((ss.length : Nat) : Int) :: (ss.flatMap putF ++ t), false) = (ss.flatMap putF ++ t, false) from takeS_put [byteI _] _ rfl]
    exact spanS_put ss t hw hr
theorem meL_put (h : PartsD) (ms : List MemberD) (t : List UInt8) (h0 : h.members = false → ms = []) (hl : ms.length ≤ 16) (hw : ∀ s ∈ ms, s.Wf) (hr : ∀ s ∈ ms, 0 ≤ s.state ∧ s.state ≤ 2) : meL h (optB h.members (byteI ((ms.length : Nat) : Int) :: ms.flatMap memB) ++ t, false) = (ms, (t, false)) := by
  unfold meL
  cases e : h.members
  · rw [h0 e]; rfl
  · show memS (hd (byteI _ :: (ms.flatMap memB ++ t))) (takeS 1 (byteI _ :: (ms.flatMap memB ++ t), false)) = _
    rw [len_byte hl, show takeS 1 (byteI ((ms.length : Nat) : Int) :: (ms.flatMap memB ++ t), false) = (ms.flatMap memB ++ t, false) from takeS_put [byteI _] _ rfl]
    exact memS_put ms t hw hr
theorem idL_put (h : PartsD) (ns : List Nat) (t : List UInt8) (h0 : h.ids = false → ns = []) (hl : ns.length ≤ 16) (hw : ∀ s ∈ ns, s < 18446744073709551616) : idL h (optB h.ids (byteI ((ns.length : Nat) : Int) :: ns.flatMap eight) ++ t, false) = (ns, (t, false)) := by
  unfold idL
  cases e : h.ids
  · rw [h0 e]; rfl
  · show idS (hd (byteI _ :: (ns.flatMap eight ++ t))) (takeS 1 (byteI _ :: (ns.flatMap eight ++ t), false)) = _
    rw [len_byte hl, show takeS 1 (byteI ((ns.length : Nat) : Int) :: (ns.flatMap eight ++ t), false) = (ns.flatMap eight ++ t, false) from takeS_put [byteI _] _ rfl]
    exact idS_put ns t hw
theorem fT {k n : Nat} (t : List UInt8) (h0 : decide (k ≠ 3) = false → n = 0) (hn : n < 18446744073709551616) : (if k = 3 then 0 else numB (optB (decide (k ≠ 3)) (eight n) ++ t) 8) = n := by
  by_cases hk : k = 3
  · rw [if_pos hk]; exact (h0 (by simpa using hk)).symm
  · rw [if_neg hk, decide_eq_true hk]; exact numB_eight n hn _
theorem fB1 {b : Bool} {x y : Nat} (t : List UInt8) (h0 : b = false → x = 0) (hn : x < 18446744073709551616) : (if b = true then numB (optB b (eight x ++ eight y) ++ t) 8 else 0) = x := by
  cases b
  · exact (h0 rfl).symm
  · show numB ((eight x ++ eight y) ++ t) 8 = x
    rw [List.append_assoc]; exact numB_eight x hn _
theorem fB2 {b : Bool} {x y : Nat} (t : List UInt8) (h0 : b = false → y = 0) (hn : y < 18446744073709551616) : (if b = true then numB ((optB b (eight x ++ eight y) ++ t).drop 8) 8 else 0) = y := by
  cases b
  · exact (h0 rfl).symm
  · show numB (((eight x ++ eight y) ++ t).drop 8) 8 = y
    rw [List.append_assoc, drop8]; exact numB_eight y hn _
theorem fA1 {b o : Bool} {x y : Nat} (t : List UInt8) (h0 : b = false → x = 0) (hn : x < 18446744073709551616) : (if b = true then numB (truthS (optB b (flag o :: (eight x ++ eight y)) ++ t, false)).1 8 else 0) = x := by
  cases b
  · exact (h0 rfl).symm
  · show numB (truthS (flag o :: ((eight x ++ eight y) ++ t), false)).1 8 = x
    rw [truthS_put, List.append_assoc]; exact numB_eight x hn _
theorem fA2 {b o : Bool} {x y : Nat} (t : List UInt8) (h0 : b = false → y = 0) (hn : y < 18446744073709551616) : (if b = true then numB ((truthS (optB b (flag o :: (eight x ++ eight y)) ++ t, false)).1.drop 8) 8 else 0) = y := by
  cases b
  · exact (h0 rfl).symm
  · show numB ((truthS (flag o :: ((eight x ++ eight y) ++ t), false)).1.drop 8) 8 = y
    rw [truthS_put, List.append_assoc, drop8]; exact numB_eight y hn _
theorem fAo {b o : Bool} {x y : Nat} (t : List UInt8) (h0 : b = false → o = false) : (if b = true then decide (hd (optB b (flag o :: (eight x ++ eight y)) ++ t) = 1) else false) = o := by
  cases b
  · exact (h0 rfl).symm
  · exact hd_flag o _
theorem fV {b : Bool} {v : Int} (t : List UInt8) (h0 : b = false → v = 0) (hv : 0 ≤ v ∧ v ≤ 3) : (if b = true then ((hd (optB b [byteI v] ++ t) : Nat) : Int) else 0) = v := by
  cases b
  · exact (h0 rfl).symm
  · exact v_byte hv _
/-- What was written is read by the reference to the end, as it was. -/
theorem strict_written {p : PackD} (hw : p.Wf) (h : RightD p) : sreadF (writtenF p) = (p, ([], false)) := by
  have hk := h.kind
  have e0 : ((hd (writtenF p) : Nat) : Int) = p.kind := kind_byte hk _
  have hk2 : 1 ≤ hd (writtenF p) ∧ hd (writtenF p) ≤ 10 := by omega
  have hpt := parts_trace hk2
  have g1 := h.trace
  unfold sreadF
  dsimp only
  rw [e0] at hpt ⊢
  have f1 : takeS 1 (writtenF p, false) = ((writtenF p).drop 1, false) := takeS_put [byteI p.kind] _ rfl
  generalize hd (writtenF p) = k at *
  rw [f1]
  unfold writtenF
  rw [hpt] at g1
  rw [hpt, drop1, ← List.append_nil (optB (partsF p.kind).ids (byteI p.ids.length :: p.ids.flatMap eight))]
  rw [stT_put, stB_put, stA_put, stV_put, spL_put _ _ _ h.spans h.spans1 hw.spans h.spans2, meL_put _ _ _ h.members h.members1 hw.members h.members2, idL_put _ _ _ h.ids h.ids1 hw.ids]
  dsimp only
  rw [fT _ g1 hw.trace, fB1 _ (fun e => (h.ballot e).1) hw.bn, fB2 _ (fun e => (h.ballot e).2) hw.bnode, fA1 _ (fun e => (h.answer e).2.1) hw.sn, fA2 _ (fun e => (h.answer e).2.2) hw.snode, fAo _ (fun e => (h.answer e).1), fV _ h.verdict h.v]
theorem memAt_wf (l : List UInt8) : (memAt l).Wf := by
  have := hd_lt (l.drop 16)
  exact ⟨numB_lt _ 8, numB_lt _ 8, by show -9223372036854775808 ≤ ((hd (l.drop 16) : Nat) : Int); omega, by show ((hd (l.drop 16) : Nat) : Int) ≤ _; omega⟩
theorem spanK_wf (l : List UInt8) : ∀ k, ∀ s ∈ (spanK l k).1, s.Wf
  | 0, s, h => by cases h
  | k + 1, s, h => by
    rw [spanK] at h
    rcases List.mem_append.1 h with h | h
    · exact spanK_wf l k s h
    · obtain rfl := List.mem_singleton.1 h
      exact cutSpan_wf _
theorem memK_wf (l : List UInt8) : ∀ k, ∀ s ∈ (memK l k).1, s.Wf
  | 0, s, h => by cases h
  | k + 1, s, h => by
    rw [memK] at h
    rcases List.mem_append.1 h with h | h
    · exact memK_wf l k s h
    · obtain rfl := List.mem_singleton.1 h
      exact memAt_wf _
theorem idK_wf (l : List UInt8) : ∀ k, ∀ s ∈ (idK l k).1, s < 18446744073709551616
  | 0, s, h => by cases h
  | k + 1, s, h => by
    rw [idK] at h
    rcases List.mem_append.1 h with h | h
    · exact idK_wf l k s h
    · obtain rfl := List.mem_singleton.1 h
      exact numB_lt _ 8
theorem spanK_length (l : List UInt8) : ∀ k, (spanK l k).1.length = k
  | 0 => rfl
  | k + 1 => by rw [spanK, List.length_append, spanK_length l k]; rfl
/-- Whatever is read is a packet of numbers that fit. -/
theorem readF_wf (d : List UInt8) : (readF d).Wf := by
  unfold readF
  dsimp only
  refine ⟨numB_if _ _, numB_if _ _, numB_if _ _, numB_if _ _, numB_if _ _, ?_, ?_, ?_⟩
  · dsimp only; split
    · exact spanK_wf _ _
    · intro s h; cases h
  · dsimp only; split
    · exact memK_wf _ _
    · intro s h; cases h
  · dsimp only; split
    · exact idK_wf _ _
    · intro s h; cases h
theorem readF_few (d : List UInt8) : (readF d).spans.length ≤ 1000000 := by
  unfold readF
  dsimp only
  split
  · rw [spanK_length]
    exact Nat.le_trans (Nat.le_of_lt (hd_lt _)) (by omega)
  · simp
/-- What the reference's Decode answers. -/
def refDecF (b : List UInt8) : Int × PackD :=
  if (cutF b).1 = 0 then (if (sreadF (cutF b).2.1).2 = ([], false) ∧ (cutF b).2.2 = [] ∧ rightP (sreadF (cutF b).2.1).1 = true then (0, (sreadF (cutF b).2.1).1) else (6, zeroP)) else ((cutF b).1, zeroP)
theorem refDec_eq (b : List UInt8) : refDecF b = decF b := by
  unfold refDecF decF
  by_cases h0 : (cutF b).1 = 0
  rotate_left
  · rw [if_neg h0, if_neg h0]
  rw [if_pos h0, if_pos h0]
  have hc : cutF b = (0, (cutF b).2.1, (cutF b).2.2) := by rw [← h0]
  have hback := cut_back hc
  generalize (cutF b).2.1 = d at *
  generalize (cutF b).2.2 = r at *
  by_cases h : (sreadF d).2 = ([], false) ∧ r = [] ∧ rightP (sreadF d).1 = true
  · rw [if_pos h]
    obtain ⟨h1, h2, h3⟩ := h
    have hr := right_facts h3
    have hk : 1 ≤ hd d ∧ hd d ≤ 10 := by
      have := hr.kind
      rw [show (sreadF d).1.kind = ((hd d : Nat) : Int) from rfl] at this
      omega
    obtain ⟨e1, hw⟩ := strict_inv hk h1
    have e2 : readF d = (sreadF d).1 := by
      have := read_written hw hr
      rwa [e1] at this
    have e3 : encF (sreadF d).1 = b := by
      unfold encF
      rw [e1, ← hback, h2, List.append_nil]
    rw [e2, if_pos ⟨h3, e3⟩]
  · rw [if_neg h, if_neg]
    rintro ⟨h3, he⟩
    have hr := right_facts h3
    have e1 := cut_enc0 hr
    rw [he, hc] at e1
    injection e1 with _ e1
    injection e1 with e1 e2
    have e3 := strict_written (readF_wf d) hr
    rw [← e1] at e3
    exact h ⟨by rw [e3], e2, by rw [e3]; exact h3⟩
end Go.Proofs.YtnpbokbfkdncmaaGreat
