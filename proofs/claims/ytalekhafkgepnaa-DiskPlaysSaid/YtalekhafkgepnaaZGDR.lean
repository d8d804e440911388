/-
  The reference's disk as it lies in memory: its own block, a block of 64 files, the files' bytes.
-/
import Derived.Test.YtalekhafkgepnaaZTwoDisks
namespace Go.Proofs.Ytalekhafkgepnaa
set_option linter.unusedSimpArgs false
set_option linter.unusedVariables false
open Go.RowKit
namespace Dsk
set_option linter.unusedSimpArgs false
set_option linter.unusedVariables false
def armedR (d : DiskD) : Int := if d.armed then (d.left : Int) else -1
def rcells (fb : Nat) (d : DiskD) : Array Value := #[.int .i64 (d.room : Nat), .slice (some ⟨fb, 0, none⟩) 64 64, .int .i64 (armedR d), .bool d.down]
structure RFiles (w : World) (g fb : Nat) (Q : Nat → Prop) (F : Files) (cs : Array Value) (V : Nat → Option Addr × Nat) : Prop where
  qf : Q fb
  fg : fb ≠ g
  mem : Whole w fb 160 cs
  is_ : ∀ j, j < 64 → cs[j * 3]? = some (.bool (F j).isSome)
  sl_ : ∀ j, j < 64 → cs[j * 3 + 1]? = some (.slice (V j).1 (fileAt F j).all.length (V j).2)
  fa_ : ∀ j, j < 64 → cs[j * 3 + 2]? = some (.int .i64 ((fileAt F j).fast : Nat))
  rd : ∀ j, j < 64 → Sl w (V j).1 (fileAt F j).all.length (V j).2 (fileAt F j).all
  blk : ∀ j, j < 64 → ∀ a, (V j).1 = some a → (fileAt F j).all ≠ [] → Q a.block ∧ a.block ≠ g ∧ a.block ≠ fb
structure Rk (w : World) (g : Nat) (Q : Nat → Prop) (d : DiskD) : Prop where
  ok : DOk d
  qg : Q g
  qlt : ∀ q, Q q → q < w.heap.size
  mem : ∃ fb cs V, Whole w g 127 (rcells fb d) ∧ RFiles w g fb Q d.F cs V
theorem Sl.stands_at {w w' : World} {A : Option Addr} {n c : Nat} {l : List UInt8} (h : Sl w A n c l) (hk : ∀ a, A = some a → l ≠ [] → w'.heap[a.block]? = w.heap[a.block]?) : Sl w' A n c l := by
  refine ⟨?_, h.len, h.cap, h.max, h.nil⟩
  intro hne
  obtain ⟨b, off, e, hc⟩ := h.holds hne
  refine ⟨b, off, e, fun i u hu => ?_⟩
  rw [← hc i u hu]
  exact World.cell?_of_block (a := ⟨b, off + i, none⟩) (hk ⟨b, off, none⟩ e (by rintro rfl; exact hne rfl))
theorem Rk.stands {w w' : World} {g : Nat} {Q : Nat → Prop} {d : DiskD} (h : Rk w g Q d) (hs : w.heap.size ≤ w'.heap.size) (hk : ∀ q, Q q → w'.heap[q]? = w.heap[q]?) : Rk w' g Q d := by
  obtain ⟨fb, cs, V, m1, m2⟩ := h.mem
  exact ⟨h.ok, h.qg, fun q hq => Nat.lt_of_lt_of_le (h.qlt q hq) hs, fb, cs, V, (hk g h.qg).trans m1, m2.qf, m2.fg, (hk fb m2.qf).trans m2.mem, m2.is_, m2.sl_, m2.fa_, fun j hj => Sl.stands_at (m2.rd j hj) (fun a e hne => hk _ (m2.blk j hj a e hne).1), m2.blk⟩
theorem Rk.below {w w' : World} {g : Nat} {Q : Nat → Prop} {d : DiskD} (h : Rk w g Q d) (k : Below w.heap.size w w') : Rk w' g Q d := h.stands k.size (fun q hq => k.block q (h.qlt q hq))
theorem Rk.tn {w w' : World} {g : Nat} {Q Q' : Nat → Prop} {d : DiskD} (h : Rk w g Q d) (k : Tn Q' w w') (hq : ∀ q, Q q → ¬ Q' q) : Rk w' g Q d := h.stands k.size (fun q hq2 => k.block q (h.qlt q hq2) (hq q hq2))
theorem rk_facts {w : World} {g fb : Nat} {d : DiskD} (h : Whole w g 127 (rcells fb d)) :
    w.cell? ⟨g, 0, none⟩ = some (.int .i64 (d.room : Nat)) ∧ w.cell? ⟨g, 1, none⟩ = some (.slice (some ⟨fb, 0, none⟩) 64 64) ∧ w.cell? ⟨g, 2, none⟩ = some (.int .i64 (armedR d)) ∧ w.cell? ⟨g, 3, none⟩ = some (.bool d.down) ∧ ∀ i, w.frozen? ⟨g, i, none⟩ = false :=
  ⟨h.cell 0 _ rfl, h.cell 1 _ rfl, h.cell 2 _ rfl, h.cell 3 _ rfl, fun i => h.free i⟩
/-- The cells of one file. -/
theorem RFiles.at_ {w : World} {g fb : Nat} {Q : Nat → Prop} {F : Files} {cs : Array Value} {V : Nat → Option Addr × Nat} (h : RFiles w g fb Q F cs V) (j : Nat) (hj : j < 64) :
    w.cell? ⟨fb, j * 3, none⟩ = some (.bool (F j).isSome) ∧ w.cell? ⟨fb, j * 3 + 1, none⟩ = some (.slice (V j).1 (fileAt F j).all.length (V j).2) ∧ w.cell? ⟨fb, j * 3 + 2, none⟩ = some (.int .i64 ((fileAt F j).fast : Nat)) ∧ ∀ i, w.frozen? ⟨fb, i, none⟩ = false :=
  ⟨h.mem.cell _ _ (h.is_ j hj), h.mem.cell _ _ (h.sl_ j hj), h.mem.cell _ _ (h.fa_ j hj), fun i => h.mem.free i⟩
theorem set_hit {cs : Array Value} {i : Nat} {u v : Value} (h : cs[i]? = some u) : (cs.setIfInBounds i v)[i]? = some v := by
  have := (Array.getElem?_eq_some_iff.1 h).1
  simp [this]
theorem set_miss {cs : Array Value} {i k : Nat} {v : Value} (h : k ≠ i) : (cs.setIfInBounds i v)[k]? = cs[k]? := by
  rw [Array.getElem?_setIfInBounds]
  rw [if_neg (fun e => h e.symm)]
/-- What a call on the reference's disk leaves. -/
def RkPost (w : World) (g : Nat) (Q : Nat → Prop) (v : Value) (d : DiskD) (e : Ending) (w' : World) : Prop :=
  e = .returned v ∧ ∃ Q', Rk w' g Q' d ∧ Tn Q w w' ∧ ∀ q, Q' q → Q q ∨ w.heap.size ≤ q
theorem rkPost_mk {w w' : World} {g : Nat} {Q Q' : Nat → Prop} {v v' : Value} {d d' : DiskD} (e : v' = v) (h : Rk w' g Q' d') (ed : d' = d) (ht : Tn Q w w') (hq : ∀ q, Q' q → Q q ∨ w.heap.size ≤ q) : RkPost w g Q v d (.returned v') w' :=
  ⟨by rw [e], Q', ed ▸ h, ht, hq⟩
theorem rkPost_same {w w' : World} {g : Nat} {Q : Nat → Prop} {k k' : Int} {d d' : DiskD} (e : k = k') (h : Rk w g Q d) (ed : d' = d) (hb : Below w.heap.size w w') : RkPost w g Q (.int .i64 k') d' (.returned (.int .i64 k)) w' :=
  rkPost_mk (by rw [e]) (h.below hb) ed.symm (Tn.of_below hb) (fun _ hq => .inl hq)
/-- One file's three cells are laid anew: its bytes lie in blocks of Q', or nowhere. -/
theorem RFiles.put {w w' : World} {g fb : Nat} {Q : Nat → Prop} {F : Files} {cs : Array Value} {V : Nat → Option Addr × Nat} (h : RFiles w g fb Q F cs V) (j : Nat) (hj : j < 64) (f : Option FileD) (A : Option Addr) (c : Nat) (fi : FileD) (hfi : fi = (match f with | some x => x | none => ⟨[], 0⟩)) (Q' : Nat → Prop) (hQ : ∀ q, Q q → Q' q)
    (hm : Whole w' fb 160 (((cs.setIfInBounds (j * 3) (.bool f.isSome)).setIfInBounds (j * 3 + 1) (.slice A fi.all.length c)).setIfInBounds (j * 3 + 2) (.int .i64 (fi.fast : Nat))))
    (hk : ∀ q, Q q → q ≠ g → q ≠ fb → w'.heap[q]? = w.heap[q]?) (hs : Sl w' A fi.all.length c fi.all) (hb : ∀ a, A = some a → fi.all ≠ [] → Q' a.block ∧ a.block ≠ g ∧ a.block ≠ fb) :
    RFiles w' g fb Q' (setF F j f) (((cs.setIfInBounds (j * 3) (.bool f.isSome)).setIfInBounds (j * 3 + 1) (.slice A fi.all.length c)).setIfInBounds (j * 3 + 2) (.int .i64 (fi.fast : Nat))) (fun i => if i = j then (A, c) else V i) := by
  have hat : ∀ i, fileAt (setF F j f) i = if i = j then fi else fileAt F i := by
    intro i
    by_cases e : i = j
    · subst e
      rw [if_pos rfl, hfi]
      unfold fileAt
      rw [setF_same]
      cases f <;> rfl
    · rw [if_neg e]
      unfold fileAt
      rw [setF_other F _ e]
  refine ⟨hQ _ h.qf, h.fg, hm, fun i hi => ?_, fun i hi => ?_, fun i hi => ?_, fun i hi => ?_, fun i hi a ea hne => ?_⟩
  · by_cases e : i = j
    · subst e
      rw [set_miss (by omega), set_miss (by omega), set_hit (h.is_ i hi), setF_same]
    · rw [set_miss (by omega), set_miss (by omega), set_miss (by omega), h.is_ i hi, setF_other F _ e]
  · rw [hat]
    by_cases e : i = j
    · subst e
      rw [set_miss (by omega), set_hit (u := .slice (V i).1 (fileAt F i).all.length (V i).2) (by rw [set_miss (by omega)]; exact h.sl_ i hi)]
      simp
    · rw [set_miss (by omega), set_miss (by omega), set_miss (by omega), h.sl_ i hi]
      simp [e]
  · rw [hat]
    by_cases e : i = j
    · subst e
      rw [set_hit (u := .int .i64 ((fileAt F i).fast : Nat)) (by rw [set_miss (by omega), set_miss (by omega)]; exact h.fa_ i hi)]
      simp
    · rw [set_miss (by omega), set_miss (by omega), set_miss (by omega), h.fa_ i hi]
      simp [e]
  · rw [hat]
    by_cases e : i = j
    · subst e; simpa using hs
    · simp only [e, if_false]
      exact Sl.stands_at (h.rd i hi) (fun a ea hne => by have h9 := h.blk i hi a ea hne; exact hk _ h9.1 h9.2.1 h9.2.2)
  · rw [hat] at hne
    by_cases e : i = j
    · subst e
      simp only [if_true] at ea hne
      exact hb a ea hne
    · simp only [e, if_false] at ea hne
      have h9 := h.blk i hi a ea hne
      exact ⟨hQ _ h9.1, h9.2⟩
end Dsk
end Go.Proofs.Ytalekhafkgepnaa

/-
  The reference's New, Used, asked of a disk.
-/
namespace Go.Proofs.Ytalekhafkgepnaa
set_option linter.unusedSimpArgs false
set_option linter.unusedVariables false
open Go.RowKit
namespace Dsk
set_option linter.unusedSimpArgs false
set_option linter.unusedVariables false
theorem sum_up (p : Nat → Bool) (F : Files) {k n : Nat} (h : k ≤ n) : sumBy p F k ≤ sumBy p F n := by
  induction n with
  | zero => obtain rfl : k = 0 := by omega
            exact Nat.le_refl _
  | succ n ih =>
    by_cases e : k = n + 1
    · subst e; exact Nat.le_refl _
    · have := ih (by omega)
      rw [sumBy]
      omega
theorem rnew_none (room : Int) (h : room < 1 ∨ 1048576 < room) (w : World) : Calls Try.prog 22 #[.int .i64 room] w (fun e w' => e = .returned (.pointer none) ∧ w = w') := by
  rcases h with h | h
  · go_enter Try.func22, Try.ntmps22
    go_wp2
    go_ret
    exact ⟨rfl, rfl⟩
  · have h' : ¬ room < 1 := by omega
    go_enter Try.func22, Try.ntmps22
    go_wp2
    go_ret
    exact ⟨rfl, rfl⟩
theorem info_file : (Try.prog.info? 160).map (fun i => (i.zero, i.size, i.bytes)) = some (some (.agg #[.bool false, .slice none 0 0, .int .i64 0]), 3, 40) := by kernel_rfl
def rmade : Array Value := madeCells #[.bool false, .slice none 0 0, .int .i64 0] 192
theorem rmade_run (W : World) : (Instr.makeSlice 125 (.int .i64 64) (.int .i64 64)).run Try.prog W = .ok (.slice (some ⟨W.heap.size, 0, none⟩) 64 64) (W.alloc (.cells rmade 160)) := by
  obtain ⟨i0, hi0, hz0, hz1, hz2⟩ := info_parts info_file
  have hr := run_make (P := Try.prog) W 125 160 i0 _ Try.underlying125 hi0 hz0 .i64 .i64 64 64 (by omega) (by omega) (by rw [hz2]; omega) (by omega)
  rw [hz1] at hr
  exact hr
theorem rmade_at (i : Nat) (hi : i < 192) : rmade[i]? = some ((#[.bool false, .slice none 0 0, .int .i64 0] : Array Value).getD (i % 3) undef) := by
  unfold rmade madeCells
  have h3 : i % 3 < 3 := Nat.mod_lt _ (by omega)
  rcases (show i % 3 = 0 ∨ i % 3 = 1 ∨ i % 3 = 2 by omega) with e | e | e
  all_goals simp [hi, e]
theorem rfiles_new (w : World) (g : Nat) (hg : w.heap.size ≠ g) (Q : Nat → Prop) (hq : Q w.heap.size) : RFiles (w.alloc (.cells rmade 160)) g w.heap.size Q noF rmade (fun _ => (none, 0)) := by
  refine ⟨hq, hg, whole_new w _ _, fun j hj => ?_, fun j hj => ?_, fun j hj => ?_, fun j hj => Sl.none _, fun j hj a e => by cases e⟩
  · rw [rmade_at _ (by omega), show j * 3 % 3 = 0 by omega]; rfl
  · rw [rmade_at _ (by omega), show (j * 3 + 1) % 3 = 1 by omega]; rfl
  · rw [rmade_at _ (by omega), show (j * 3 + 2) % 3 = 2 by omega]; rfl
def NewPost (w : World) (room : Nat) (e : Ending) (w' : World) : Prop := ∃ Q, e = .returned (.pointer (some ⟨w.heap.size + 1, 0, none⟩)) ∧ Rk w' (w.heap.size + 1) Q (newD room) ∧ (∀ q, Q q → w.heap.size ≤ q) ∧ Below w.heap.size w w'
theorem newPost_mk {w w' : World} {room : Nat} {Q : Nat → Prop} (h : Rk w' (w.heap.size + 1) Q (newD room)) (hq : ∀ q, Q q → w.heap.size ≤ q) (hb : Below w.heap.size w w') : NewPost w room (.returned (.pointer (some ⟨w.heap.size + 1, 0, none⟩))) w' := ⟨Q, rfl, h, hq, hb⟩
set_option maxRecDepth 100000 in
theorem rnew_any (room : Nat) (h1 : 1 ≤ room) (h2 : room ≤ 1048576) (w : World) : Calls Try.prog 22 #[.int .i64 (room : Nat)] w (NewPost w room) := by
  have g1 : ¬ (room : Int) < 1 := by omega
  have g2 : ¬ (room : Int) > 1048576 := by omega
  have hmk := rmade_run
  have HR := hid_ (show Rk ((w.alloc (.cells rmade 160)).alloc (.cells (rcells w.heap.size (newD room)) 127)) (w.heap.size + 1) (fun q => q = w.heap.size ∨ q = w.heap.size + 1) (newD room) from by
    have e := rfiles_new w (w.heap.size + 1) (by omega) (fun q => q = w.heap.size ∨ q = w.heap.size + 1) (.inl rfl)
    refine ⟨newD_ok h1 h2, .inr rfl, fun q hq => by simp; omega, w.heap.size, rmade, fun _ => (none, 0), whole_at _ _ _ _ (by simp), ?_⟩
    exact ⟨e.qf, e.fg, e.mem.alloc _, e.is_, e.sl_, e.fa_, fun j hj => Sl.none _, e.blk⟩)
  go_enter Try.func22, Try.ntmps22
  go_wp2
  go_ret
  exact newPost_mk HR.out (fun q hq => by omega) (((Below.refl _ _).alloc (Nat.le_refl _) _).alloc (by simp) _)
set_option maxRecDepth 100000 in
set_option maxHeartbeats 1000000 in
theorem rused_any (g : Nat) (Q : Nat → Prop) (d : DiskD) (w : World) (h : Rk w g Q d) : Calls Try.prog 68 #[.pointer (some ⟨g, 0, none⟩)] w (fun e w' => e = .returned (.int .i64 (usedF d.F : Nat)) ∧ w = w') := by
  obtain ⟨fb, cs, V, m1, m2⟩ := h.mem
  obtain ⟨c0, c1, c2, c3, -⟩ := rk_facts m1
  have M := hid_ m2
  have hu := h.ok.used
  have hr2 := h.ok.room2
  have hsum : ∀ k, k ≤ 64 → sumBy (fun _ => true) d.F k ≤ 1048576 := fun k hk => Nat.le_trans (sum_up (fun _ => true) d.F hk) (Nat.le_trans hu hr2)
  have Hsum := hid_ hsum
  clear h m1 m2 hsum
  go_enter Try.func68, Try.ntmps68
  go_wp2
  go_loop [3, 4] (fun s i => ∃ (k z : Nat), k ≤ 64 ∧ i = .int .i64 (k : Nat) ∧ s = .int .i64 (z : Nat) ∧ Hid (z = sumBy (fun _ => true) d.F k)) (fun _ i => 64 - (intOf i).toNat)
  case atStart => exact ⟨0, 0, Nat.zero_le _, rfl, rfl, hid_ rfl⟩
  case round =>
    obtain ⟨k, z, hk, rfl, rfl, HZ⟩ := hrel
    have hz : z ≤ 1048576 := by rw [HZ.out]; exact Hsum.out k hk
    by_cases hlt : k < 64
    · obtain ⟨-, s1, -, -⟩ := M.out.at_ k hlt
      have hz2 := Hsum.out (k + 1) (by omega)
      have e1 : sumBy (fun _ => true) d.F (k + 1) = z + (fileAt d.F k).all.length := by rw [HZ.out, sumBy, ← size_fileAt]; simp
      rw [e1] at hz2
      have E1 := hid_ e1
      clear e1
      generalize (fileAt d.F k).all.length = m at *
      go_wp2
      go_round
      case rel => exact ⟨k + 1, z + m, by omega, by go_num, by go_num, hid_ E1.out.symm⟩
      case measure => simp [intOf]; omega
    · obtain rfl : k = 64 := by omega
      go_wp2
      go_ret
      have e := HZ.out
      exact ⟨by rw [e]; rfl, rfl⟩
theorem rasked_any (x : Int) (g : Nat) (Q : Nat → Prop) (d : DiskD) (w : World) (h : Rk w g Q d) : Calls Try.prog 99 #[.pointer (some ⟨g, 0, none⟩), .int .i64 x] w (fun e w' => e = .returned (.int .i64 (askK d x)) ∧ w = w') := by
  obtain ⟨fb, cs, V, m1, m2⟩ := h.mem
  obtain ⟨c0, c1, c2, c3, -⟩ := rk_facts m1
  have M := hid_ m2
  cases hd : d.down
  · rw [hd] at c3
    by_cases hx : x < 0
    · have HK := hid_ (show askK d x = 11 by unfold askK; rw [hd]; simp only [Bool.false_eq_true, if_false]; rw [if_neg (by omega)])
      have e1 : decide (x < 0) = true := decide_eq_true hx
      clear h m1 m2 hd
      generalize askK d x = k' at *
      go_enter Try.func99, Try.ntmps99
      go_wp2
      go_ret
      exact ⟨by rw [HK.out]; rfl, rfl⟩
    · obtain ⟨j, rfl⟩ := Int.eq_ofNat_of_zero_le (show 0 ≤ x by omega)
      have e1 : decide ((j : Int) < 0) = false := decide_eq_false hx
      by_cases hj : j < 64
      · obtain ⟨s0, -, -, -⟩ := m2.at_ j hj
        have e2 : decide (64 ≤ j) = false := decide_eq_false (by omega)
        have e3 : decide ((64 : Int) ≤ (j : Int)) = false := decide_eq_false (by omega)
        have e4 : decide ((j : Int) ≥ 64) = false := decide_eq_false (by omega)
        cases hs : (d.F j).isSome
        · have HK := hid_ (show askK d (j : Nat) = 11 by unfold askK; rw [hd, Int.toNat_natCast, hs]; simp)
          rw [hs] at s0
          clear h m1 m2 hd hs
          generalize askK d (j : Nat) = k' at *
          go_enter Try.func99, Try.ntmps99
          go_wp2
          go_ret
          exact ⟨by rw [HK.out]; rfl, rfl⟩
        · have HK := hid_ (show askK d (j : Nat) = 0 by unfold askK; rw [hd, Int.toNat_natCast, hs]; simp)
          rw [hs] at s0
          clear h m1 m2 hd hs
          generalize askK d (j : Nat) = k' at *
          go_enter Try.func99, Try.ntmps99
          go_wp2
          go_ret
          exact ⟨by rw [HK.out]; rfl, rfl⟩
      · have e2 : decide (64 ≤ j) = true := decide_eq_true (by omega)
        have e3 : decide ((64 : Int) ≤ (j : Int)) = true := decide_eq_true (by omega)
        have e4 : decide ((j : Int) ≥ 64) = true := decide_eq_true (by omega)
        have HK := hid_ (show askK d (j : Nat) = 11 by unfold askK; rw [hd, Int.toNat_natCast, h.ok.high j (by omega)]; simp)
        clear h m1 m2 hd
        generalize askK d (j : Nat) = k' at *
        go_enter Try.func99, Try.ntmps99
        go_wp2
        go_ret
        exact ⟨by rw [HK.out]; rfl, rfl⟩
  · have HK := hid_ (show askK d x = 10 by unfold askK; rw [hd]; rfl)
    rw [hd] at c3
    clear h m1 m2 hd
    generalize askK d x = k' at *
    go_enter Try.func99, Try.ntmps99
    go_wp2
    go_ret
    exact ⟨by rw [HK.out]; rfl, rfl⟩
end Dsk
end Go.Proofs.Ytalekhafkgepnaa

/-
  The reference's Read, Arm, Sync, Remove of a disk.
-/
namespace Go.Proofs.Ytalekhafkgepnaa
set_option linter.unusedSimpArgs false
set_option linter.unusedVariables false
open Go.RowKit
namespace Dsk
set_option linter.unusedSimpArgs false
set_option linter.unusedVariables false
/-- What the reference's Read answers: bytes that are the disk's own. -/
def RRdPost (w : World) (Q : Nat → Prop) (l : List UInt8) (k : Int) (e : Ending) (w' : World) : Prop := ∃ A c, e = .returned (.tuple #[.slice A l.length c, .int .i64 k]) ∧ Sl w A l.length c l ∧ w = w'
theorem rread_any (x : Int) (g : Nat) (Q : Nat → Prop) (d : DiskD) (w : World) (h : Rk w g Q d) : Calls Try.prog 69 #[.pointer (some ⟨g, 0, none⟩), .int .i64 x] w (RRdPost w Q (readB d x) (askK d x)) := by
  have Hk := hid_ (rasked_any x g Q d w h)
  rcases ask_cases d x h.ok with ⟨hk, hd, j, f, rfl, hj, hf⟩ | hk
  · have HR := hid_ (show readB d (j : Nat) = f.all by unfold readB; rw [if_pos hk, Int.toNat_natCast, fileAt_some hf])
    obtain ⟨fb, cs, V, m1, m2⟩ := h.mem
    obtain ⟨c0, c1, c2, c3, -⟩ := rk_facts m1
    obtain ⟨s0, s1, s2, -⟩ := m2.at_ j hj
    have Hs := hid_ (m2.rd j hj)
    rw [fileAt_some hf] at s1 Hs
    rw [hk] at Hk ⊢
    clear h hk hd hf m1 m2
    have e2 : (0 : Int) ≤ (j : Int) := by omega
    have e3 : (j : Int) < 64 := by omega
    go_enter Try.func69, Try.ntmps69
    go_wp2_with fail
    refine Calls.mono Hk.out ?_
    rintro e w1 ⟨rfl, rfl⟩
    go_wp2_with fail
    go_ret2
    rw [HR.out]
    exact ⟨(V j).1, (V j).2, rfl, Hs.out, rfl⟩
  · have HR := hid_ (show readB d x = [] by unfold readB; rw [if_neg hk])
    have hk' : (askK d x == 0) = false := beq_eq_false_iff_ne.2 hk
    have hk2 : (askK d x != 0) = true := by simp [bne, hk']
    clear h hk
    generalize askK d x = k at *
    go_enter Try.func69, Try.ntmps69
    go_wp2_with fail
    refine Calls.mono Hk.out ?_
    rintro e w1 ⟨rfl, rfl⟩
    go_wp2_with fail
    go_ret2
    rw [HR.out]
    exact ⟨none, 0, rfl, Sl.none _, rfl⟩
/-- A cell of the disk's own is written. -/
theorem Rk.cell {w : World} {g : Nat} {Q : Nat → Prop} {d d' : DiskD} (h : Rk w g Q d) (hd : DOk d') (hF : d'.F = d.F) (i : Nat) (v : Value) (hc : ∀ fb, (rcells fb d).setIfInBounds i v = rcells fb d') : Rk (w.setCell ⟨g, i, none⟩ v) g Q d' := by
  obtain ⟨fb, cs, V, m1, m2⟩ := h.mem
  refine ⟨hd, h.qg, fun q hq => by simpa using h.qlt q hq, fb, cs, V, hc fb ▸ m1.store i v, ?_⟩
  rw [hF]
  exact ⟨m2.qf, m2.fg, m2.mem.far (p := ⟨g, i, none⟩) m2.fg v, m2.is_, m2.sl_, m2.fa_, fun j hj => Sl.stands_at (m2.rd j hj) (fun a e hne => Below.heap_setCell w ⟨g, i, none⟩ v _ (m2.blk j hj a e hne).2.1), m2.blk⟩
theorem rarm_any (n : Int) (hn : n ≤ 9223372036854775807) (g : Nat) (Q : Nat → Prop) (d : DiskD) (w : World) (h : Rk w g Q d) : Calls Try.prog 62 #[.pointer (some ⟨g, 0, none⟩), .int .i64 n] w (RkPost w g Q (.tuple #[]) (armD d n)) := by
  obtain ⟨fb, cs, V, m1, m2⟩ := h.mem
  obtain ⟨c0, c1, c2, c3, cf⟩ := rk_facts m1
  have HP := hid_ (fun (z : Int) (hz : z = max n (-1)) => show RkPost w g Q (.tuple #[]) (armD d n) (.returned (.tuple #[])) (w.setCell ⟨g, 2, none⟩ (.int .i64 z)) from
    rkPost_mk rfl (h.cell (d' := armD d n) (armD_ok h.ok hn) rfl 2 _ (fun fb => by
      subst hz
      have e : armedR (armD d n) = max n (-1) := by
        unfold armedR armD
        by_cases h0 : 0 ≤ n
        · simp only [decide_eq_true h0, if_true]; omega
        · simp only [decide_eq_false h0, Bool.false_eq_true, if_false]; omega
      show (#[_, _, _, _] : Array Value) = _
      unfold rcells
      rw [e]
      rfl)) rfl ((Tn.refl _ _).set (.inl h.qg) 2 _) (fun q hq => .inl hq))
  clear h m1 m2 hn
  by_cases h0 : n < -1
  · have e1 : max n (-1) = -1 := by omega
    have HP1 := hid_ (HP.out (-1) e1.symm)
    clear HP
    go_enter Try.func62, Try.ntmps62
    go_wp2
    go_end0
    exact HP1.out
  · have e1 : max n (-1) = n := by omega
    have HP1 := hid_ (HP.out n e1.symm)
    clear HP
    go_enter Try.func62, Try.ntmps62
    go_wp2
    go_end0
    exact HP1.out
end Dsk
end Go.Proofs.Ytalekhafkgepnaa

/-
  The reference's Sync, Remove, Cut of a disk.
-/
namespace Go.Proofs.Ytalekhafkgepnaa
set_option linter.unusedSimpArgs false
set_option linter.unusedVariables false
open Go.RowKit
namespace Dsk
set_option linter.unusedSimpArgs false
set_option linter.unusedVariables false
theorem set_id {cs : Array Value} {i : Nat} {v : Value} (h : cs[i]? = some v) : cs.setIfInBounds i v = cs := by
  apply Array.ext_getElem?
  intro k
  by_cases e : k = i
  · subst e; rw [set_hit h, h]
  · rw [set_miss e]
/-- The disk behind a file whose cells were laid anew, its bytes where they were. -/
theorem Rk.put {w w' : World} {g fb : Nat} {Q : Nat → Prop} {d : DiskD} {cs : Array Value} {V : Nat → Option Addr × Nat} (h : Rk w g Q d) (m1 : Whole w g 127 (rcells fb d)) (m2 : RFiles w g fb Q d.F cs V) (j : Nat) (hj : j < 64) (f : Option FileD) (A : Option Addr) (c : Nat) (fi : FileD) (hfi : fi = (match f with | some x => x | none => ⟨[], 0⟩))
    (hs : w.heap.size ≤ w'.heap.size) (hm : Whole w' fb 160 (((cs.setIfInBounds (j * 3) (.bool f.isSome)).setIfInBounds (j * 3 + 1) (.slice A fi.all.length c)).setIfInBounds (j * 3 + 2) (.int .i64 (fi.fast : Nat))))
    (hk : ∀ q, Q q → q ≠ fb → w'.heap[q]? = w.heap[q]?) (hsl : Sl w' A fi.all.length c fi.all) (hA : ∀ a, A = some a → fi.all ≠ [] → (Q a.block ∧ a.block ≠ g ∧ a.block ≠ fb) ∨ (w.heap.size ≤ a.block ∧ a.block < w'.heap.size))
    (hd : DOk (withF d (setF d.F j f))) : ∃ Q', Rk w' g Q' (withF d (setF d.F j f)) ∧ ∀ q, Q' q → Q q ∨ w.heap.size ≤ q := by
  have hfb := h.qlt fb m2.qf
  have hg := h.qlt g h.qg
  have hfil := m2.put (w' := w') j hj f A c fi hfi (fun q => Q q ∨ (w.heap.size ≤ q ∧ q < w'.heap.size)) (fun q hq => .inl hq) hm (fun q hq _ hne => hk q hq hne) hsl (fun a ea hne => by
    rcases hA a ea hne with h1 | h1
    · exact ⟨.inl h1.1, h1.2⟩
    · exact ⟨.inr h1, by omega, by omega⟩)
  refine ⟨_, ⟨hd, .inl h.qg, ?_, fb, _, _, (hk g h.qg (fun e => m2.fg e.symm)).trans m1, hfil⟩, ?_⟩
  · rintro q (hq | hq)
    · exact Nat.lt_of_lt_of_le (h.qlt q hq) hs
    · exact hq.2
  · rintro q (hq | hq)
    · exact .inl hq
    · exact .inr hq.1
set_option maxRecDepth 100000 in
set_option maxHeartbeats 1000000 in
theorem rsync_any (x : Int) (g : Nat) (Q : Nat → Prop) (d : DiskD) (w : World) (h : Rk w g Q d) : Calls Try.prog 58 #[.pointer (some ⟨g, 0, none⟩), .int .i64 x] w (RkPost w g Q (.int .i64 (askK d x)) (syncD d x)) := by
  have Hk := hid_ (rasked_any x g Q d w h)
  rcases ask_cases d x h.ok with ⟨hk, hd, j, f, rfl, hj, hf⟩ | hk
  · obtain ⟨fb, cs, V, m1, m2⟩ := h.mem
    obtain ⟨c0, c1, c2, c3, -⟩ := rk_facts m1
    obtain ⟨s0, s1, s2, sf⟩ := m2.at_ j hj
    have HD := hid_ (show syncD d (j : Nat) = withF d (setF d.F j (some ⟨f.all, f.all.length⟩)) by unfold syncD; rw [if_pos hk, Int.toNat_natCast]; unfold syncF; rw [fileAt_some hf])
    have HE := hid_ (fun (W : World) (hW : W.heap = (w.setCell ⟨fb, j * 3 + 2, none⟩ (.int .i64 (f.all.length : Nat))).heap) (hT : Tn Q w W) => show RkPost w g Q (.int .i64 (askK d (j : Nat))) (syncD d (j : Nat)) (.returned (.int .i64 (askK d (j : Nat)))) W from by
      have hD := syncD_ok h.ok (j : Nat)
      rw [HD.out] at hD ⊢
      have hheap : ∀ q, q ≠ fb → W.heap[q]? = w.heap[q]? := fun q hq => by rw [hW]; exact Below.heap_setCell w ⟨fb, j * 3 + 2, none⟩ _ q hq
      obtain ⟨Q', h1, h2⟩ := h.put (w' := W) m1 m2 j hj (some ⟨f.all, f.all.length⟩) (V j).1 (V j).2 ⟨f.all, f.all.length⟩ rfl hT.size
        (by
          rw [set_id (show cs[j * 3]? = some (.bool (some (FileD.mk f.all f.all.length)).isSome) by rw [m2.is_ j hj, hf]; rfl), set_id (show cs[j * 3 + 1]? = some (.slice (V j).1 f.all.length (V j).2) by rw [m2.sl_ j hj, fileAt_some hf])]
          unfold Whole
          rw [hW]
          exact m2.mem.store _ _)
        (fun q _ hne => hheap q hne)
        (by
          have := m2.rd j hj
          rw [fileAt_some hf] at this
          exact Sl.stands_at this (fun a e hne => hheap _ (m2.blk j hj a e (by rw [fileAt_some hf]; exact hne)).2.2))
        (fun a e hne => .inl (m2.blk j hj a e (by rw [fileAt_some hf]; exact hne))) hD
      exact rkPost_mk rfl h1 rfl hT h2)
    rw [fileAt_some hf] at s1 s2
    have HT := hid_ ((Tn.refl Q w).set (g := fb) (.inl m2.qf) (j * 3 + 2) (.int .i64 (f.all.length : Nat)))
    rw [hk] at Hk HE ⊢
    clear h hk hd hf m1 m2
    generalize f.all.length = n at *
    have e2 : (0 : Int) ≤ (j : Int) := by omega
    have e3 : (j : Int) < 64 := by omega
    go_enter Try.func58, Try.ntmps58
    go_wp2_with fail
    refine Calls.mono Hk.out ?_
    rintro e w1 ⟨rfl, rfl⟩
    go_wp2_with fail
    go_region
    all_goals
      go_wp2_with fail
      go_ret
      exact HE.out _ rfl HT.out.drew
  · have HD := hid_ (show syncD d x = d by unfold syncD; rw [if_neg hk])
    have hk' : (askK d x == 0) = false := beq_eq_false_iff_ne.2 hk
    have H := hid_ h
    clear h hk
    generalize syncD d x = d' at *
    generalize askK d x = k at *
    go_enter Try.func58, Try.ntmps58
    go_wp2_with fail
    refine Calls.mono Hk.out ?_
    rintro e w1 ⟨rfl, rfl⟩
    go_wp2_with fail
    go_ret
    exact rkPost_same rfl H.out HD.out (Below.refl _ _)
end Dsk
end Go.Proofs.Ytalekhafkgepnaa

/-
  The reference's Remove and Cut of a disk.
-/
namespace Go.Proofs.Ytalekhafkgepnaa
set_option linter.unusedSimpArgs false
set_option linter.unusedVariables false
open Go.RowKit
namespace Dsk
set_option linter.unusedSimpArgs false
set_option linter.unusedVariables false
set_option maxRecDepth 100000 in
set_option maxHeartbeats 1000000 in
theorem rremove_any (x : Int) (g : Nat) (Q : Nat → Prop) (d : DiskD) (w : World) (h : Rk w g Q d) : Calls Try.prog 61 #[.pointer (some ⟨g, 0, none⟩), .int .i64 x] w (RkPost w g Q (.int .i64 (askK d x)) (removeD d x)) := by
  have Hk := hid_ (rasked_any x g Q d w h)
  rcases ask_cases d x h.ok with ⟨hk, hd, j, f, rfl, hj, hf⟩ | hk
  · obtain ⟨fb, cs, V, m1, m2⟩ := h.mem
    obtain ⟨c0, c1, c2, c3, -⟩ := rk_facts m1
    obtain ⟨s0, s1, s2, sf⟩ := m2.at_ j hj
    have HD := hid_ (show removeD d (j : Nat) = withF d (setF d.F j none) by unfold removeD; rw [if_pos hk, Int.toNat_natCast])
    have HE := hid_ (show RkPost w g Q (.int .i64 (askK d (j : Nat))) (removeD d (j : Nat)) (.returned (.int .i64 (askK d (j : Nat)))) (((w.setCell ⟨fb, j * 3, none⟩ (.bool false)).setCell ⟨fb, j * 3 + 1, none⟩ (.slice none 0 0)).setCell ⟨fb, j * 3 + 2, none⟩ (.int .i64 0)) from by
      have hD := removeD_ok h.ok (j : Nat)
      rw [HD.out] at hD ⊢
      have hT : Tn Q w (((w.setCell ⟨fb, j * 3, none⟩ (.bool false)).setCell ⟨fb, j * 3 + 1, none⟩ (.slice none 0 0)).setCell ⟨fb, j * 3 + 2, none⟩ (.int .i64 0)) := (((Tn.refl Q w).set (g := fb) (.inl m2.qf) _ _).set (g := fb) (.inl m2.qf) _ _).set (g := fb) (.inl m2.qf) _ _
      have hheap : ∀ q, q ≠ fb → (((w.setCell ⟨fb, j * 3, none⟩ (.bool false)).setCell ⟨fb, j * 3 + 1, none⟩ (.slice none 0 0)).setCell ⟨fb, j * 3 + 2, none⟩ (.int .i64 0)).heap[q]? = w.heap[q]? := fun q hq => (Below.heap_setCell _ ⟨fb, _, none⟩ _ q hq).trans ((Below.heap_setCell _ ⟨fb, _, none⟩ _ q hq).trans (Below.heap_setCell w ⟨fb, _, none⟩ _ q hq))
      obtain ⟨Q', h1, h2⟩ := h.put m1 m2 j hj none none 0 ⟨[], 0⟩ rfl hT.size
        (((m2.mem.store _ _).store _ _).store _ _)
        (fun q _ hne => hheap q hne) (Sl.none _) (fun a e => by cases e) hD
      exact rkPost_mk rfl h1 rfl hT h2)
    rw [hk] at Hk HE ⊢
    clear h hk hd hf m1 m2
    generalize (d.F j).isSome = y at *
    generalize (fileAt d.F j).all.length = n at *
    generalize (fileAt d.F j).fast = ff at *
    generalize (V j).1 = A at *
    generalize (V j).2 = c at *
    have e2 : (0 : Int) ≤ (j : Int) := by omega
    have e3 : (j : Int) < 64 := by omega
    go_enter Try.func61, Try.ntmps61
    go_wp2_with fail
    refine Calls.mono Hk.out ?_
    rintro e w1 ⟨rfl, rfl⟩
    go_wp2_with fail
    go_ret
    exact HE.out
  · have HD := hid_ (show removeD d x = d by unfold removeD; rw [if_neg hk])
    have hk' : (askK d x == 0) = false := beq_eq_false_iff_ne.2 hk
    have H := hid_ h
    clear h hk
    generalize removeD d x = d' at *
    generalize askK d x = k at *
    go_enter Try.func61, Try.ntmps61
    go_wp2_with fail
    refine Calls.mono Hk.out ?_
    rintro e w1 ⟨rfl, rfl⟩
    go_wp2_with fail
    go_ret
    exact rkPost_same rfl H.out HD.out (Below.refl _ _)
set_option maxRecDepth 100000 in
set_option maxHeartbeats 2000000 in
theorem rcut_any (x size : Int) (g : Nat) (Q : Nat → Prop) (d : DiskD) (w : World) (h : Rk w g Q d) : Calls Try.prog 59 #[.pointer (some ⟨g, 0, none⟩), .int .i64 x, .int .i64 size] w (RkPost w g Q (.int .i64 (cutK d x size)) (cutD d x size)) := by
  have Hk := hid_ (rasked_any x g Q d w h)
  rcases ask_cases d x h.ok with ⟨hk, hd, j, f, rfl, hj, hf⟩ | hk
  · obtain ⟨fb, cs, V, m1, m2⟩ := h.mem
    obtain ⟨c0, c1, c2, c3, -⟩ := rk_facts m1
    obtain ⟨s0, s1, s2, sf⟩ := m2.at_ j hj
    have e2 : (0 : Int) ≤ (j : Int) := by omega
    have e3 : (j : Int) < 64 := by omega
    have hcap := (m2.rd j hj).cap
    have hmax := (m2.rd j hj).max
    rw [fileAt_some hf] at hcap
    by_cases hbad : size < 0 ∨ (f.all.length : Int) < size
    · have HK := hid_ (show cutK d (j : Nat) size = 1 by unfold cutK; rw [if_pos hk, Int.toNat_natCast, fileAt_some hf, if_pos hbad])
      have HD := hid_ (show cutD d (j : Nat) size = d by unfold cutD; rw [HK.out]; rfl)
      have H := hid_ h
      rw [fileAt_some hf] at s1 s2
      rw [hk] at Hk
      clear h hk hd hf m1 m2
      generalize f.all.length = n at *
      generalize cutD d (j : Nat) size = d' at *
      generalize cutK d (j : Nat) size = k' at *
      rcases hbad with hbad | hbad
      · have e1 : decide (size < 0) = true := decide_eq_true hbad
        go_enter Try.func59, Try.ntmps59
        go_wp2_with fail
        refine Calls.mono Hk.out ?_
        rintro e w1 ⟨rfl, rfl⟩
        go_wp2_with fail
        go_ret
        exact rkPost_same HK.out.symm H.out HD.out (Below.refl _ _)
      · have e1 : decide (size < 0) = false := decide_eq_false (by omega)
        have e4 : decide ((n : Int) < size) = true := decide_eq_true hbad
        go_enter Try.func59, Try.ntmps59
        go_wp2_with fail
        refine Calls.mono Hk.out ?_
        rintro e w1 ⟨rfl, rfl⟩
        go_wp2_with fail
        go_ret
        exact rkPost_same HK.out.symm H.out HD.out (Below.refl _ _)
    · obtain ⟨m, rfl⟩ := Int.eq_ofNat_of_zero_le (show 0 ≤ size by omega)
      have hmn : m ≤ f.all.length := by omega
      have HK := hid_ (show cutK d (j : Nat) (m : Nat) = 0 by unfold cutK; rw [if_pos hk, Int.toNat_natCast, fileAt_some hf, if_neg hbad])
      have HD := hid_ (show cutD d (j : Nat) (m : Nat) = withF d (setF d.F j (some ⟨f.all.take m, m⟩)) by unfold cutD; rw [if_pos ⟨HK.out, hk⟩, Int.toNat_natCast, Int.toNat_natCast]; unfold firstF; rw [fileAt_some hf])
      have HE := hid_ (fun (W : World) (hW : W.heap = ((w.setCell ⟨fb, j * 3 + 1, none⟩ (.slice (V j).1 m (V j).2)).setCell ⟨fb, j * 3 + 2, none⟩ (.int .i64 (m : Nat))).heap) (hT : Tn Q w W) => show RkPost w g Q (.int .i64 (cutK d (j : Nat) (m : Nat))) (cutD d (j : Nat) (m : Nat)) (.returned (.int .i64 0)) W from by
        have hD := cutD_ok h.ok (j : Nat) (m : Nat)
        have hlm : (f.all.take m).length = m := by rw [List.length_take]; omega
        rw [HD.out] at hD ⊢
        have hheap : ∀ q, q ≠ fb → W.heap[q]? = w.heap[q]? := fun q hq => by rw [hW]; exact (Below.heap_setCell _ ⟨fb, _, none⟩ _ q hq).trans (Below.heap_setCell w ⟨fb, _, none⟩ _ q hq)
        obtain ⟨Q', h1, h2⟩ := h.put (w' := W) m1 m2 j hj (some ⟨f.all.take m, m⟩) (V j).1 (V j).2 ⟨f.all.take m, m⟩ rfl hT.size
          (by
            rw [set_id (show cs[j * 3]? = some (.bool (some (FileD.mk (f.all.take m) m)).isSome) by rw [m2.is_ j hj, hf]; rfl), hlm]
            unfold Whole
            rw [hW]
            exact (m2.mem.store _ _).store _ _)
          (fun q _ hne => hheap q hne)
          (by
            have := m2.rd j hj
            rw [fileAt_some hf] at this
            have h3 := this.upto m hmn
            show Sl W (V j).1 (f.all.take m).length (V j).2 (f.all.take m)
            rw [hlm]
            exact Sl.stands_at h3 (fun a e hne => hheap _ (m2.blk j hj a e (by rw [fileAt_some hf]; intro e2; rw [e2] at hne; simp at hne)).2.2))
          (fun a e hne => .inl (m2.blk j hj a e (by rw [fileAt_some hf]; intro e2; rw [show (FileD.mk (f.all.take m) m).all = f.all.take m from rfl, e2] at hne; simp at hne))) hD
        exact rkPost_mk (by rw [HK.out]) h1 rfl hT h2)
      rw [fileAt_some hf] at s1 s2
      have HT := hid_ (((Tn.refl Q w).set (g := fb) (.inl m2.qf) (j * 3 + 1) (.slice (V j).1 m (V j).2)).set (g := fb) (.inl m2.qf) (j * 3 + 2) (.int .i64 (m : Nat)))
      have HTd := hid_ (((Tn.refl Q w).set (g := fb) (.inl m2.qf) (j * 3 + 1) (.slice (V j).1 m (V j).2)).drew.set (g := fb) (.inl m2.qf) (j * 3 + 2) (.int .i64 (m : Nat)))
      rw [hk] at Hk
      have hfg := m2.fg
      have hgf : g ≠ fb := fun e => hfg e.symm
      clear h hk hd hf m1 m2
      generalize f.all.length = n at *
      have e1 : decide ((m : Int) < 0) = false := decide_eq_false (by omega)
      have e4 : decide (n < m) = false := decide_eq_false (by omega)
      have e5 : decide ((n : Int) < (m : Int)) = false := decide_eq_false (by omega)
      have y1 : (0 : Int) ≤ (m : Int) := by omega
      have y2 : (m : Int) ≤ ((V j).2 : Int) := by omega
      generalize (V j).1 = A at *
      generalize (V j).2 = c at *
      go_enter Try.func59, Try.ntmps59
      go_wp2_with fail
      refine Calls.mono Hk.out ?_
      rintro e w1 ⟨rfl, rfl⟩
      go_wp2_with fail
      go_region
      all_goals
        go_wp2_with fail
        go_ret
        first | exact HE.out _ rfl HTd.out | exact HE.out _ rfl HT.out.drew | exact HE.out _ rfl HT.out
  · have HK := hid_ (show cutK d x size = askK d x by unfold cutK; rw [if_neg hk])
    have HD := hid_ (show cutD d x size = d by unfold cutD; rw [if_neg (fun hc => hk hc.2)])
    have hk' : (askK d x == 0) = false := beq_eq_false_iff_ne.2 hk
    have hk2 : (askK d x != 0) = true := by simp [bne, hk']
    have H := hid_ h
    clear h hk
    generalize cutD d x size = d' at *
    generalize cutK d x size = k' at *
    generalize askK d x = k at *
    go_enter Try.func59, Try.ntmps59
    go_wp2_with fail
    refine Calls.mono Hk.out ?_
    rintro e w1 ⟨rfl, rfl⟩
    go_wp2_with fail
    go_ret
    exact rkPost_same HK.out.symm H.out HD.out (Below.refl _ _)
end Dsk
end Go.Proofs.Ytalekhafkgepnaa

/-
  The reference's Files of a disk.
-/
namespace Go.Proofs.Ytalekhafkgepnaa
set_option linter.unusedSimpArgs false
set_option linter.unusedVariables false
open Go.RowKit
namespace Dsk
set_option linter.unusedSimpArgs false
set_option linter.unusedVariables false
theorem info_intD : (Try.prog.info? 3).map (fun i => (i.zero, i.size, i.bytes)) = some (some (.int .i64 0), 1, 8) := by kernel_rfl
theorem numVals_snoc (l : List Nat) (k : Nat) : numVals (l ++ [k]) = numVals l ++ [.int .i64 (k : Nat)] := by simp [numVals]
theorem filesTo_len (F : Files) (k : Nat) : (filesTo F k).length ≤ k := by
  have := List.length_filter_le (fun j => (F j).isSome) (List.range k)
  rw [List.length_range] at this
  exact this
set_option maxRecDepth 100000 in
set_option maxHeartbeats 2000000 in
theorem rfiles_any (g : Nat) (Q : Nat → Prop) (d : DiskD) (w : World) (h : Rk w g Q d) : Calls Try.prog 66 #[.pointer (some ⟨g, 0, none⟩)] w (FilesPost d.F w) := by
  obtain ⟨fb, cs, V, m1, m2⟩ := h.mem
  have H := hid_ h
  have M1 := hid_ m1
  have M := hid_ m2
  have hgl := h.qlt g h.qg
  have hfl := h.qlt fb m2.qf
  obtain ⟨c0, c1, c2, c3, -⟩ := rk_facts m1
  clear h m1 m2
  go_enter Try.func66, Try.ntmps66
  go_wp2_with fail
  go_loopw [3, 4] (fun vl vi wr => ∃ (k n c : Nat) (A : Option Addr), k ≤ 64 ∧ n ≤ 64 ∧ vi = .int .i64 (k : Nat) ∧ vl = .slice A n c ∧ Hid (n = (filesTo d.F k).length) ∧ Hid (OwnV 3 w.heap.size wr A n c (numVals (filesTo d.F k))) ∧ Hid (Below w.heap.size w wr)) (fun _ vi _ => 64 - (intOf vi).toNat)
  case atStart => exact ⟨0, 0, 0, none, Nat.zero_le _, Nat.zero_le _, rfl, rfl, hid_ rfl, hid_ (OwnV.none _ _ _), hid_ (Below.refl _ _)⟩
  case round =>
    obtain ⟨k, n, c, A, hk, hn, rfl, rfl, HN, HO, HB⟩ := hrel
    have c1r := (HB.out.cell (p := ⟨g, 1, none⟩) hgl).trans c1
    by_cases hlt : k < 64
    · obtain ⟨s0, -, -, -⟩ := M.out.at_ k hlt
      have s0r := (HB.out.cell (p := ⟨fb, k * 3, none⟩) hfl).trans s0
      have HL := hid_ (filesTo_succ d.F k)
      have hn2 := filesTo_len d.F (k + 1)
      have HZ := hid_ HB.out.size
      clear s0
      cases hs : (d.F k).isSome
      · rw [hs] at s0r HL
        have HL2 := hid_ (show filesTo d.F (k + 1) = filesTo d.F k by rw [HL.out]; simp)
        clear hs HL
        go_wp2_with fail
        go_roundw
        case rel => exact ⟨k + 1, n, c, A, by omega, hn, by go_num, rfl, hid_ (by rw [HL2.out]; exact HN.out), hid_ (by rw [HL2.out]; exact HO.out), HB⟩
        case measure => simp [intOf]; omega
      · rw [hs] at s0r HL
        have HL2 := hid_ (show filesTo d.F (k + 1) = filesTo d.F k ++ [k] by rw [HL.out]; simp)
        have hn3 : n + 1 ≤ 64 := by
          have h1 := HN.out
          rw [HL2.out, List.length_append] at hn2
          simp at hn2
          omega
        have HBa := hid_ (HB.out.alloc HB.out.size (.cells #[.int .i64 (k : Nat)] 3))
        clear hs HL
        go_wp2_with (first
          | (at_builtin; refine wpList_one rfl (.tmp 22) (.tmp 24) 76 3 rfl _ 8 Try.underlying76 info_intD rfl w.heap.size A n c (numVals (filesTo d.F k)) rfl (HO.out.later ((Below.refl _ _).alloc (Nat.le_refl _) _)) wr.heap.size (.int .i64 (k : Nat)) rfl (at_new _ _ _) rfl (n + 1) (numVals (filesTo d.F k) ++ [.int .i64 (k : Nat)]) rfl rfl (by omega) (by omega) (by have := HZ.out; simp; omega) ?_; intro A2 c2 w2 ho hb _ _; have HO2 := hid_ ho; have HB2 := hid_ (HBa.out.trans hb); clear ho hb)
          | fail)
        go_roundw
        case rel => exact ⟨k + 1, n + 1, c2, A2, by omega, hn3, by go_num, rfl, hid_ (by rw [HL2.out, List.length_append, HN.out]; rfl), hid_ (by rw [HL2.out, numVals_snoc]; exact HO2.out), HB2⟩
        case measure => simp [intOf]; omega
    · obtain rfl : k = 64 := by omega
      go_wp2_with fail
      go_ret
      have e := HN.out
      subst e
      exact ⟨A, c, rfl, HO.out, HB.out⟩
end Dsk
end Go.Proofs.Ytalekhafkgepnaa

/-
  The reference's Append to a disk.
-/
namespace Go.Proofs.Ytalekhafkgepnaa
set_option linter.unusedSimpArgs false
set_option linter.unusedVariables false
open Go.RowKit
namespace Dsk
set_option linter.unusedSimpArgs false
set_option linter.unusedVariables false
theorem own_lit0 (w : World) (G B : Nat) (hG : G = w.heap.size) (hB : B ≤ w.heap.size) : Own B (w.alloc (.cells #[] 5)) (some ⟨G, 0, Option.none⟩) 0 0 [] := by
  subst hG
  exact own_lit w [] #[] rfl 0 rfl (by omega) B hB
/-- What Append's last region holds on to. -/
abbrev AppIn (wt : World) (g fb o : Nat) (vb va : Value) (W : World) : Prop := Below wt.heap.size wt W ∧ W.cell? ⟨g, 1, none⟩ = some vb ∧ W.cell? ⟨fb, o, none⟩ = some va ∧ W.frozen? ⟨fb, o, none⟩ = false
theorem appIn_keepB {wt W W' : World} {g fb o : Nat} {vb va : Value} (hg : g < wt.heap.size) (hf : fb < wt.heap.size) (h : AppIn wt g fb o vb va W) (hb : Below wt.heap.size W W') : AppIn wt g fb o vb va W' :=
  ⟨h.1.trans hb, (hb.cell (p := ⟨g, 1, none⟩) hg).trans h.2.1, (hb.cell (p := ⟨fb, o, none⟩) hf).trans h.2.2.1, (hb.frozen (p := ⟨fb, o, none⟩) hf).trans h.2.2.2⟩
theorem appIn_keep {wt W W' : World} {g fb o : Nat} {vb va : Value} (hg : g < wt.heap.size) (hf : fb < wt.heap.size) (h : AppIn wt g fb o vb va W) (hb : Below W.heap.size W W') : AppIn wt g fb o vb va W' :=
  appIn_keepB hg hf h (hb.mono h.1.size)
theorem rappend_down (x : Int) (Ab : Option Addr) (nb cb : Nat) (g : Nat) (Q : Nat → Prop) (d : DiskD) (w : World) (h : Rk w g Q d) (hd : d.down = true) : Calls Try.prog 57 #[.pointer (some ⟨g, 0, none⟩), .int .i64 x, .slice Ab nb cb] w (RkPost w g Q (.int .i64 10) d) := by
  obtain ⟨fb, cs, V, m1, m2⟩ := h.mem
  obtain ⟨c0, c1, c2, c3, -⟩ := rk_facts m1
  rw [hd] at c3
  have H := hid_ h
  clear h m1 m2 hd
  go_enter Try.func57, Try.ntmps57
  go_wp2
  go_ret
  exact rkPost_same rfl H.out rfl (Below.refl _ _)
theorem rappend_bad (x : Int) (hx : x < 0 ∨ 64 ≤ x) (Ab : Option Addr) (nb cb : Nat) (g : Nat) (Q : Nat → Prop) (d : DiskD) (w : World) (h : Rk w g Q d) (hd : d.down = false) : Calls Try.prog 57 #[.pointer (some ⟨g, 0, none⟩), .int .i64 x, .slice Ab nb cb] w (RkPost w g Q (.int .i64 1) d) := by
  obtain ⟨fb, cs, V, m1, m2⟩ := h.mem
  obtain ⟨c0, c1, c2, c3, -⟩ := rk_facts m1
  rw [hd] at c3
  have H := hid_ h
  clear h m1 m2 hd
  rcases hx with hx | hx
  · have e1 : decide (x < 0) = true := decide_eq_true hx
    go_enter Try.func57, Try.ntmps57
    go_wp2
    go_ret
    exact rkPost_same rfl H.out rfl (Below.refl _ _)
  · have e1 : decide (x < 0) = false := decide_eq_false (by omega)
    have e2 : decide (64 ≤ x) = true := decide_eq_true hx
    go_enter Try.func57, Try.ntmps57
    go_wp2
    go_ret
    exact rkPost_same rfl H.out rfl (Below.refl _ _)
/-- The end: the file's flag is laid, its bytes are new ones. -/
theorem rapp_end {w wt w2 : World} {g fb : Nat} {Q : Nat → Prop} {d dt : DiskD} {cs : Array Value} {V : Nat → Option Addr × Nat} (h : Rk w g Q dt) (m1 : Whole w g 127 (rcells fb dt)) (m2 : RFiles w g fb Q dt.F cs V) (j : Nat) (hj : j < 64) (bs : List UInt8) (A2 : Option Addr) (N c2 : Nat)
    (hwt : wt = w.setCell ⟨fb, j * 3, none⟩ (.bool true)) (hN : N = ((fileAt dt.F j).all ++ bs).length) (ho : Own wt.heap.size w2 A2 N c2 ((fileAt dt.F j).all ++ bs)) (hb : Below wt.heap.size wt w2) (hd : DOk (withF dt (layF dt.F j bs))) (W : World) (hW : W.heap = (w2.setCell ⟨fb, j * 3 + 1, none⟩ (.slice A2 N c2)).heap) (hT : Tn Q w W) :
    ∃ Q', Rk W g Q' (withF dt (layF dt.F j bs)) ∧ ∀ q, Q' q → Q q ∨ w.heap.size ≤ q := by
  subst hN hwt
  have hs : (w.setCell ⟨fb, j * 3, none⟩ (.bool true)).heap.size = w.heap.size := by simp
  have hfb := h.qlt fb m2.qf
  have hheap : ∀ q, q < w.heap.size → q ≠ fb → W.heap[q]? = w.heap[q]? := fun q hq hne => by
    rw [hW]
    exact (Below.heap_setCell _ ⟨fb, _, none⟩ _ q hne).trans ((hb.block q (by rw [hs]; exact hq)).trans (Below.heap_setCell w ⟨fb, _, none⟩ _ q hne))
  have hge : ∀ k, blockOf A2 = some k → w.heap.size ≤ k := fun k e => by have := (World.ownsRow.lt ho k (by rw [own_blockOf]; exact e)).1; rw [hs] at this; exact this
  refine h.put m1 m2 j hj (some ⟨(fileAt dt.F j).all ++ bs, (fileAt dt.F j).fast⟩) A2 c2 ⟨(fileAt dt.F j).all ++ bs, (fileAt dt.F j).fast⟩ rfl hT.size ?_ (fun q hq hne => hheap q (h.qlt q hq) hne) ?_ (fun a e _ => .inr ⟨hge _ (by rw [e]; rfl), ?_⟩) hd
  · have e1 : Whole w2 fb 160 (cs.setIfInBounds (j * 3) (.bool true)) := (m2.mem.store (j * 3) (.bool true)).below hb (by rw [hs]; exact hfb)
    have e2 := e1.store (j * 3 + 1) (.slice A2 ((fileAt dt.F j).all ++ bs).length c2)
    rw [set_id (i := j * 3 + 2) (v := .int .i64 ((fileAt dt.F j).fast : Nat)) (by rw [set_miss (by omega), set_miss (by omega)]; exact m2.fa_ j hj)]
    unfold Whole
    rw [hW]
    exact e2
  · exact Sl.stands_at ho.sl (fun a e hne => by
      rw [hW]
      exact Below.heap_setCell _ ⟨fb, _, none⟩ _ _ (by have := hge a.block (by rw [e]; rfl); show a.block ≠ fb; omega))
  · have h9 := ho.blk_lt a.block (by rw [e]; rfl)
    have : W.heap.size = w2.heap.size := by rw [hW]; simp
    omega
end Dsk
end Go.Proofs.Ytalekhafkgepnaa
