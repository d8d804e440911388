/-
  What WalPrefix keeps: a log over crashes, and a row of all records that were appended.
-/
import Derived.Test.YtbinmaamebdneaaZDiskAlive
import Derived.Test.YtbinmaamebdneaaZGWP
import Derived.Test.YtbinmaamebdneaaZGWR
import Derived.Test.YtbinmaamebdneaaZSame
import Derived.Deep.Matrix
import Derived.WideShapes
namespace Go.Proofs.Ytbinmaamebdneaa
set_option linter.unusedSimpArgs false
set_option linter.unusedVariables false
open Go.RowKit Fm Dsk
namespace Wl
set_option linter.unusedSimpArgs false
set_option linter.unusedVariables false
/-- The disk has files of which the records are `all`, the first s of them fast; the log, while the disk is up, has just these. -/
def PSt (d : DiskD) (most : Int) (L : List FS) (s N : Nat) (all : List (List UInt8)) : Prop :=
  ∃ base M c, Lay d most base M c s N ∧ (M = [] → base = 0) ∧ recsL M = all ∧ firstL M = 0 ∧ LOk L ∧ (d.down = false → M = L ∧ FullC L c)
theorem PSt.known {d : DiskD} {most : Int} {L : List FS} {s N : Nat} {all : List (List UInt8)} (h : PSt d most L s N all) : KnownD d L := by
  obtain ⟨base, M, c, h1, -, -, -, -, h6⟩ := h
  intro hup
  obtain ⟨rfl, hc⟩ := h6 hup
  exact (h1.logok hup hc).known hup
theorem PSt.lok {d : DiskD} {most : Int} {L : List FS} {s N : Nat} {all : List (List UInt8)} (h : PSt d most L s N all) : LOk L := by
  obtain ⟨base, M, c, -, -, -, -, h5, -⟩ := h
  exact h5
theorem PSt.up {d : DiskD} {most : Int} {L : List FS} {s N : Nat} {all : List (List UInt8)} (h : PSt d most L s N all) (hup : d.down = false) : ∃ base c, Lay d most base L c s N ∧ (L = [] → base = 0) ∧ recsL L = all ∧ firstL L = 0 ∧ FullC L c ∧ LogOk d most base L N 1048576 := by
  obtain ⟨base, M, c, h1, h2, h3, h4, h5, h6⟩ := h
  obtain ⟨rfl, hc⟩ := h6 hup
  exact ⟨base, c, h1, h2, h3, h4, hc, h1.logok hup hc⟩
theorem PSt.s_le {d : DiskD} {most : Int} {L : List FS} {s N : Nat} {all : List (List UInt8)} (h : PSt d most L s N all) : s ≤ all.length := by
  obtain ⟨base, M, c, h1, h2, h3, h4, h5, h6⟩ := h
  rw [← h3]; exact h1.s_le
theorem ask_down {d : DiskD} (hd : d.down = true) (j : Int) : askK d j = 10 := by unfold askK; rw [hd]; rfl
theorem app_down {d : DiskD} (hd : d.down = true) (j : Int) (b : List UInt8) : appK d j b.length = 10 ∧ appD d j b = d := by
  unfold appK appD
  rw [hd]
  exact ⟨rfl, rfl⟩
theorem append_down {d : DiskD} (hd : d.down = true) (most : Int) (L : List FS) (r : List UInt8) : (appendL d most L r).1 ≠ 0 ∧ (appendL d most L r).2 = (d, L) ∧ ((appendL d most L r).1 = 9 ∨ (appendL d most L r).1 = 10) := by
  have hs : ∀ num first, startL d L num first r = (10, d, L) := fun num first => by
    unfold startL
    obtain ⟨e1, e2⟩ := app_down hd (num : Nat) (framed (headB first) ++ framed r)
    rw [e1, e2, if_neg (by decide)]
  have hb : beginL d L r = (9, d, L) ∨ beginL d L r = (10, d, L) := by
    unfold beginL
    split
    · exact .inl rfl
    · right
      rcases hl : L.getLast? with _ | f
      · exact hs 0 0
      · simp only
        rw [ask_down hd, if_neg (by decide)]
  have h2 : appendL d most L r = (9, d, L) ∨ appendL d most L r = (10, d, L) := by
    unfold appendL
    rcases hl : L.getLast? with _ | f
    · exact hb
    · simp only
      split
      · exact hb
      · right
        obtain ⟨e1, e2⟩ := app_down hd (f.num : Nat) (framed r)
        rw [e1, e2, if_neg (by decide)]
  rcases h2 with h | h <;> rw [h]
  · exact ⟨(by decide : (9 : Int) ≠ 0), rfl, .inl rfl⟩
  · exact ⟨(by decide : (10 : Int) ≠ 0), rfl, .inr rfl⟩
/-- What an append makes of it. -/
def PApp (d : DiskD) (most : Int) (L : List FS) (s N : Nat) (all : List (List UInt8)) (r : List UInt8) (k : Int) (d' : DiskD) (L' : List FS) : Prop :=
  (d.down = true ∧ (k = 9 ∨ k = 10) ∧ PSt d' most L' s N all) ∨ (d.down = false ∧ k = 9 ∧ PSt d' most L' s N all) ∨ (d.down = false ∧ (k = 0 ∨ k = 10) ∧ PSt d' most L' s (N + 1) (all ++ [r]))
theorem PSt.append {d : DiskD} {most : Int} {L : List FS} {s N : Nat} {all : List (List UInt8)} (h : PSt d most L s N all) (r : List UInt8) (hr : r.length ≤ 8192) (hN : N < 1000000) : PApp d most L s N all r (appendL d most L r).1 (appendL d most L r).2.1 (appendL d most L r).2.2 := by
  cases hd : d.down
  · obtain ⟨base, c, h1, h2, h3, h4, h5, h6⟩ := h.up hd
    have hf := first_append (d := d) (most := most) (r := r) h4
    have ha := h1.append hd h5 h2 r hr hN
    right
    generalize appendL d most L r = R at *
    obtain ⟨k, d', L'⟩ := R
    simp only at ha hf ⊢
    cases ha with
    | full u1 u2 u3 u4 => exact .inl ⟨hd, rfl, base, L, _, u4, h2, h3, h4, h.lok, fun _ => ⟨rfl, u3⟩⟩
    | came u1 u2 u3 u4 u5 u6 => exact .inr ⟨hd, .inl rfl, base, L', _, u4, fun e => absurd e u6, by rw [u5, h3], hf, (u4.logok u1 u3).lok, fun _ => ⟨rfl, u3⟩⟩
    | fell u1 u2 u3 u4 u5 u6 => exact .inr ⟨hd, .inr rfl, base, _, _, u3, fun e => by rw [e] at u4; simp [recsL] at u4, by rw [u4, h3], u5 h4, h.lok, fun e => by rw [u1] at e; cases e⟩
  · left
    obtain ⟨e1, e2, e3⟩ := append_down hd most L r
    refine ⟨hd, e3, ?_⟩
    rw [show (appendL d most L r).2.1 = d by rw [e2], show (appendL d most L r).2.2 = L by rw [e2]]
    exact h
theorem PSt.arm {d : DiskD} {most : Int} {L : List FS} {s N : Nat} {all : List (List UInt8)} (h : PSt d most L s N all) {n : Int} (hn : n ≤ 9223372036854775807) : PSt (armD d n) most L s N all := by
  obtain ⟨base, M, c, h1, h2, h3, h4, h5, h6⟩ := h
  exact ⟨base, M, c, ⟨armD_ok h1.ok hn, h1.shp, h1.rest, h1.full, h1.last, h1.s0⟩, h2, h3, h4, h5, h6⟩
theorem PSt.of_fast {d : DiskD} {most : Int} {base N U : Nat} {L : List FS} (h : LogOk d most base L N U) (h0 : L = [] → base = 0) (k : AllFast d base L) (hf : firstL L = 0) : PSt d most L (recsL L).length N (recsL L) := by
  obtain ⟨c, h1, h2⟩ := Lay.of_fast h k
  exact ⟨base, L, c, h2, h0, rfl, hf, h.lok, fun _ => ⟨rfl, h1⟩⟩
/-- Behind a crash: which disk an Open makes, and that it has a beginning. -/
theorem PSt.crash {d : DiskD} {most : Int} {L : List FS} {s N : Nat} {all : List (List UInt8)} (h : PSt d most L s N all) (keep : List Int) (h64 : 64 ≤ most) :
    ∃ base n C d' L', DiskOk (crashD d keep) base n C ∧ openD (crashD d keep) base n C = d' ∧ openL base n C = L' ∧ d'.down = false ∧ PSt d' most L' (recsL L').length N (recsL L') ∧ s ≤ (recsL L').length ∧ (recsL L').length ≤ all.length ∧ recsL L' = all.take (recsL L').length := by
  obtain ⟨base, M, c, h1, h2, h3, h4, h5, h6⟩ := h
  obtain ⟨c', l1, l2⟩ := h1.crash keep
  obtain ⟨o1, o2⟩ := l1.open_ rfl l2 h64 h2
  obtain ⟨b', k1, k2, k3⟩ := o2.out
  obtain ⟨t, t1, t2, t3⟩ := o2.recs
  have hl : (recsL (openL base M.length (contC M c'))).length = t := by rw [t1, List.length_take]; omega
  refine ⟨base, M.length, contC M c', _, _, o1, rfl, rfl, k1.up, PSt.of_fast k1 k2 k3 (o2.first h4), by rw [hl]; exact t2, by rw [hl, ← h3]; exact t3, ?_⟩
  rw [hl, t1, h3]
set_option maxHeartbeats 4000000 in
theorem lsync_down {w : World} {gl gd : Nat} {X F : Nat → Prop} {d : DiskD} {most : Int} {L : List FS} (h : LgF w gl gd X F d most L) (hd : d.down = true) : Calls Try.prog 11 #[.pointer (some ⟨gl, 0, none⟩)] w (fun e w' => e = .returned (.int .i64 10) ∧ w = w') := by
  obtain ⟨Qd, Pl, P, g, Af, cf, hl, -⟩ := h
  have HN := hid_ (none_any hl)
  obtain ⟨c0, c1, c2⟩ := l_facts hl.whole
  have HDn := hid_ (down_any gd Qd d w hl.dk)
  rw [hd] at HDn
  clear hl hd
  go_enter Try.func11, Try.ntmps11
  go_wp2_with fail
  (with_reducible refine Calls.mono HN.out ?_)
  rintro e w1 ⟨rfl, rfl⟩
  go_wp2_with fail
  (with_reducible refine Calls.mono HDn.out ?_)
  rintro e w1 ⟨rfl, rfl⟩
  go_wp2_with fail
  go_ret
  exact ⟨rfl, rfl⟩
/-- The log, the disk, and the row of records, in memory. -/
structure PrSt (w0 W : World) (gl gd : Nat) (X F G : Nat → Prop) (d : DiskD) (most : Int) (L : List FS) (A : Option Addr) (n c : Nat) (ls al : List (List UInt8)) (s N : Nat) : Prop where
  lg : LgB w0.heap.size w0 W gl gd X F d most L
  ps : PSt d most L s N al
  all : RecsT W (fun q => G q ∨ blockOf A = some q) A n c ls
  row : ∀ k, blockOf A = some k → ¬ G k ∧ w0.heap.size ≤ k
  fg : ∀ q, F q → G q
  glt : ∀ q, G q → q < W.heap.size
  go : ∀ q, G q → w0.heap.size ≤ q
  ox : ∀ q, X q → w0.heap.size ≤ q
  rx : ∀ k, blockOf A = some k → X k
def PrS (w0 : World) (gl gd : Nat) (d : DiskD) (most : Int) (L : List FS) (A : Option Addr) (n c : Nat) (ls al : List (List UInt8)) (s N : Nat) (W : World) : Prop := ∃ X F G, PrSt w0 W gl gd X F G d most L A n c ls al s N
section
variable {w0 w w' : World} {gl gd : Nat} {X F G : Nat → Prop} {d d' : DiskD} {most : Int} {L L' : List FS} {A : Option Addr} {n c : Nat} {ls al al' : List (List UInt8)} {s s' N N' : Nat}
theorem rows_more {w w' : World} {G : Nat → Prop} {A : Option Addr} {n c : Nat} {ls : List (List UInt8)} (h : RecsT w (fun q => G q ∨ blockOf A = some q) A n c ls) : RecsT w (fun q => growF G w w' q ∨ blockOf A = some q) A n c ls :=
  h.more (fun q hq => by
    rcases hq with (hq | hq) | hq
    · exact .inl (.inl hq)
    · exact .inr hq.1
    · exact .inl (.inr hq))
theorem row_block {w : World} {A : Option Addr} {n c : Nat} {vs : List Value} {a : Addr} (h : Row w A n c vs) (e : A = some a) (hne : vs ≠ []) : a.block < w.heap.size := by
  obtain ⟨b, off, e2, h2⟩ := h.holds hne
  rw [e] at e2
  injection e2 with e2
  subst e2
  have hpos : 0 < vs.length := List.length_pos_iff.2 hne
  exact lt_of_cell (h2 0 _ (List.getElem?_eq_getElem hpos))
theorem RecsT.row_lt {w : World} {X : Nat → Prop} {A : Option Addr} {n c : Nat} {ls : List (List UInt8)} (h : RecsT w X A n c ls) : ∀ k, blockOf A = some k → k < w.heap.size := h.blk_lt
theorem PrSt.later (h : PrSt w0 w gl gd X F G d most L A n c ls al s N) (k : Below w.heap.size w w') : PrSt w0 w' gl gd X F G d most L A n c ls al s N :=
  ⟨h.lg.later k, h.ps, h.all.tn (Q := fun _ => False) (Tn.of_below k) (fun _ _ e => e) (fun _ e => e.elim), h.row, h.fg, fun q hq => Nat.lt_of_lt_of_le (h.glt q hq) k.size, h.go, h.ox, h.rx⟩
theorem PrS.later (h : PrS w0 gl gd d most L A n c ls al s N w) (k : Below w.heap.size w w') : PrS w0 gl gd d most L A n c ls al s N w' := by
  obtain ⟨X, F, G, h⟩ := h
  exact ⟨X, F, G, h.later k⟩
theorem PrS.below (h : PrS w0 gl gd d most L A n c ls al s N w) : Below w0.heap.size w0 w := by
  obtain ⟨X, F, G, h⟩ := h
  exact h.lg.below
theorem PrS.ps (h : PrS w0 gl gd d most L A n c ls al s N w) : PSt d most L s N al := by
  obtain ⟨X, F, G, h⟩ := h
  exact h.ps
theorem PrSt.post {v : Value} {e : Ending} (h : PrSt w0 w gl gd X F G d most L A n c ls al s N) (k : LgPost w gl gd X F v d' most L' e w') (hp : PSt d' most L' s' N' al') : e = .returned v ∧ PrS w0 gl gd d' most L' A n c ls al' s' N' w' := by
  obtain ⟨he, ⟨X', h1, h2, h3⟩, t⟩ := h.lg.post k
  have hB := h.lg.size
  refine ⟨he, X', _, growF G w w', h1, hp, (rows_more h.all).tn t (fun b hb hq => (h.row b hb).1 (h.fg b hq)) (fun q hq => .inl (.inl (.inl (h.fg q hq)))), fun b hb => ⟨fun hq => ?_, (h.row b hb).2⟩, fun q hq => hq.imp (h.fg q) id, growF_lt h.glt t.size, fun q hq => ?_, fun q hq => ?_, fun b hb => h3 b (h.rx b hb)⟩
  · rcases hq with h5 | h5
    · exact (h.row b hb).1 h5
    · have := h.all.blk_lt b hb; omega
  · rcases hq with h5 | h5
    · exact h.go q h5
    · omega
  · rcases h2 q hq with h5 | h5
    · exact h.ox q h5
    · omega
theorem PrS.append (h : PrS w0 gl gd d most L A n c ls al s N w) {Ar : Option Addr} {nr cr : Nat} {r : List UInt8} (hs : Sl w0 Ar nr cr r) (hn : nr ≤ 8192) (hN : N < 1000000) :
    Calls Try.prog 10 #[.pointer (some ⟨gl, 0, none⟩), .slice Ar nr cr] w (fun e w' => ∃ k d' L' al' N', e = .returned (.int .i64 k) ∧ PrS w0 gl gd d' most L' A n c ls al' s N' w' ∧ ((al' = al ∧ N' = N ∧ (d.down = true ∧ (k = 9 ∨ k = 10) ∨ d.down = false ∧ k = 9)) ∨ (al' = al ++ [r] ∧ N' = N + 1 ∧ d.down = false ∧ (k = 0 ∨ k = 10)))) := by
  obtain ⟨X, F, G, h⟩ := h
  obtain ⟨Qd, Pl, P, g, Af, cf, hlg, hf⟩ := h.lg.lg
  refine Calls.mono (append_any Ar nr cr r hlg hf h.ps.known h.ps.lok ⟨hs.below h.lg.below, fun a ea hne hx => ?_⟩ hn) ?_
  · subst ea
    have := hs.block hne
    have := h.ox _ hx
    omega
  · intro e w' k
    have ha := h.ps.append r (by rw [hs.len]; exact hn) hN
    rcases ha with ⟨a1, a2, a3⟩ | ⟨a1, a2, a3⟩ | ⟨a1, a2, a3⟩
    · obtain ⟨he, hp⟩ := h.post k a3
      exact ⟨_, _, _, _, _, he, hp, .inl ⟨rfl, rfl, .inl ⟨a1, a2⟩⟩⟩
    · obtain ⟨he, hp⟩ := h.post k a3
      exact ⟨_, _, _, _, _, he, hp, .inl ⟨rfl, rfl, .inr ⟨a1, a2⟩⟩⟩
    · obtain ⟨he, hp⟩ := h.post k a3
      exact ⟨_, _, _, _, _, he, hp, .inr ⟨rfl, rfl, a1, a2⟩⟩
theorem PrS.large (h : PrS w0 gl gd d most L A n c ls al s N w) {Ar : Option Addr} {nr cr : Nat} (hn : 8192 < nr) : Calls Try.prog 10 #[.pointer (some ⟨gl, 0, none⟩), .slice Ar nr cr] w (fun e w' => e = .returned (.int .i64 4) ∧ w = w') := by
  obtain ⟨X, F, G, h⟩ := h
  obtain ⟨Qd, Pl, P, g, Af, cf, hlg, hf⟩ := h.lg.lg
  exact append_large Ar nr cr hlg hn
theorem PrS.downs (h : PrS w0 gl gd d most L A n c ls al s N w) : Calls Try.prog 9 #[.pointer (some ⟨gd, 0, none⟩)] w (fun e w' => e = .returned (.bool d.down) ∧ w = w') := by
  obtain ⟨X, F, G, h⟩ := h
  obtain ⟨Qd, Pl, P, g, Af, cf, hlg, hf⟩ := h.lg.lg
  exact down_any gd Qd d w hlg.dk
/-- Sync: all of it is fast, where the disk is up. -/
theorem PrS.sync (h : PrS w0 gl gd d most L A n c ls al s N w) :
    Calls Try.prog 11 #[.pointer (some ⟨gl, 0, none⟩)] w (fun e w' => (d.down = true ∧ e = .returned (.int .i64 10) ∧ w = w') ∨ (d.down = false ∧ e = .returned (.int .i64 0) ∧ ∃ d', d'.down = false ∧ PrS w0 gl gd d' most L A n c ls al al.length N w')) := by
  obtain ⟨X, F, G, h⟩ := h
  cases hd : d.down
  · obtain ⟨base, c0, h1, h2, h3, h4, h5, h6⟩ := h.ps.up hd
    refine Calls.mono (h.lg.sync h6) ?_
    rintro e w' ⟨d', k1, k2, k3, k4, k5⟩
    have hp := PSt.of_fast k1 h2 k4 h4
    rw [h3] at hp
    obtain ⟨he, hq⟩ := h.post k5 hp
    exact .inr ⟨rfl, he, d', k1.up, hq⟩
  · refine Calls.mono (lsync_down h.lg.lg hd) ?_
    rintro e w' ⟨he, hw⟩
    exact .inl ⟨rfl, he, hw⟩
theorem LgB.disk {B : Nat} {w0 w w' : World} {gl gd : Nat} {X F Qd' : Nat → Prop} {d d' : DiskD} {most : Int} {L : List FS} {v : Value} {e : Ending} (h : LgB B w0 w gl gd X F d most L) (k : ∀ Qd, Dk w gd Qd d → DkPost w gd Qd v d' e w') : LgPost w gl gd X F v d' most L e w' := by
  obtain ⟨Qd, Pl, P, g, Af, cf, hlg, hf⟩ := h.lg
  obtain ⟨he, Q', h1, h2, h3⟩ := k Qd hlg.dk
  refine ⟨he, _, (hlg.disk h1 h2 h3).upper ((hf.wide (F' := fun q => F q ∨ w.heap.size ≤ q) (fun q hq => .inl hq)).qd (fun q hq => (h3 q hq).imp (hf.d q) id)), h2.sub hf.d, fun q hq => ?_, fun q hq => .inl hq⟩
  rcases hq with h4 | h4
  · exact .inl h4
  · rcases h3 q h4 with h5 | h5
    · exact .inl (hlg.dx q h5)
    · exact .inr h5
theorem PrS.arm (h : PrS w0 gl gd d most L A n c ls al s N w) (m : Int) (hm : m ≤ 9223372036854775807) : Calls Try.prog 12 #[.pointer (some ⟨gd, 0, none⟩), .int .i64 m] w (fun e w' => e = .returned (.tuple #[]) ∧ PrS w0 gl gd (armD d m) most L A n c ls al s N w') := by
  obtain ⟨X, F, G, h⟩ := h
  obtain ⟨Qd, Pl, P, g, Af, cf, hlg, hf⟩ := h.lg.lg
  refine Calls.mono (arm_any m hm gd Qd d w hlg.dk) ?_
  intro e w' k
  obtain ⟨he, Q', h1, h2, h3⟩ := k
  have kp : LgPost w gl gd X F (.tuple #[]) (armD d m) most L e w' := by
    refine ⟨he, _, (hlg.disk h1 h2 h3).upper ((hf.wide (F' := fun q => F q ∨ w.heap.size ≤ q) (fun q hq => .inl hq)).qd (fun q hq => (h3 q hq).imp (hf.d q) id)), h2.sub hf.d, fun q hq => ?_, fun q hq => .inl hq⟩
    rcases hq with h4 | h4
    · exact .inl h4
    · rcases h3 q h4 with h5 | h5
      · exact .inl (hlg.dx q h5)
      · exact .inr h5
  exact h.post kp (h.ps.arm hm)
/-- Behind a crash, the log not opened yet: the row of records stands. -/
structure CrSt (w0 W : World) (gd : Nat) (Q G : Nat → Prop) (d : DiskD) (A : Option Addr) (n c : Nat) (ls : List (List UInt8)) : Prop where
  dk : DkB w0.heap.size w0 W gd Q d
  all : RecsT W (fun q => G q ∨ blockOf A = some q) A n c ls
  row : ∀ k, blockOf A = some k → ¬ G k ∧ w0.heap.size ≤ k
  qg : ∀ q, Q q → G q
  glt : ∀ q, G q → q < W.heap.size
  go : ∀ q, G q → w0.heap.size ≤ q
theorem PrS.crash (h : PrS w0 gl gd d most L A n c ls al s N w) (Ak : Option Addr) (nk ck : Nat) (keep : List Int) (hk : Row w0 Ak nk ck (intVals keep)) :
    Calls Try.prog 13 #[.pointer (some ⟨gd, 0, none⟩), .slice Ak nk ck] w (fun e w' => e = .returned (.tuple #[]) ∧ ∃ Q G, CrSt w0 w' gd Q G (crashD d keep) A n c ls) := by
  obtain ⟨X, F, G, h⟩ := h
  obtain ⟨Qd, Pl, P, g, Af, cf, hlg, hf⟩ := h.lg.lg
  have hB := h.lg.size
  refine Calls.mono (crash_any Ak nk ck keep gd Qd d w hlg.dk (hk.below h.lg.below) (fun a ea hne hq => ?_)) ?_
  · have := h.lg.own _ (hf.d _ hq)
    have h9 := row_block hk ea hne
    omega
  · intro e w' k
    obtain ⟨he, ⟨Q', k1, k2⟩, t⟩ := DkB.post ⟨hlg.dk, h.lg.below, fun q hq => h.lg.own q (hf.d q hq), h.lg.base⟩ k
    have t2 := t.sub (Q' := G) (fun q hq => h.fg q (hf.d q hq))
    refine ⟨he, Q', growF G w w', k1, (rows_more h.all).tn t2 (fun b hb hq => (h.row b hb).1 hq) (fun q hq => .inl (.inl (.inl hq))), fun b hb => ⟨fun hq => ?_, (h.row b hb).2⟩, fun q hq => ?_, growF_lt h.glt t.size, fun q hq => ?_⟩
    · rcases hq with h5 | h5
      · exact (h.row b hb).1 h5
      · have := h.all.blk_lt b hb; omega
    · rcases k2 q hq with h5 | h5
      · exact .inl (h.fg q (hf.d q h5))
      · exact .inr ⟨h5, k1.dk.qlt q hq⟩
    · rcases hq with h5 | h5
      · exact h.go q h5
      · omega
theorem CrSt.opens {Q : Nat → Prop} (h : CrSt w0 w gd Q G d A n c ls) (h64 : 64 ≤ most) (hmx : most ≤ 1048576) {base m : Nat} {C : Nat → List UInt8} (hd : DiskOk d base m C) {N : Nat} {s : Nat} (hp : PSt (openD d base m C) most (openL base m C) s N al) :
    Calls Try.prog 8 #[.pointer (some ⟨gd, 0, none⟩), .int .i64 most] w (fun e w' => ∃ gl, e = .returned (.tuple #[.pointer (some ⟨gl, 0, none⟩), .int .i64 0]) ∧ PrS w0 gl gd (openD d base m C) most (openL base m C) A n c ls al s N w') := by
  refine Calls.mono (open_any gd Q (fun q => blockOf A = some q) d most h64 hmx base m C w h.dk.dk hd (fun q hq => h.all.blk_lt q hq)) ?_
  intro e w' k
  obtain ⟨gl, he, ⟨X, l1, hx, hgx⟩, t⟩ := open_lgb h.dk k
  have hB := h.dk.size
  have t2 := t.sub (Q' := G) h.qg
  refine ⟨gl, he, X, _, growF G w w', l1, hp, (rows_more h.all).tn t2 (fun b hb hq => (h.row b hb).1 hq) (fun q hq => .inl (.inl (.inl hq))), fun b hb => ⟨fun hq => ?_, (h.row b hb).2⟩, fun q hq => hq.imp (h.qg q) id, growF_lt h.glt t.size, fun q hq => ?_, fun q hq => ?_, fun b hb => hgx b hb⟩
  · rcases hq with h5 | h5
    · exact (h.row b hb).1 h5
    · have := h.all.blk_lt b hb; omega
  · rcases hq with h5 | h5
    · exact h.go q h5
    · omega
  · rcases hx q hq with h5 | h5 | h5
    · exact h.go q (h.qg q h5)
    · exact (h.row q h5).2
    · omega
/-- A record's slice was appended to the row. -/
theorem PrSt.pushed {wl w2 : World} {A' : Option Addr} {c' : Nat} {Ar : Option Addr} {nr cr : Nat} {r : List UInt8} {vs : List Value} (h : PrSt w0 w gl gd X F G d most L A n c ls al s N) (hvl : vs.length = ls.length)
    (hv : ∀ i (hi : i < ls.length), ∃ A' n' c', vs[i]? = some (.slice A' n' c') ∧ SlN (fun q => G q ∨ blockOf A = some q) w A' n' c' ls[i]) (hs : Sl w0 Ar nr cr r) (b : Below w.heap.size w wl) (g : wl.grownBy w2 (blockOf A)) (hr : RowT 33 w2 A' (n + 1) c' (vs ++ [.slice Ar nr cr])) (ha : ∀ k, blockOf A' = some k → blockOf A = some k ∨ wl.heap.size ≤ k) :
    PrS w0 gl gd d most L A' (n + 1) c' (ls ++ [r]) al s N w2 := by
  have hB := h.lg.size
  have hsl := b.size
  have T : Tn (fun q => blockOf A = some q) w w2 := (Tn.of_below b).grown g (fun j hj => .inl hj)
  have hs2 := T.size
  have hlb := h.lg.beside T h.rx (fun q hq hq2 => (h.row q hq).1 (h.fg q hq2)) (fun q hq => (h.row q hq).2)
  have hno : ∀ G' : Nat → Prop, (∀ q, G' q → w0.heap.size ≤ q) → SlN G' w Ar nr cr r := fun G' hg => ⟨hs.below h.lg.below, fun a ea hne hq => by subst ea; have := hs.block hne; have := hg _ hq; omega⟩
  refine ⟨_, F, G, hlb, h.ps, ?_, fun k hk => ?_, h.fg, fun q hq => Nat.lt_of_lt_of_le (h.glt q hq) hs2, h.go, fun q hq => ?_, fun k hk => ?_⟩
  · have hG2 : ∀ q, (G q ∨ blockOf A = some q) → w0.heap.size ≤ q := fun q hq => by
      rcases hq with h5 | h5
      · exact h.go q h5
      · exact (h.row q h5).2
    have hX : ∀ q, (fun q => G q ∨ blockOf A = some q ∨ blockOf A' = some q) q → (G q ∨ blockOf A = some q) ∨ w.heap.size ≤ q := fun q hq => by
      rcases hq with hq | hq | hq
      · exact .inl (.inl hq)
      · exact .inl (.inr hq)
      · rcases ha q hq with h5 | h5
        · exact .inl (.inr h5)
        · right; omega
    have key : ∀ {A9 : Option Addr} {n9 c9 : Nat} {l : List UInt8}, SlN (fun q => G q ∨ blockOf A = some q) w A9 n9 c9 l → SlN (fun q => G q ∨ blockOf A' = some q) w2 A9 n9 c9 l := fun h9 =>
      ((h9.more hX).tn T (fun q hq => .inl (.inr (.inl hq)))).more (fun q hq => by
        rcases hq with hq | hq
        · exact .inl (.inl hq)
        · exact .inl (.inr (.inr hq)))
    refine RecsT.snoc hr hvl (fun i hi => ?_) (key (hno _ hG2))
    obtain ⟨A9, n9, c9, e, h9⟩ := hv i hi
    exact ⟨A9, n9, c9, e, key h9⟩
  · rcases ha k hk with h5 | h5
    · exact h.row k h5
    · exact ⟨fun hq => by have := h.glt k hq; omega, by omega⟩
  · rcases hq with h5 | h5
    · exact h.ox q h5
    · omega
  · rcases ha k hk with h5 | h5
    · exact .inl (h.rx k h5)
    · exact .inr ⟨by omega, hr.blk_lt k hk⟩
theorem PrS.records (h : PrS w0 gl gd d most L A n c ls al s N w) (hd : d.down = false) : Calls Try.prog 14 #[.pointer (some ⟨gl, 0, none⟩)] w (RecoPost w al) := by
  obtain ⟨X, F, G, h⟩ := h
  obtain ⟨base, c0, h1, h2, h3, h4, h5, h6⟩ := h.ps.up hd
  have := h.lg.records2 h6
  rwa [h3] at this
theorem PrS.firsts (h : PrS w0 gl gd d most L A n c ls al s N w) (hd : d.down = false) : Calls Try.prog 16 #[.pointer (some ⟨gl, 0, none⟩)] w (RetB w.heap.size w (.int .i64 0)) := by
  obtain ⟨X, F, G, h⟩ := h
  obtain ⟨base, c0, h1, h2, h3, h4, h5, h6⟩ := h.ps.up hd
  obtain ⟨Qd, Pl, P, g, Af, cf, hl, -⟩ := h.lg.lg
  have := firstL_any hl h6.known h6.lok.num (by rw [h4]; omega)
  rwa [h4] at this
theorem PrS.sls (h : PrS w0 gl gd d most L A n c ls al s N w) : Sls w A n c ls := by
  obtain ⟨X, F, G, h⟩ := h
  exact h.all.sls
theorem sls_upto {w : World} {A : Option Addr} {n c : Nat} {ls : List (List UInt8)} (h : Sls w A n c ls) (m : Nat) (hm : m ≤ n) : Sls w A m c (ls.take m) := by
  obtain ⟨vs, h1, h2⟩ := h.elems
  refine ⟨⟨vs.take m, h1.take m, ?_⟩, by rw [List.length_take, h.len]; omega, by have := h.cap; omega, h.max, h.nil⟩
  refine ⟨by rw [List.length_take, List.length_take, h2.1], fun i hi => ?_⟩
  rw [List.length_take] at hi
  obtain ⟨A', n', c', g1, g2, g3⟩ := h2.2 i (by omega)
  exact ⟨A', n', c', by rw [List.getElem?_take_of_lt (by omega)]; exact g1, by rw [List.getElem_take]; exact g2, by rw [List.getElem_take]; exact g3⟩
/-- The row of records is the log's own now. -/
theorem PrS.swap {A3 : Option Addr} {c3 : Nat} (h : PrS w0 gl gd d most L A n c ls al s N w) (b : Below w.heap.size w w') (ho : RecO w.heap.size w' A3 al.length c3 al) : PrS w0 gl gd d most L A3 al.length c3 al al s N w' := by
  obtain ⟨X, F, G, h⟩ := h
  obtain ⟨Qd, Pl, P, g, Af, cf, hl, hf⟩ := h.lg.lg
  have hB := h.lg.size
  have hg := hl.grow (X2 := fun q => X q ∨ blockOf A3 = some q) b (fun q hq => .inl hq) (fun q hq => by
    rcases hq with hq | hq
    · exact .inl hq
    · exact .inr ⟨ho.2 q hq, ho.1.blk_lt q hq⟩)
  have hlt := h.lg.later b
  refine ⟨_, F, G, ⟨⟨_, _, _, _, _, _, hg, hf⟩, hlt.below, hlt.own, hlt.base, hlt.flt⟩, h.ps, ho.1.more (fun q hq => ?_), fun k hk => ⟨fun hq => by have := h.glt k hq; have := ho.2 k hk; omega, by have := ho.2 k hk; omega⟩, h.fg, fun q hq => Nat.lt_of_lt_of_le (h.glt q hq) b.size, h.go, fun q hq => ?_, fun k hk => .inr hk⟩
  · rcases hq with hq | hq
    · exact .inl (.inl (h.glt q hq))
    · exact .inl (.inr hq)
  · rcases hq with hq | hq
    · exact h.ox q hq
    · have := ho.2 q hq; omega
theorem pr_new {Q : Nat → Prop} {e : Ending} (h : DkB w0.heap.size w0 w gd Q d) (k : OpenPost w gd Q (fun _ => False) d most L e w') (hp : PSt d most L s N al) : ∃ gl, e = .returned (.tuple #[.pointer (some ⟨gl, 0, none⟩), .int .i64 0]) ∧ PrS w0 gl gd d most L none 0 0 [] al s N w' := by
  obtain ⟨gl, he, ⟨X, l1, hx, -⟩, t⟩ := open_lgb h k
  have hB := h.size
  refine ⟨gl, he, X, _, _, l1, hp, RecsT.none _ _, (fun k hk => by cases hk), fun q hq => hq, l1.flt, l1.own, fun q hq => ?_, (fun k hk => by cases hk)⟩
  rcases hx q hq with h5 | h5 | h5
  · exact h.own q h5
  · exact h5.elim
  · omega
end
end Wl
end Go.Proofs.Ytbinmaamebdneaa

/-
  Operations on a disk that came in: what the shell's reading tells of them.
-/
namespace Go.Proofs.Ytbinmaamebdneaa
set_option linter.unusedSimpArgs false
set_option linter.unusedVariables false
open Go.RowKit Go.ChangeShapes Go.WideShapes Dsk
namespace Wl
set_option linter.unusedSimpArgs false
set_option linter.unusedVariables false
/-- An operation: its kind, its file, its number, its bytes, what it keeps. -/
structure OpD where
  kind : Int
  n : Int
  b : List UInt8
  keep : List Int
structure OpD.Wf (o : OpD) : Prop where
  n1 : -9223372036854775808 ≤ o.n
  n2 : o.n ≤ 9223372036854775807
structure OpAt (w : World) (g off : Nat) (o : OpD) (Ab : Option Addr) (cb : Nat) (Ak : Option Addr) (ck : Nat) : Prop where
  c0 : w.cell? ⟨g, off, none⟩ = some (.int .i64 o.kind)
  c1 : w.cell? ⟨g, off + 1, none⟩ = some (.int .i64 o.n)
  c2 : w.cell? ⟨g, off + 2, none⟩ = some (.slice Ab o.b.length cb)
  c3 : w.cell? ⟨g, off + 3, none⟩ = some (.slice Ak o.keep.length ck)
  sb : Sl w Ab o.b.length cb o.b
  sk : Row w Ak o.keep.length ck (intVals o.keep)
theorem OpAt.below {w w' : World} {g off : Nat} {o : OpD} {Ab : Option Addr} {cb : Nat} {Ak : Option Addr} {ck : Nat} (h : OpAt w g off o Ab cb Ak ck) (hb : Below w.heap.size w w') : OpAt w' g off o Ab cb Ak ck := by
  have hl := lt_of_cell h.c0
  have k : ∀ i, w'.cell? ⟨g, i, none⟩ = w.cell? ⟨g, i, none⟩ := fun i => hb.cell (p := ⟨g, i, none⟩) hl
  exact ⟨(k _).trans h.c0, (k _).trans h.c1, (k _).trans h.c2, (k _).trans h.c3, h.sb.below hb, h.sk.below hb⟩
structure OpRow (w : World) (A : Option Addr) (n c : Nat) (l : List OpD) : Prop where
  holds : l ≠ [] → ∃ g off, A = some ⟨g, off, none⟩ ∧ ∀ k (hk : k < l.length), ∃ Ab cb Ak ck, OpAt w g (off + k * 4) l[k] Ab cb Ak ck
  len : l.length = n
  cap : n ≤ c
  max : c ≤ 9223372036854775807
  nil : A = none → c = 0
theorem OpRow.below {w w' : World} {A : Option Addr} {n c : Nat} {l : List OpD} (h : OpRow w A n c l) (hb : Below w.heap.size w w') : OpRow w' A n c l := by
  refine ⟨fun hne => ?_, h.len, h.cap, h.max, h.nil⟩
  obtain ⟨g, off, e, hk⟩ := h.holds hne
  refine ⟨g, off, e, fun k hkl => ?_⟩
  obtain ⟨Ab, cb, Ak, ck, ho⟩ := hk k hkl
  exact ⟨Ab, cb, Ak, ck, ho.below hb⟩
theorem OpRow.at_ {w : World} {A : Option Addr} {n c : Nat} {l : List OpD} (h : OpRow w A n c l) {k : Nat} (hk : k < l.length) : ∃ g off Ab cb Ak ck, A = some ⟨g, off, none⟩ ∧ OpAt w g (off + k * 4) l[k] Ab cb Ak ck := by
  obtain ⟨g, off, e, h1⟩ := h.holds (by rintro rfl; simp at hk)
  obtain ⟨Ab, cb, Ak, ck, ho⟩ := h1 k hk
  exact ⟨g, off, Ab, cb, Ak, ck, e, ho⟩
/-- What operations that came in are known to be. -/
def OpsV (w : World) (v : Value) : Prop := ∃ A n c l, v = .slice A n c ∧ OpRow w A n c l ∧ ∀ o ∈ l, o.Wf
theorem cells_op : Try.prog.cellsOf 36 = 4 := by kernel_rfl
theorem cells_i : Try.prog.cellsOf 3 = 1 := by kernel_rfl
theorem cells_u8 : Try.prog.cellsOf 5 = 1 := by kernel_rfl
theorem cells_bs : Try.prog.cellsOf 33 = 1 := by kernel_rfl
theorem cells_is : Try.prog.cellsOf 34 = 1 := by kernel_rfl
theorem four_cells {cs : List Value} (h : cs.length = 4) : ∃ a b c d, cs = [a, b, c, d] := by
  match cs, h with
  | [a, b, c, d], _ => exact ⟨a, b, c, d, rfl⟩
section
variable {H : Type} {enc : TypeId × Value → H} {w : World} {base : Nat} {held : Bool} {fuel : Nat}
theorem bytes_field {cs : List Value} {x : DataW H × List MemPlace} (h : DataW.trod enc Try.prog w base (fun _ => true) held fuel 33 cs = some x) :
    ∃ A n c l, cs = [.slice A n c] ∧ Sl w A n c l := by
  rcases Go.Deep.open_slice1 Try.underlying33 cells_u8 h with ⟨hcs, _⟩ | ⟨a, len, cap, m, n, V, D, Pl, hcs, _, h1, h2, hm, _, h3⟩
  · exact ⟨_, _, _, [], hcs, Sl.none w⟩
  · simp only [if_true] at hm
    subst hm
    have hone : ∀ k, k < m → ∃ s : UInt8, w.cell? (a.add k) = some (.int .u8 (s.toNat : Int)) := fun k hk => by
      obtain ⟨g1, g2⟩ := h3 k hk
      obtain ⟨n0, e0, _, w0⟩ := DataW.trod_int Try.underlying5 g2
      obtain ⟨m0, rfl⟩ := byte_of w0
      injection e0 with e0
      exact ⟨m0, by rw [g1, e0]⟩
    obtain ⟨f, hf'⟩ := Go.Deep.choose_lt hone
    refine ⟨_, _, _, (List.range len).map f, hcs, ⟨fun hne => ?_, by simp, h1, by unfold maxLen at h2; omega, fun e => by cases e⟩⟩
    have hpos : 0 < len := by
      rcases Nat.eq_zero_or_pos len with e | e
      · subst e; exact absurd rfl hne
      · exact e
    obtain ⟨b, off, spot⟩ := a
    have h0 := hf' 0 (by omega)
    have hs : spot = none := by simpa [Addr.add] using World.cell?_spot h0
    subst hs
    refine ⟨b, off, rfl, fun k u hu => ?_⟩
    obtain ⟨hk, rfl⟩ := bytes_get_inv hu
    have hk' : k < len := by simpa using hk
    have h4 := hf' k (by omega)
    rw [add_plain] at h4
    rw [h4]
    simp
theorem ints_field {cs : List Value} {x : DataW H × List MemPlace} (h : DataW.trod enc Try.prog w base (fun _ => true) held fuel 34 cs = some x) :
    ∃ A n c l, cs = [.slice A n c] ∧ Row w A n c (intVals l) := by
  rcases Go.Deep.open_slice1 Try.underlying34 cells_i h with ⟨hcs, _⟩ | ⟨a, len, cap, m, n, V, D, Pl, hcs, _, h1, h2, hm, _, h3⟩
  · exact ⟨_, _, _, [], hcs, Row.none w⟩
  · simp only [if_true] at hm
    subst hm
    have hone : ∀ k, k < m → ∃ s : Int, w.cell? (a.add k) = some (.int .i64 s) := fun k hk => by
      obtain ⟨g1, g2⟩ := h3 k hk
      obtain ⟨n0, e0, _, w0⟩ := DataW.trod_int Try.underlying3 g2
      injection e0 with e0
      exact ⟨n0, by rw [g1, e0]⟩
    obtain ⟨f, hf'⟩ := Go.Deep.choose_lt hone
    refine ⟨_, _, _, (List.range len).map f, hcs, ⟨fun hne => ?_, by simp [intVals], h1, by unfold maxLen at h2; omega, fun e => by cases e⟩⟩
    have hpos : 0 < len := by
      rcases Nat.eq_zero_or_pos len with e | e
      · subst e; exact absurd rfl hne
      · exact e
    obtain ⟨b, off, spot⟩ := a
    have h0 := hf' 0 (by omega)
    have hs : spot = none := by simpa [Addr.add] using World.cell?_spot h0
    subst hs
    refine ⟨b, off, rfl, fun k u hu => ?_⟩
    have hk : k < len := by
      have := (List.getElem?_eq_some_iff.1 hu).1
      simpa [intVals] using this
    have h4 := hf' k (by omega)
    rw [add_plain] at h4
    rw [h4]
    simp [intVals, hk] at hu
    rw [← hu]
set_option maxRecDepth 100000 in
theorem op_cells {cs : List Value} {x : DataW H × List MemPlace} (h : DataW.trod enc Try.prog w base (fun _ => true) held fuel 36 cs = some x) :
    ∃ (o : OpD) (Ab : Option Addr) (cb : Nat) (Ak : Option Addr) (ck : Nat), o.Wf ∧ cs = [.int .i64 o.kind, .int .i64 o.n, .slice Ab o.b.length cb, .slice Ak o.keep.length ck] ∧ Sl w Ab o.b.length cb o.b ∧ Row w Ak o.keep.length ck (intVals o.keep) := by
  obtain ⟨xs, n, _, _, hlen, hxl, hf⟩ := DataW.trod_struct Try.underlying36 h
  rw [cells_op] at hlen
  obtain ⟨q0, q1, q2, q3, rfl⟩ := four_cells hlen
  have hxl' : xs.length = 4 := hxl
  have h0 : DataW.trod enc Try.prog w base (fun _ => true) held n 3 (([q0, q1, q2, q3].drop 0).take (Try.prog.cellsOf 3)) = xs[0]? := hf 0 _ rfl
  have h1 : DataW.trod enc Try.prog w base (fun _ => true) held n 3 (([q0, q1, q2, q3].drop 1).take (Try.prog.cellsOf 3)) = xs[1]? := hf 1 _ rfl
  have h2 : DataW.trod enc Try.prog w base (fun _ => true) held n 33 (([q0, q1, q2, q3].drop 2).take (Try.prog.cellsOf 33)) = xs[2]? := hf 2 _ rfl
  have h3 : DataW.trod enc Try.prog w base (fun _ => true) held n 34 (([q0, q1, q2, q3].drop 3).take (Try.prog.cellsOf 34)) = xs[3]? := hf 3 _ rfl
  clear hf
  rw [cells_i] at h0 h1
  rw [cells_bs] at h2
  rw [cells_is] at h3
  rw [List.getElem?_eq_getElem (by omega)] at h0 h1 h2 h3
  obtain ⟨n0, e0, _, w0⟩ := DataW.trod_int Try.underlying3 h0
  obtain ⟨n1, e1, _, w1⟩ := DataW.trod_int Try.underlying3 h1
  obtain ⟨A3, m3, c3, l3, e3, s3⟩ := bytes_field h2
  obtain ⟨A4, m4, c4, l4, e4, s4⟩ := ints_field h3
  have i1 : -9223372036854775808 ≤ n1 ∧ n1 ≤ 9223372036854775807 := by simpa [Lit.wf, IntKind.min, IntKind.max, IntKind.bits, IntKind.signed] using w1
  simp at e0 e1 e3 e4
  obtain rfl := s3.len
  have hl4 := s4.len
  rw [intVals_len] at hl4
  subst hl4
  exact ⟨⟨n0, n1, l3, l4⟩, A3, c3, A4, c4, ⟨i1.1, i1.2⟩, by rw [e0, e1, e3, e4], s3, s4⟩
set_option maxRecDepth 100000 in
theorem open_opsV {v : Value} {d : DataW H} {p : List MemPlace} {x : Reach} {r : Nat}
    (hv : Value.okWide Try.prog w x r 22 v) (h : DataW.Trod enc Try.prog w base (fun _ => true) held 22 v d p) : OpsV w v := by
  obtain ⟨a0, len0, cap0, rfl⟩ := okWide_slice Try.underlying22 hv
  obtain ⟨fuel, hf⟩ := h
  rcases Go.Deep.open_slice Try.underlying22 hf with ⟨hcs, _⟩ | ⟨a, len, cap, m, n, D, Pl, hcs, _, h1, h2, hm, _, h3⟩
  · simp [Value.cells] at hcs
    obtain ⟨rfl, rfl, rfl⟩ := hcs
    exact ⟨_, _, _, [], rfl, ⟨fun h => absurd rfl h, rfl, Nat.le_refl _, by omega, fun _ => rfl⟩, by simp⟩
  · simp [Value.cells] at hcs
    obtain ⟨rfl, rfl, rfl⟩ := hcs
    simp only [if_true] at hm
    subst hm
    have hone : ∀ k, k < m → ∃ o : OpD, o.Wf ∧ ∃ (Ab : Option Addr) (cb : Nat) (Ak : Option Addr) (ck : Nat), (∀ j u, ([.int .i64 o.kind, .int .i64 o.n, .slice Ab o.b.length cb, .slice Ak o.keep.length ck] : List Value)[j]? = some u → w.cell? ((a.add (k * 4)).add j) = some u) ∧ Sl w Ab o.b.length cb o.b ∧ Row w Ak o.keep.length ck (intVals o.keep) := fun k hk => by
      obtain ⟨cs', g1, g2⟩ := h3 k hk
      rw [cells_op] at g1
      obtain ⟨o, Ab, cb, Ak, ck, hw, e, s1, s2⟩ := op_cells g2
      obtain ⟨_, _, hat⟩ := World.cells?_some g1
      refine ⟨o, hw, Ab, cb, Ak, ck, fun j u hu => ?_, s1, s2⟩
      have hj : j < 4 := (List.getElem?_eq_some_iff.1 hu).1
      rw [hat j hj, e]
      exact hu
    haveI : Inhabited OpD := ⟨⟨0, 0, [], []⟩⟩
    obtain ⟨f, hf'⟩ := Go.Deep.choose_lt hone
    refine ⟨_, _, _, (List.range len0).map f, rfl, ⟨fun hne => ?_, by simp, h1, by unfold maxLen at h2; omega, fun e => by cases e⟩, ?_⟩
    · have hpos : 0 < len0 := by
        rcases Nat.eq_zero_or_pos len0 with e | e
        · subst e; exact absurd rfl hne
        · exact e
      obtain ⟨b, off, spot⟩ := a
      obtain ⟨_, _, _, _, _, h0, _⟩ := hf' 0 (by omega)
      have h0 := h0 0 _ rfl
      have hs : spot = none := by simpa [Addr.add] using World.cell?_spot h0
      subst hs
      refine ⟨b, off, rfl, fun k hk => ?_⟩
      have hk' : k < len0 := by simpa using hk
      rw [List.getElem_map, List.getElem_range]
      obtain ⟨_, Ab, cb, Ak, ck, hc, s1, s2⟩ := hf' k (by omega)
      have hc' : ∀ j u, ([.int .i64 (f k).kind, .int .i64 (f k).n, .slice Ab (f k).b.length cb, .slice Ak (f k).keep.length ck] : List Value)[j]? = some u → w.cell? ⟨b, off + k * 4 + j, none⟩ = some u := fun j u hu => by
        have := hc j u hu
        rwa [add_plain, add_plain] at this
      exact ⟨Ab, cb, Ak, ck, hc' 0 _ rfl, hc' 1 _ rfl, hc' 2 _ rfl, hc' 3 _ rfl, s1, s2⟩
    · intro s hs
      obtain ⟨k, hk, rfl⟩ := List.mem_map.1 hs
      exact (hf' k (by have := List.mem_range.1 hk; omega)).1
end
end Wl
end Go.Proofs.Ytbinmaamebdneaa

/-
  Are operations few, and their bytes?
-/
namespace Go.Proofs.Ytbinmaamebdneaa
set_option linter.unusedSimpArgs false
set_option linter.unusedVariables false
open Go.RowKit Dsk
namespace Wl
set_option linter.unusedSimpArgs false
set_option linter.unusedVariables false
/-- The bytes of the first k operations together. -/
def sumB : List OpD → Nat → Nat
  | [], _ => 0
  | _, 0 => 0
  | o :: l, k + 1 => o.b.length + sumB l k
theorem sumB_succ : ∀ (l : List OpD) (k : Nat) (hk : k < l.length), sumB l (k + 1) = sumB l k + l[k].b.length
  | [], k, hk => by simp at hk
  | o :: l, 0, _ => by cases l <;> simp [sumB]
  | o :: l, k + 1, hk => by
    have h := sumB_succ l k (by simpa using hk)
    rw [show sumB (o :: l) (k + 1 + 1) = o.b.length + sumB l (k + 1) from rfl, show sumB (o :: l) (k + 1) = o.b.length + sumB l k from rfl, h]
    simp
    omega
theorem sumB_zero (l : List OpD) : sumB l 0 = 0 := by cases l <;> rfl
theorem sumB_mono (l : List OpD) : ∀ (k n : Nat), k ≤ n → n ≤ l.length → sumB l k ≤ sumB l n := by
  intro k n h hn
  induction n with
  | zero => obtain rfl : k = 0 := by omega
            exact Nat.le_refl _
  | succ n ih =>
    by_cases e : k = n + 1
    · subst e; exact Nat.le_refl _
    · have := ih (by omega) (by omega)
      rw [sumB_succ l n (by omega)]
      omega
def lightO (l : List OpD) : Bool := decide (l.length ≤ 60) && (l.all (fun o => decide (o.b.length ≤ 9000)) && decide (sumB l l.length ≤ 30000))
theorem light_len {l : List OpD} (h : lightO l = true) : l.length ≤ 60 := by
  simp only [lightO, Bool.and_eq_true, decide_eq_true_eq] at h
  exact h.1
theorem light_each {l : List OpD} (h : lightO l = true) : ∀ o ∈ l, o.b.length ≤ 9000 := by
  simp only [lightO, Bool.and_eq_true, decide_eq_true_eq, List.all_eq_true] at h
  exact h.2.1
theorem light_no {l : List OpD} {k : Nat} (hk : k < l.length) (h : 9000 < l[k].b.length) : lightO l = false := by
  cases hl : lightO l
  · rfl
  · have := light_each hl l[k] (List.getElem_mem hk)
    omega
theorem light_end {l : List OpD} (h1 : l.length ≤ 60) (h : ∀ j (hj : j < l.length), l[j].b.length ≤ 9000) : lightO l = decide (sumB l l.length ≤ 30000) := by
  have e : l.all (fun o => decide (o.b.length ≤ 9000)) = true := by
    rw [List.all_eq_true]
    intro o ho
    obtain ⟨j, hj, rfl⟩ := List.getElem_of_mem ho
    simpa using h j hj
  simp [lightO, h1, e]
set_option maxRecDepth 100000 in
set_option maxHeartbeats 1000000 in
theorem light_any (A : Option Addr) (n c : Nat) (l : List OpD) (w : World) (h : OpRow w A n c l) : Calls Try.prog 5 #[.slice A n c] w (fun e w' => e = .returned (.bool (lightO l)) ∧ w = w') := by
  have hn := h.len
  have hcm := Nat.le_trans h.cap h.max
  have H := hid_ h
  clear h
  by_cases hbig : 60 < n
  · have e1 : decide ((n : Int) > 60) = true := decide_eq_true (by omega)
    have e2 : decide ((60 : Int) < (n : Int)) = true := decide_eq_true (by omega)
    have HL := hid_ (show lightO l = false by unfold lightO; rw [decide_eq_false (by omega)]; rfl)
    clear hn
    go_enter Try.func5, Try.ntmps5
    go_wp2
    go_ret
    exact ⟨by rw [HL.out]; rfl, rfl⟩
  · have e1 : decide ((n : Int) > 60) = false := decide_eq_false (by omega)
    have e2 : decide ((60 : Int) < (n : Int)) = false := decide_eq_false (by omega)
    have Hn := hid_ hn
    clear hn
    go_enter Try.func5, Try.ntmps5
    go_wp2
    go_loop [3, 4] (fun s i => ∃ (k z : Nat), k ≤ n ∧ i = .int .i64 (k : Nat) ∧ s = .int .i64 (z : Nat) ∧ z ≤ 600000 ∧ Hid (z = sumB l k) ∧ Hid (z ≤ 9000 * k) ∧ Hid (∀ j (hj : j < l.length), j < k → l[j].b.length ≤ 9000)) (fun _ i => n - (intOf i).toNat)
    case atStart => exact ⟨0, 0, Nat.zero_le _, rfl, rfl, by omega, hid_ (sumB_zero l).symm, hid_ (Nat.zero_le _), hid_ (fun j hj h => absurd h (Nat.not_lt_zero _))⟩
    case round =>
      obtain ⟨k, z, hk, rfl, rfl, hz, HZ, HZ2, HA⟩ := hrel
      by_cases hlt : k < n
      · have hkl : k < l.length := by have := Hn.out; omega
        have Hkl := hid_ hkl
        obtain ⟨g, off, Ab, cb, Ak, ck, rfl, ho⟩ := H.out.at_ hkl
        have c3 := ho.c2
        have Hstep := hid_ (sumB_succ l k hkl)
        have Hno := hid_ (fun h => light_no hkl h)
        generalize hm : l[k].b.length = m at *
        have Hm := hid_ hm
        clear ho hm hkl
        by_cases hm5 : 9000 < m
        · have e3 : decide ((m : Int) > 9000) = true := decide_eq_true (by omega)
          have e4 : decide ((9000 : Int) < (m : Int)) = true := decide_eq_true (by omega)
          have HL := hid_ (Hno.out hm5)
          go_wp2
          go_ret
          exact ⟨by rw [HL.out]; rfl, rfl⟩
        · have e3 : decide ((m : Int) > 9000) = false := decide_eq_false (by omega)
          have e4 : decide ((9000 : Int) < (m : Int)) = false := decide_eq_false (by omega)
          go_wp2
          go_round
          case rel =>
            refine ⟨k + 1, z + m, by omega, by go_num, by go_num, by have := HZ2.out; omega, hid_ (by rw [Hstep.out, HZ.out]), hid_ (by have := HZ2.out; omega), hid_ (fun j hj h => ?_)⟩
            by_cases e : j = k
            · subst e; exact Nat.le_trans (Nat.le_of_eq Hm.out) (by omega)
            · exact HA.out j hj (by omega)
          case measure => simp [intOf]; omega
      · obtain rfl : k = n := by omega
        have HL := hid_ (show lightO l = decide (z ≤ 30000) by
          rw [light_end (by have := Hn.out; omega) (fun j hj => HA.out j hj (by have := Hn.out; omega)), HZ.out, Hn.out])
        by_cases hz2 : z ≤ 30000
        · have e5 : decide ((z : Int) ≤ 30000) = true := decide_eq_true (by omega)
          have HL2 := hid_ (show lightO l = true by rw [HL.out, decide_eq_true hz2])
          go_wp2
          go_ret
          exact ⟨by rw [HL2.out]; rfl, rfl⟩
        · have e5 : decide ((z : Int) ≤ 30000) = false := decide_eq_false (by omega)
          have HL2 := hid_ (show lightO l = false by rw [HL.out, decide_eq_false hz2])
          go_wp2
          go_ret
          exact ⟨by rw [HL2.out]; rfl, rfl⟩
end Wl
end Go.Proofs.Ytbinmaamebdneaa
