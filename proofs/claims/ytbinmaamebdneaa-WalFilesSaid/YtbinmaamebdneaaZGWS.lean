/-
  Two logs beside each other, each on a disk of its own.
-/
import Derived.Test.YtbinmaamebdneaaZGWP
import Derived.Test.YtbinmaamebdneaaZSame
namespace Go.Proofs.Ytbinmaamebdneaa
set_option linter.unusedSimpArgs false
set_option linter.unusedVariables false
open Go.RowKit Fm Dsk
namespace Wl
set_option linter.unusedSimpArgs false
set_option linter.unusedVariables false
structure DuoL (B : Nat) (w0 w : World) (gl1 gd1 : Nat) (X1 F1 : Nat → Prop) (d1 : DiskD) (m1 : Int) (L1 : List FS) (gl2 gd2 : Nat) (X2 F2 : Nat → Prop) (d2 : DiskD) (m2 : Int) (L2 : List FS) : Prop where
  l1 : LgB B w0 w gl1 gd1 X1 F1 d1 m1 L1
  l2 : LgB B w0 w gl2 gd2 X2 F2 d2 m2 L2
  x1 : ∀ q, F2 q → X1 q
  x2 : ∀ q, F1 q → X2 q
  f : ∀ q, F1 q → ¬ F2 q
  o1 : ∀ q, X1 q → B ≤ q
  o2 : ∀ q, X2 q → B ≤ q
section
variable {B : Nat} {w0 w w' : World} {gl1 gd1 gl2 gd2 : Nat} {X1 F1 X2 F2 : Nat → Prop} {d1 d2 d' : DiskD} {m1 m2 : Int} {L1 L2 L' : List FS}
theorem DuoL.swap (h : DuoL B w0 w gl1 gd1 X1 F1 d1 m1 L1 gl2 gd2 X2 F2 d2 m2 L2) : DuoL B w0 w gl2 gd2 X2 F2 d2 m2 L2 gl1 gd1 X1 F1 d1 m1 L1 := ⟨h.l2, h.l1, h.x2, h.x1, fun q h1 h2 => h.f q h2 h1, h.o2, h.o1⟩
theorem DuoL.later (h : DuoL B w0 w gl1 gd1 X1 F1 d1 m1 L1 gl2 gd2 X2 F2 d2 m2 L2) (k : Below w.heap.size w w') : DuoL B w0 w' gl1 gd1 X1 F1 d1 m1 L1 gl2 gd2 X2 F2 d2 m2 L2 := ⟨h.l1.later k, h.l2.later k, h.x1, h.x2, h.f, h.o1, h.o2⟩
theorem DuoL.post1 {v : Value} {e : Ending} (h : DuoL B w0 w gl1 gd1 X1 F1 d1 m1 L1 gl2 gd2 X2 F2 d2 m2 L2) (k : LgPost w gl1 gd1 X1 F1 v d' m1 L' e w') : e = .returned v ∧ ∃ X1' F1' X2', DuoL B w0 w' gl1 gd1 X1' F1' d' m1 L' gl2 gd2 X2' F2 d2 m2 L2 := by
  obtain ⟨he, ⟨X1', h1, h2, h3⟩, t⟩ := h.l1.post k
  have hB := h.l1.size
  refine ⟨he, X1', _, _, h1, h.l2.beside t h.x2 h.f h.l1.own, fun q hq => h3 q (h.x1 q hq), fun q hq => ?_, fun q hq hq2 => ?_, fun q hq => ?_, fun q hq => ?_⟩
  · rcases hq with h5 | h5
    · exact .inl (h.x2 q h5)
    · exact .inr h5
  · rcases hq with h5 | h5
    · exact h.f q h5 hq2
    · have := h.l2.flt q hq2; omega
  · rcases h2 q hq with h5 | h5
    · exact h.o1 q h5
    · omega
  · rcases hq with h5 | h5
    · exact h.o2 q h5
    · omega
theorem DuoL.post2 {v : Value} {e : Ending} (h : DuoL B w0 w gl1 gd1 X1 F1 d1 m1 L1 gl2 gd2 X2 F2 d2 m2 L2) (k : LgPost w gl2 gd2 X2 F2 v d' m2 L' e w') : e = .returned v ∧ ∃ X2' F2' X1', DuoL B w0 w' gl1 gd1 X1' F1 d1 m1 L1 gl2 gd2 X2' F2' d' m2 L' := by
  obtain ⟨he, X2', F2', X1', h1⟩ := h.swap.post1 k
  exact ⟨he, X2', F2', X1', h1.swap⟩
/-- A log was opened beside a disk, and another one on that. -/
theorem duo_open {Q1 Q2 : Nat → Prop} {e1 : Ending} {wm : World} (h1 : DkB B w0 w gd1 Q1 d1) (h2 : DkB B w0 w gd2 Q2 d2) (hq : ∀ q, Q1 q → ¬ Q2 q) (k1 : OpenPost w gd1 Q1 Q2 d1 m1 L1 e1 wm) :
    ∃ gl1, e1 = .returned (.tuple #[.pointer (some ⟨gl1, 0, none⟩), .int .i64 0]) ∧ ∃ X1 F1, LgB B w0 wm gl1 gd1 X1 F1 d1 m1 L1 ∧ DkB B w0 wm gd2 Q2 d2 ∧ (∀ q, F1 q → q < wm.heap.size) ∧
      ∀ (e2 : Ending) (w' : World), OpenPost wm gd2 Q2 F1 d2 m2 L2 e2 w' → ∃ gl2, e2 = .returned (.tuple #[.pointer (some ⟨gl2, 0, none⟩), .int .i64 0]) ∧ ∃ X1 F1 X2 F2, DuoL B w0 w' gl1 gd1 X1 F1 d1 m1 L1 gl2 gd2 X2 F2 d2 m2 L2 := by
  obtain ⟨gl1, he, ⟨X1, l1, hx, hg⟩, t⟩ := open_lgb h1 k1
  have hB := h1.size
  have hd2 : DkB B w0 wm gd2 Q2 d2 := ⟨h2.dk.tn t (fun q a b => hq q b a), l1.below, h2.own, h2.base⟩
  refine ⟨gl1, he, X1, _, l1, hd2, l1.flt, ?_⟩
  intro e2 w' k2
  obtain ⟨gl2, he2, ⟨X2, l2, hx2, hg2⟩, t2⟩ := open_lgb hd2 k2
  have hs := t.size
  have hno : ∀ q, Q2 q → ¬ growF Q1 w wm q := fun q h3 h4 => by
    rcases h4 with h5 | h5
    · exact hq q h5 h3
    · have := h2.dk.qlt q h3; omega
  have ho1 : ∀ q, growF X1 wm w' q → B ≤ q := fun q h3 => by
    rcases h3 with h3 | h3
    · rcases hx q h3 with h4 | h4 | h4
      · exact h1.own q h4
      · exact h2.own q h4
      · omega
    · omega
  refine ⟨gl2, he2, _, _, X2, _, ⟨l1.beside t2 hg hno h2.own, l2, fun q h3 => ?_, hg2, fun q h3 h4 => ?_, ho1, fun q h3 => ?_⟩⟩
  · rcases h3 with h4 | h4
    · exact .inl (hg q h4)
    · exact .inr h4
  · rcases h4 with h5 | h5
    · exact hno q h5 h3
    · have := l1.flt q h3; omega
  · rcases hx2 q h3 with h4 | h4 | h4
    · exact h2.own q h4
    · exact l1.own q h4
    · omega
end
end Wl
end Go.Proofs.Ytbinmaamebdneaa

/-
  What WalFiles wants: an append that comes, or finds no number left; two logs that are appended to.
-/
namespace Go.Proofs.Ytbinmaamebdneaa
set_option linter.unusedSimpArgs false
set_option linter.unusedVariables false
open Go.RowKit Fm Dsk
namespace Wl
set_option linter.unusedSimpArgs false
set_option linter.unusedVariables false
theorem LogOk.append2 {d : DiskD} {most : Int} {base N U : Nat} {L : List FS} (h : LogOk d most base L N U) (h0 : L = [] → base = 0) (ha : d.armed = false) (r : List UInt8) (hr : r.length ≤ 8192) (hN : N < 1000000) (hroom : U + r.length + 24 ≤ d.room) :
    appendL d most L r = (9, d, L) ∨ AppOk d most base L N U r (appendL d most L r).1 (appendL d most L r).2.1 (appendL d most L r).2.2 := by
  rcases h.append h0 ha r hr hN with ⟨h9, h1 | h1⟩ | h1
  · left
    rcases hl : L.getLast? with _ | f
    · have := List.getLast?_eq_none_iff.1 hl
      rw [this] at h1
      simp at h1
    · unfold appendL at h9 ⊢
      rw [hl] at h9 ⊢
      simp only at h9 ⊢
      by_cases hm : most ≤ (f.all.length : Int)
      · rw [if_pos hm]
        unfold beginL
        rw [if_pos h1]
      · rw [if_neg hm] at h9
        simp only at h9
        have hlt : L.length - 1 < L.length := by omega
        have hnum := h.num _ hlt
        have e : L[L.length - 1] = f := by
          rw [List.getLast?_eq_getElem?] at hl
          exact (List.getElem?_eq_some_iff.1 hl).2
        rw [e] at hnum
        rw [hnum] at h9
        have hfl := framed_length r
        have hu := h.used
        rcases app_cases h.up ha (rg_lt base (L.length - 1)) (framed r) with ⟨-, e2, -⟩ | ⟨e1, -, -⟩
        · omega
        · rw [e1] at h9; cases h9
  · omega
  · exact .inr h1
/-- What an append made of a log in a law's hands, of which i records are known to be there. -/
structure LogI (ls : List (List UInt8)) (m : Int) (d : DiskD) (L : List FS) (i : Nat) : Prop where
  ok : LogOk d m 0 L i (i * 524)
  arm : d.armed = false
  room : d.room = 1048576
  recs : recsL L = ls.take i
theorem LogI.append {ls : List (List UInt8)} {m : Int} {d : DiskD} {L : List FS} {i : Nat} (h : LogI ls m d L i) (hi : i < ls.length) (h100 : ls.length ≤ 100) (hr : ls[i].length ≤ 500) :
    appendL d m L ls[i] = (9, d, L) ∨ ((appendL d m L ls[i]).1 = 0 ∧ LogI ls m (appendL d m L ls[i]).2.1 (appendL d m L ls[i]).2.2 (i + 1)) := by
  rcases h.ok.append2 (fun _ => rfl) h.arm ls[i] (by omega) (by omega) (by rw [h.room]; omega) with h1 | h1
  · exact .inl h1
  · exact .inr ⟨h1.k0, h1.ok.mono (by omega), h1.arm, by rw [h1.room, h.room], by rw [h1.recs, h.recs]; exact (List.take_succ_eq_append_getElem hi).symm⟩
theorem LgB.files {B : Nat} {w0 w : World} {gl gd : Nat} {X F : Nat → Prop} {d : DiskD} {most : Int} {L : List FS} {base N U : Nat} (h : LgB B w0 w gl gd X F d most L) (ok : LogOk d most base L N U) : Calls Try.prog 17 #[.pointer (some ⟨gl, 0, none⟩)] w (RetB w.heap.size w (.int .i64 (L.length : Nat))) := by
  obtain ⟨Qd, Pl, P, g, Af, cf, hl, -⟩ := h.lg
  exact filesL_any hl ok.known ok.lok.num
def Duo2 (B : Nat) (w0 : World) (gl1 gd1 : Nat) (d1 : DiskD) (m1 : Int) (L1 : List FS) (gl2 gd2 : Nat) (d2 : DiskD) (m2 : Int) (L2 : List FS) (W : World) : Prop := ∃ X1 F1 X2 F2, DuoL B w0 W gl1 gd1 X1 F1 d1 m1 L1 gl2 gd2 X2 F2 d2 m2 L2
section
variable {B : Nat} {w0 w w' : World} {gl1 gd1 gl2 gd2 : Nat} {d1 d2 d' : DiskD} {m1 m2 : Int} {L1 L2 L' : List FS}
theorem Duo2.later (h : Duo2 B w0 gl1 gd1 d1 m1 L1 gl2 gd2 d2 m2 L2 w) (k : Below w.heap.size w w') : Duo2 B w0 gl1 gd1 d1 m1 L1 gl2 gd2 d2 m2 L2 w' := by
  obtain ⟨X1, F1, X2, F2, h⟩ := h
  exact ⟨X1, F1, X2, F2, h.later k⟩
theorem Duo2.below (h : Duo2 B w0 gl1 gd1 d1 m1 L1 gl2 gd2 d2 m2 L2 w) : Below B w0 w := by
  obtain ⟨X1, F1, X2, F2, h⟩ := h
  exact h.l1.below
theorem Duo2.size (h : Duo2 B w0 gl1 gd1 d1 m1 L1 gl2 gd2 d2 m2 L2 w) : B ≤ w.heap.size := by
  obtain ⟨X1, F1, X2, F2, h⟩ := h
  exact h.l1.size
theorem Duo2.app1 {N U : Nat} (h : Duo2 w0.heap.size w0 gl1 gd1 d1 m1 L1 gl2 gd2 d2 m2 L2 w) (ok : LogOk d1 m1 0 L1 N U) {Ar : Option Addr} {nr cr : Nat} {r : List UInt8} (hs : Sl w0 Ar nr cr r) (hn : nr ≤ 8192) :
    Calls Try.prog 10 #[.pointer (some ⟨gl1, 0, none⟩), .slice Ar nr cr] w (fun e w' => e = .returned (.int .i64 (appendL d1 m1 L1 r).1) ∧ Duo2 w0.heap.size w0 gl1 gd1 (appendL d1 m1 L1 r).2.1 m1 (appendL d1 m1 L1 r).2.2 gl2 gd2 d2 m2 L2 w') := by
  obtain ⟨X1, F1, X2, F2, h⟩ := h
  refine Calls.mono (h.l1.append ok Ar nr cr r ⟨?_, fun a ea hne hx => ?_⟩ hn) ?_
  · exact hs.below h.l1.below
  · subst ea
    have := hs.block hne
    have := h.o1 _ hx
    omega
  · intro e w' k
    obtain ⟨he, X1', F1', X2', k2⟩ := h.post1 k
    exact ⟨he, X1', F1', X2', F2, k2⟩
theorem Duo2.app2 {N U : Nat} (h : Duo2 w0.heap.size w0 gl1 gd1 d1 m1 L1 gl2 gd2 d2 m2 L2 w) (ok : LogOk d2 m2 0 L2 N U) {Ar : Option Addr} {nr cr : Nat} {r : List UInt8} (hs : Sl w0 Ar nr cr r) (hn : nr ≤ 8192) :
    Calls Try.prog 10 #[.pointer (some ⟨gl2, 0, none⟩), .slice Ar nr cr] w (fun e w' => e = .returned (.int .i64 (appendL d2 m2 L2 r).1) ∧ Duo2 w0.heap.size w0 gl1 gd1 d1 m1 L1 gl2 gd2 (appendL d2 m2 L2 r).2.1 m2 (appendL d2 m2 L2 r).2.2 w') := by
  obtain ⟨X1, F1, X2, F2, h⟩ := h
  refine Calls.mono (h.l2.append ok Ar nr cr r ⟨?_, fun a ea hne hx => ?_⟩ hn) ?_
  · exact hs.below h.l1.below
  · subst ea
    have := hs.block hne
    have := h.o2 _ hx
    omega
  · intro e w' k
    obtain ⟨he, X1', F1', X2', k2⟩ := h.post2 k
    exact ⟨he, X2', F1, X1', F1', k2⟩
theorem Duo2.files1 {N U : Nat} (h : Duo2 B w0 gl1 gd1 d1 m1 L1 gl2 gd2 d2 m2 L2 w) (ok : LogOk d1 m1 0 L1 N U) : Calls Try.prog 17 #[.pointer (some ⟨gl1, 0, none⟩)] w (RetB w.heap.size w (.int .i64 (L1.length : Nat))) := by
  obtain ⟨X1, F1, X2, F2, h⟩ := h
  exact h.l1.files ok
theorem Duo2.files2 {N U : Nat} (h : Duo2 B w0 gl1 gd1 d1 m1 L1 gl2 gd2 d2 m2 L2 w) (ok : LogOk d2 m2 0 L2 N U) : Calls Try.prog 17 #[.pointer (some ⟨gl2, 0, none⟩)] w (RetB w.heap.size w (.int .i64 (L2.length : Nat))) := by
  obtain ⟨X1, F1, X2, F2, h⟩ := h
  exact h.l2.files ok
theorem Duo2.recs1 {N U : Nat} (h : Duo2 B w0 gl1 gd1 d1 m1 L1 gl2 gd2 d2 m2 L2 w) (ok : LogOk d1 m1 0 L1 N U) : Calls Try.prog 14 #[.pointer (some ⟨gl1, 0, none⟩)] w (RecsPost w (recsL L1)) := by
  obtain ⟨X1, F1, X2, F2, h⟩ := h
  exact h.l1.records ok
theorem Duo2.recs2 {N U : Nat} (h : Duo2 B w0 gl1 gd1 d1 m1 L1 gl2 gd2 d2 m2 L2 w) (ok : LogOk d2 m2 0 L2 N U) : Calls Try.prog 14 #[.pointer (some ⟨gl2, 0, none⟩)] w (RecsPost w (recsL L2)) := by
  obtain ⟨X1, F1, X2, F2, h⟩ := h
  exact h.l2.records ok
end
end Wl
end Go.Proofs.Ytbinmaamebdneaa
