/-
  The reference's Decode: where its walks stand, and what they answer.
-/
import Derived.Test.YtnpbokbfkdncmaaGreatZFrameRef
import Derived.Test.YtnpbokbfkdncmaaGreatZGM
import Derived.Test.YtnpbokbfkdncmaaGreatZGRR
import Derived.Test.YtnpbokbfkdncmaaGreatZRefPack
namespace Go.Proofs.YtnpbokbfkdncmaaGreat
set_option linter.unusedSimpArgs false
set_option linter.unusedVariables false
open Go.RowKit Ru Fm
/-- Where the reference's Decode stands: its reader in block gr, its packet in gp. -/
structure Rs (w : World) (gr gp : Nat) (W : World) (s : List UInt8 × Bool) (P : PackD) (S : PackS) : Prop where
  rd : Rr W gr (fun q => q = w.heap.size ∨ q = gp) s
  res : Whole W w.heap.size 30 (packCells zeroP ⟨none, 0, none, 0, none, 0⟩)
  pk : Whole W gp 30 (packCells P S)
  below : Below w.heap.size w W
  o1 : w.heap.size < gr
  o2 : gr < gp
theorem Rs.call {w W W' : World} {gr gp : Nat} {s s' : List UInt8 × Bool} {P : PackD} {S : PackS} (t : Rs w gr gp W s P S) (hg : W.grownBy W' (some gr)) (hr : Rr W' gr (fun q => q = w.heap.size ∨ q = gp) s') : Rs w gr gp W' s' P S := by
  have h1 := t.o1
  have h2 := t.o2
  have h4 := t.rd.lt
  exact ⟨hr, t.res.grown hg (by intro e; injection e with e; omega), t.pk.grown hg (by intro e; injection e with e; omega),
    below_grown_ t.below hg (by omega) (by omega), h1, h2⟩
theorem Rs.set {w W : World} {gr gp : Nat} {s : List UInt8 × Bool} {P : PackD} {S : PackS} (t : Rs w gr gp W s P S) (P' : PackD) (S' : PackS) (i : Nat) (v : Value) (hc : (packCells P S).setIfInBounds i v = packCells P' S') : Rs w gr gp (W.setCell ⟨gp, i, none⟩ v) s P' S' := by
  have h1 := t.o1
  have h2 := t.o2
  exact ⟨t.rd.store (.inr rfl) (by omega) i v, t.res.far (by show _ ≠ gp; omega) v, hc ▸ t.pk.store i v, t.below.setCell (p := ⟨gp, i, none⟩) (by show _ ≤ gp; omega) v, h1, h2⟩
theorem Rs.set2 {w W : World} {gr gp : Nat} {s : List UInt8 × Bool} {P : PackD} {S : PackS} (t : Rs w gr gp W s P S) (P' : PackD) (S' : PackS) (i j : Nat) (v u : Value) (hc : ((packCells P S).setIfInBounds i v).setIfInBounds j u = packCells P' S') : Rs w gr gp ((W.setCell ⟨gp, i, none⟩ v).setCell ⟨gp, j, none⟩ u) s P' S' := by
  have h1 := t.o1
  have h2 := t.o2
  exact ⟨(t.rd.store (.inr rfl) (by omega) i v).store (.inr rfl) (by omega) j u, (t.res.far (by show _ ≠ gp; omega) v).far (by show _ ≠ gp; omega) u, hc ▸ (t.pk.store i v).store j u, (t.below.setCell (p := ⟨gp, i, none⟩) (by show _ ≤ gp; omega) v).setCell (p := ⟨gp, j, none⟩) (by show _ ≤ gp; omega) u, h1, h2⟩
def endF (d r : List UInt8) : Int × PackD := if (sreadF d).2 = ([], false) ∧ r = [] ∧ rightP (sreadF d).1 = true then (0, (sreadF d).1) else (6, zeroP)
def RDPost (w : World) (d r : List UInt8) (e : Ending) (w' : World) : Prop := ∃ s, e = .returned (.tuple #[packVal (endF d r).2 s, .int .i64 (endF d r).1]) ∧ PackIn w' (endF d r).2 s ∧ Below w.heap.size w w'
theorem rd_good {w w' : World} {d r : List UInt8} {P : PackD} {s : PackS} (h : sreadF d = (P, ([], false))) (hr : r = []) (hp : rightP P = true) (hi : PackIn w' P s) (hb : Below w.heap.size w w') : RDPost w d r (.returned (.tuple #[packVal P s, .int .i64 0])) w' := by
  have e : endF d r = (0, P) := by
    unfold endF
    rw [h, if_pos ⟨rfl, hr, hp⟩]
  exact ⟨s, by rw [e], by rw [e]; exact hi, hb⟩
theorem rd_bad {w w' : World} {d r : List UInt8} {P : PackD} {s : List UInt8 × Bool} (h : sreadF d = (P, s)) (hn : ¬ (s = ([], false) ∧ r = [] ∧ rightP P = true)) (hb : Below w.heap.size w w') : RDPost w d r (.returned (.tuple #[packVal zeroP ⟨none, 0, none, 0, none, 0⟩, .int .i64 6])) w' := by
  have e : endF d r = (6, zeroP) := by
    unfold endF
    rw [h, if_neg hn]
  exact ⟨⟨none, 0, none, 0, none, 0⟩, by rw [e], by rw [e]; exact packIn_none _ _ rfl rfl rfl, hb⟩
theorem spanS_wf : ∀ (n : Nat) (s : List UInt8 × Bool), ∀ x ∈ (spanS n s).1, x.Wf
  | 0, s, x, h => by cases h
  | n + 1, s, x, h => by
    unfold spanS at h
    split at h
    · cases h
    · rcases List.mem_cons.1 h with rfl | h
      · exact cutSpan_wf _
      · exact spanS_wf n _ x h
theorem memS_wf : ∀ (n : Nat) (s : List UInt8 × Bool), ∀ x ∈ (memS n s).1, x.Wf
  | 0, s, x, h => by cases h
  | n + 1, s, x, h => by
    unfold memS at h
    split at h
    · cases h
    · rcases List.mem_cons.1 h with rfl | h
      · exact memAt_wf _
      · exact memS_wf n _ x h
theorem idS_wf : ∀ (n : Nat) (s : List UInt8 × Bool), ∀ x ∈ (idS n s).1, x < 18446744073709551616
  | 0, s, x, h => by cases h
  | n + 1, s, x, h => by
    unfold idS at h
    split at h
    · cases h
    · rcases List.mem_cons.1 h with rfl | h
      · exact numB_lt _ 8
      · exact idS_wf n _ x h
theorem sreadF_wf (d : List UInt8) : (sreadF d).1.Wf := by
  unfold sreadF
  dsimp only
  refine ⟨?_, numB_if _ _, numB_if _ _, numB_if _ _, numB_if _ _, ?_, ?_, ?_⟩
  · dsimp only; split
    · omega
    · exact numB_lt _ 8
  · dsimp only; unfold spL; split
    · exact spanS_wf _ _
    · intro s h; cases h
  · dsimp only; unfold meL; split
    · exact memS_wf _ _
    · intro s h; cases h
  · dsimp only; unfold idL; split
    · exact idS_wf _ _
    · intro s h; cases h
theorem rr_start {w w1 : World} {A A1 : Option Addr} {n1 c1 n c : Nat} {b d : List UInt8} (hs : Sl w A n c b) (hb : b ≠ []) (h1 : Sl w1 A1 n1 c1 d) (i1 : Fr.Within A1 A) (hlt : w.heap.size < w1.heap.size) : Rr (w1.alloc (.cells #[.slice A1 n1 c1, .bool false] 57)) w1.heap.size (fun q => q = w.heap.size) (d, false) := by
  refine ⟨A1, n1, c1, whole_new _ _ _, h1.below ((Below.refl _ _).alloc (Nat.le_refl _) _), fun a e hne => ?_⟩
  obtain ⟨a0, rfl, e'⟩ := i1 a e
  have := hs.block hb
  exact ⟨by omega, by show a.block ≠ w.heap.size; omega⟩
theorem b_ne {b d r : List UInt8} (h : cutF b = (0, d, r)) : b ≠ [] := by
  rw [← cut_back h]
  exact framed_ne d r
end Go.Proofs.YtnpbokbfkdncmaaGreat
