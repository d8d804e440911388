/-
  Texts: their bytes, and appending them to a row of bytes of the call's own.
-/
import Derived.Test.YtbinmaamebdneaaZGWA
import Derived.Lib.AppendStr
import Derived.Lib.SlBytesRow
import Derived.Laws.BytesArg
namespace Go.Proofs.Ytbinmaamebdneaa
open Go.RowKit

/-- A text's bytes. -/
def strB (s : ByteArray) : List UInt8 := s.data.toList
theorem strB_length (s : ByteArray) : (strB s).length = s.size := by unfold strB; rw [Array.length_toList]; rfl
theorem strB_cells (s : ByteArray) : Lib.strCells s = bytes (strB s) := rfl

/-- append(b, s...), s a text. -/
theorem wpList_string {w : World} {ops : Array Oper} {rest : List Oper} {o : Oper} {a : Act} {Q : Exit → Act → World → Prop} (hgd : Region.wanted o (yielded ops a.tmps) = true) (v x : Operand)
    (ho : o.op = .call { callee := .builtin .append, args := #[v, x], argTypes := #[33, 9] })
    (B : Nat) (A0 : Option Addr) (n0 c0 : Nat) (l0 : List UInt8) (hs : a.eval v = .slice A0 n0 c0) (hown : Own B w A0 n0 c0 l0)
    (s : ByteArray) (hx : a.eval x = .string s)
    (N : Nat) (ys : List UInt8) (hN : n0 + s.size = N) (hys : l0 ++ strB s = ys) (hroom : N ≤ 140737488355328) (hB : B ≤ w.heap.size)
    (h : ∀ A' c' w', Own B w' A' N c' ys → Below B w w' → wpList Try.prog ops Q rest (a.put o.dst (.slice A' N c')) w') :
    wpList Try.prog ops Q (o :: rest) a w := by
  subst hys hN
  obtain ⟨i0, hi0, hz0, hz1, hz2⟩ := info_parts info_u8
  obtain ⟨v', w', hrun, h2, h3, _⟩ := Lib.run_append_own_string (P := Try.prog) w B 33 9 o.type 5 i0 Try.underlying33 Try.underlying9 hi0 hz0 hz1 hz2 (.slice A0 n0 c0) n0 (bytes l0) hown s (by unfold maxLen; omega) hroom hB
  obtain ⟨A', c', rfl, _⟩ := own_form h2
  rw [strB_cells, ← bytes_append] at h2
  refine wpList_step fun K hK => ?_
  rw [if_pos hgd]
  unfold Oper.wp execOp
  simp only [ho, resolve, invoke, builtin, Sem.run_bind, Sem.run_pure, Result.andThen_ok, List.map_toArray, List.map_cons, List.map_nil, hs, hx, hrun]
  exact hK _ _ (h A' c' w' h2 ((Below.refl B w).grown h3 hB (own_from hown)))
/-- The text of bytes. -/
def strOf (l : List UInt8) : ByteArray := ⟨l.toArray⟩
theorem strOf_size (l : List UInt8) : (strOf l).size = l.length := rfl
theorem strB_strOf (l : List UInt8) : strB (strOf l) = l := rfl
theorem strOf_strB (s : ByteArray) : strOf (strB s) = s := by
  apply ByteArray.ext
  rfl
/-- string(b) -/
theorem sl_string {w : World} {A : Option Addr} {n c : Nat} {l : List UInt8} (h : Sl w A n c l) :
    (convert 33 9 (.slice A n c)).run Try.prog w = .ok (.string (strOf l)) w := by
  rcases l with _ | ⟨x, l⟩
  · have hn : n = 0 := h.len.symm
    subst hn
    rcases A with _ | ⟨b, off, spot⟩
    · rw [run_convert_bytes_nil w 33 5 Try.underlying33 Try.underlying5 0 c 9 Try.underlying9]
      rfl
    · rw [run_convert_bytes_string w 33 9 5 _ 0 c Try.underlying33 Try.underlying5 Try.underlying9,
        run_bytesToString w _ 0 c [] (by simp [loadCells, loadCellsFrom])]
      rfl
  · obtain ⟨b, off, rfl, hc⟩ := h.holds (by simp [bytes])
    have hs := Lib.run_convert_whole (P := Try.prog) w 33 5 9 Try.underlying33 Try.underlying5 Try.underlying9 b off (strOf (x :: l)) (fun i hi => hc i _ (bytes_get hi)) c
    rw [strOf_size, h.len] at hs
    exact hs
end Go.Proofs.Ytbinmaamebdneaa
