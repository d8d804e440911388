/-
  What the program's read answers of a right packet's bytes; what Decode answers of them, and of others near them.
-/
import Derived.Test.YtnpbokbfkdncmaaGreatZDecShort
import Derived.Test.YtnpbokbfkdncmaaGreatZGM
import Derived.Test.YtnpbokbfkdncmaaGreatZGRW1
import Derived.Test.YtnpbokbfkdncmaaGreatZGRW2
import Derived.Test.YtnpbokbfkdncmaaGreatZGRW3
import Derived.Test.YtnpbokbfkdncmaaGreatZGRW4
import Derived.Test.YtnpbokbfkdncmaaGreatZRead3
namespace Go.Proofs.YtnpbokbfkdncmaaGreat
set_option linter.unusedSimpArgs false
set_option linter.unusedVariables false
open Go.RowKit Ru Fm

theorem read_right (p : PackD) (hr : RightD p) (A : Option Addr) (n c : Nat) (w : World) (hs : Sl w A n c (writtenF p)) : Calls Tryz.prog 24 #[.slice A n c] w (ReadPost w (readF (writtenF p))) := by
  have hl := (written_le hr).2
  have e0 : ((hd (writtenF p) : Nat) : Int) = p.kind := kind_byte hr.kind _
  rcases kind_cases hr.kind with e | e | e | e | e | e | e | e | e | e
  · exact read1_any A n c _ w hs (by omega) (by omega)
  · exact read2_any A n c _ w hs (by omega) (by omega)
  · exact read3_any A n c _ w hs (by omega) (by omega)
  · exact read4_any A n c _ w hs (by omega)
  · exact read5_any A n c _ w hs (by omega)
  · exact read6_any A n c _ w hs (by omega)
  · exact read7_any A n c _ w hs (by omega)
  · exact read8_any A n c _ w hs (by omega)
  · exact read9_any A n c _ w hs (by omega) (by omega)
  · exact read10_any A n c _ w hs (by omega) (by omega)
/-- Bytes that begin with a right packet's frame are decoded as decF says. -/
theorem decode_right (p : PackD) (hw : p.Wf) (hr : rightP p = true) (t : List UInt8) (A : Option Addr) (n c : Nat) (w : World) (hs : Sl w A n c (encF p ++ t)) (hn : n ≤ 140737488355328) :
    Calls Tryz.prog 11 #[.slice A n c] w (DecPost w (encF p ++ t)) := by
  have h := right_facts hr
  have hc : (cutF (encF p ++ t)).2.1 = writtenF p := by rw [cut_enc h t]
  refine decode_of A n c _ w hs hn (fun A' n' c' W hW => ?_) ?_ ?_
  · rw [hc] at hW ⊢
    exact read_right p h A' n' c' W hW
  · rw [hc, read_written hw h]; exact hw
  · rw [hc, read_written hw h]
    have := h.spans1
    omega
end Go.Proofs.YtnpbokbfkdncmaaGreat
