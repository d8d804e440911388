/-
  Plain facts on the cutting of a span's bytes. No program's function is named here.
-/
import Derived.Test.YtnphbefnmbagfaaStr
import Derived.Test.YtnphbefnmbagfaaSpanMath
namespace Go.Proofs.Ytnphbefnmbagfaa

/-- Of a name's length and bytes: the kind, the text, what is behind. -/
def cutTextF (l : List UInt8) : Int × ByteArray × List UInt8 :=
  if l = [] then (3, ByteArray.empty, [])
  else if (l.getD 0 0).toNat < 1 ∨ 32 < (l.getD 0 0).toNat then (6, ByteArray.empty, [])
  else if l.length - 1 < (l.getD 0 0).toNat then (3, ByteArray.empty, [])
  else (0, strOf ((l.take ((l.getD 0 0).toNat + 1)).drop 1), l.drop ((l.getD 0 0).toNat + 1))
theorem cutText_none : cutTextF [] = (3, ByteArray.empty, []) := rfl
theorem cutText_form {l : List UInt8} (h : l ≠ []) (h1 : (l.getD 0 0).toNat < 1 ∨ 32 < (l.getD 0 0).toNat) : cutTextF l = (6, ByteArray.empty, []) := by unfold cutTextF; rw [if_neg h, if_pos h1]
theorem cutText_short {l : List UInt8} (h : l ≠ []) (h1 : ¬ ((l.getD 0 0).toNat < 1 ∨ 32 < (l.getD 0 0).toNat)) (h2 : l.length - 1 < (l.getD 0 0).toNat) : cutTextF l = (3, ByteArray.empty, []) := by unfold cutTextF; rw [if_neg h, if_neg h1, if_pos h2]
theorem cutText_ok {l : List UInt8} (h : l ≠ []) (h1 : ¬ ((l.getD 0 0).toNat < 1 ∨ 32 < (l.getD 0 0).toNat)) (h2 : ¬ l.length - 1 < (l.getD 0 0).toNat) :
    cutTextF l = (0, strOf ((l.take ((l.getD 0 0).toNat + 1)).drop 1), l.drop ((l.getD 0 0).toNat + 1)) := by unfold cutTextF; rw [if_neg h, if_neg h1, if_neg h2]
theorem cutText_kind (l : List UInt8) : (cutTextF l).1 = 0 ∨ ((cutTextF l).1 ≠ 0 ∧ (cutTextF l).2 = (ByteArray.empty, [])) := by
  unfold cutTextF
  repeat' split
  all_goals simp

/-- The span's bytes ahead of its texts are there. -/
def numsOf (l : List UInt8) (sv nm : ByteArray) : SpanD :=
  ⟨numB l 8, numB (l.drop 8) 8, numB (l.drop 16) 8, numB (l.drop 24) 8, numB (l.drop 32) 8, sv, nm, decide ((l.getD 40 0).toNat = 1)⟩
/-- What Cut answers: the kind, the span, what is behind. -/
def cutSpanF (l : List UInt8) : Int × SpanD × List UInt8 :=
  if l.length < 41 then (3, SpanD.zero, [])
  else if 1 < (l.getD 40 0).toNat then (6, SpanD.zero, [])
  else if (cutTextF (l.drop 41)).1 ≠ 0 then ((cutTextF (l.drop 41)).1, SpanD.zero, [])
  else if (cutTextF (cutTextF (l.drop 41)).2.2).1 ≠ 0 then ((cutTextF (cutTextF (l.drop 41)).2.2).1, SpanD.zero, [])
  else if rightF (numsOf l (cutTextF (l.drop 41)).2.1 (cutTextF (cutTextF (l.drop 41)).2.2).2.1) ≠ 0 then (rightF (numsOf l (cutTextF (l.drop 41)).2.1 (cutTextF (cutTextF (l.drop 41)).2.2).2.1), SpanD.zero, [])
  else (0, numsOf l (cutTextF (l.drop 41)).2.1 (cutTextF (cutTextF (l.drop 41)).2.2).2.1, (cutTextF (cutTextF (l.drop 41)).2.2).2.2)
theorem numB8_lt (l : List UInt8) : numB l 8 < 18446744073709551616 := numB_lt l 8
theorem numsOf_wf (l : List UInt8) (sv nm : ByteArray) (h1 : sv.size ≤ 9223372036854775807) (h2 : nm.size ≤ 9223372036854775807) : (numsOf l sv nm).Wf :=
  ⟨numB8_lt _, numB8_lt _, numB8_lt _, numB8_lt _, numB8_lt _, h1, h2⟩
end Go.Proofs.Ytnphbefnmbagfaa
