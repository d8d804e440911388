/-
  What is asked of the library's symMerge.
-/
import Derived.Test.YtnphbefnmbagfaaSymMerge
namespace Go.Proofs.Ytnphbefnmbagfaa
open Go.RowKit Ru

/-- What is asked of the merge of shorter pieces. -/
def MergeUpto (N : Nat) : Prop := ∀ (w0 : World) (g off : Nat) (p l r s : List SpanD) (n cp a m b : Nat) (w : World), l.length + r.length ≤ N → St w0 g off (p ++ (l ++ (r ++ s))) w → n = p.length + l.length + r.length + s.length → a = p.length → m = a + l.length → b = m + r.length →
  0 < l.length → 0 < r.length → Sorted l → Sorted r → n ≤ 1000000000 →
  Calls Try.prog 52 #[.slice (some ⟨g, off, none⟩) n cp, .int .i64 (a : Nat), .int .i64 (m : Nat), .int .i64 (b : Nat), ordV] w (MergePost w0 g off p l r s)

/-- The places between which the cut of the two pieces is sought, and the cut. -/
structure Cutting (l r : List SpanD) (x y : Nat) : Prop where
  hx : x ≤ l.length
  hy : y ≤ r.length
  lt : ∀ u ∈ r.take y, ∀ v ∈ l.drop x, Lt u v
  le : ∀ u ∈ l.take x, ∀ v ∈ r.drop y, ¬ Lt v u

end Go.Proofs.Ytnphbefnmbagfaa
