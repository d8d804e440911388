/-
  What the library's symMerge does with two sorted pieces of a row of spans: all cases together.
-/
import Derived.Test.YtnphbefnmbagfaaSymLeft
import Derived.Test.YtnphbefnmbagfaaSymRight
namespace Go.Proofs.Ytnphbefnmbagfaa
open Go.RowKit Ru

theorem merge_upto : ∀ N, MergeUpto N := by
  intro N
  induction N with
  | zero =>
    intro w0 g off p l r s n cp a m b w hN _ _ _ _ _ hl0 _ _ _ _
    exact absurd hN (by omega)
  | succ N ih =>
    intro w0 g off p l r s n cp a m b w hN hst hn ha hm hb hl0 hr0 hsl hsr hbig
    by_cases h1 : l.length = 1
    · obtain ⟨x, rfl⟩ := List.length_eq_one_iff.1 h1
      exact symMerge_one w0 g off p r s x n cp a m b w hst (by simpa using hn) ha (by simpa using hm) hb hbig hr0 hsr
    by_cases h2 : r.length = 1
    · obtain ⟨y, rfl⟩ := List.length_eq_one_iff.1 h2
      exact symMerge_last w0 g off p l s y n cp a m b w hst (by simpa using hn) ha hm (by simpa using hb) hbig (by omega) hsl
    by_cases h3 : (a + b) / 2 < m
    · exact symMerge_left N ih w0 g off p l r s n cp a m b w hN hst hn ha hm hb (by omega) (by omega) hsl hsr hbig (fun d hd => by omega)
    · exact symMerge_right N ih w0 g off p l r s n cp a m b w hN hst hn ha hm hb (by omega) (by omega) hsl hsr hbig (fun d hd => by omega)
end Go.Proofs.Ytnphbefnmbagfaa
