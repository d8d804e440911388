/-
  A span in a block of its own, in a region that draws its order: what each step of the region keeps.
-/
import Derived.Test.YtnphbefnmbagfaaSpAlive
import Derived.Test.YtnphbefnmbagfaaSpanOpen
import Derived.Deep.RegionHeld3
import Derived.Deep.DrawnRows
namespace Go.Proofs.Ytnphbefnmbagfaa
open Go.RowKit Ru

/-- The span's block stands, and all that was there when the call began. -/
abbrev BoxIn (w : World) (b : Nat) (s : SpanD) (w' : World) : Prop :=
  Below w.heap.size w w' ∧ b < w'.heap.size ∧ w'.cell? ⟨b, 0, none⟩ = some (.int .u64 (s.trace : Nat)) ∧ w'.cell? ⟨b, 1, none⟩ = some (.int .u64 (s.id : Nat)) ∧ w'.cell? ⟨b, 2, none⟩ = some (.int .u64 (s.parent : Nat)) ∧
    w'.cell? ⟨b, 3, none⟩ = some (.int .u64 (s.start : Nat)) ∧ w'.cell? ⟨b, 4, none⟩ = some (.int .u64 (s.len : Nat)) ∧ w'.cell? ⟨b, 5, none⟩ = some (.string s.service) ∧ w'.cell? ⟨b, 6, none⟩ = some (.string s.name) ∧ w'.cell? ⟨b, 7, none⟩ = some (.bool s.fail)
theorem boxIn_of {w w' : World} {b : Nat} {s : SpanD} (h : Below w.heap.size w w') (hb : Box w' b s) : BoxIn w b s w' :=
  ⟨h, lt_of_cell hb.c0, hb.c0, hb.c1, hb.c2, hb.c3, hb.c4, hb.c5, hb.c6, hb.c7⟩
theorem boxIn_box {w w' : World} {b : Nat} {s : SpanD} (h : BoxIn w b s w') : Box w' b s := by
  obtain ⟨_, _, h0, h1, h2, h3, h4, h5, h6, h7⟩ := h
  exact ⟨h0, h1, h2, h3, h4, h5, h6, h7⟩
theorem boxIn_keep {w W w' : World} {b : Nat} {s : SpanD} (h : BoxIn w b s W) (hb : Below W.heap.size W w') : BoxIn w b s w' :=
  boxIn_of (h.1.trans (hb.mono h.1.size)) ((boxIn_box h).below hb h.2.1)
end Go.Proofs.Ytnphbefnmbagfaa
