/-
  Members and lists of members that a law is given.
-/
import Derived.Test.YteoeghljoaiiiaaZGH
import Derived.Test.YteoeghljoaiiiaaZVwAlive
namespace Go.Proofs.Yteoeghljoaiiiaa
set_option linter.unusedSimpArgs false
set_option linter.unusedVariables false
open Go.RowKit Ru Go.ChangeShapes Go.WideShapes
namespace Vw
set_option linter.unusedSimpArgs false
set_option linter.unusedVariables false
section
variable {H : Type} {enc : TypeId × Value → H} {w : World} {base : Nat} {held : Bool}
/-- What a list of members that came in is known to be. -/
def MemsV (w : World) (v : Value) : Prop := ∃ A n c ms, v = .slice A n c ∧ MemRow w A n c ms ∧ ∀ m ∈ ms, m.Wf
set_option maxRecDepth 100000 in
theorem open_memsV {v : Value} {d : DataW H} {p : List MemPlace} {x : Reach} {r : Nat}
    (hv : Value.okWide Try.prog w x r 77 v) (h : DataW.Trod enc Try.prog w base (fun _ => true) held 77 v d p) : MemsV w v := by
  obtain ⟨a0, len0, cap0, rfl⟩ := okWide_slice Try.underlying77 hv
  obtain ⟨fuel, hf⟩ := h
  obtain ⟨A, n, c, ms, hcs, hr, hw⟩ := members_field hf
  simp [Value.cells] at hcs
  obtain ⟨rfl, rfl, rfl⟩ := hcs
  exact ⟨_, _, _, ms, rfl, hr, hw⟩
/-- What a member that came in is known to be. -/
def MemV (_w : World) (v : Value) : Prop := ∃ m : MemberD, m.Wf ∧ v = memVal m
set_option maxRecDepth 100000 in
theorem open_memV {spare : Nat → Bool} {v : Value} {d : DataW H} {p : List MemPlace} {x : Reach} {r : Nat}
    (hv : Value.okWide Try.prog w x r 79 v) (h : DataW.Trod enc Try.prog w base spare held 79 v d p) : MemV w v := by
  obtain ⟨cs, rfl, _⟩ := okWide_struct Try.underlying79 hv
  obtain ⟨fuel, hf⟩ := h
  obtain ⟨s, hs, hc⟩ := member_cells hf
  refine ⟨s, hs, ?_⟩
  have : cs.toList = mcells s := by simpa [Value.cells] using hc
  have e : cs = (mcells s).toArray := by rw [← this]
  rw [e]
  rfl
end
end Vw
end Go.Proofs.Yteoeghljoaiiiaa
