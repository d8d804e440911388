/-
  Views: Live, of the program and of the document.
-/
import Derived.Test.YtcmoelphjdehaaaZViewSame
namespace Go.Proofs.Ytcmoelphjdehaaa
set_option linter.unusedSimpArgs false
set_option linter.unusedVariables false
open Go.RowKit Ru
namespace Vw
set_option linter.unusedSimpArgs false
set_option linter.unusedVariables false
abbrev OwnN := Rg.numE.Own 60
theorem info_u64n : (Try.prog.info? 60).map (fun i => (i.zero, i.size, i.bytes)) = some (some (.int .u64 0), 1, 8) := by kernel_rfl
theorem num_new_at (W : World) (g x : Nat) (T : TypeId) (h : g = W.heap.size) : Rg.numE.Row (W.alloc (.cells #[.int .u64 (x : Nat)] T)) (some ⟨g, 0, none⟩) 1 1 [x] := by
  subst h
  exact Enc.row_new (E := Rg.numE) W x _ rfl T
def liveT (ms : List MemberD) : List Nat := (ms.filter (fun m => decide (m.state ≠ 2))).map MemberD.id
theorem liveT_snoc (l : List MemberD) (s : MemberD) : liveT (l ++ [s]) = if s.state = 2 then liveT l else liveT l ++ [s.id] := by
  unfold liveT
  by_cases h : s.state = 2
  · rw [if_pos h]; simp [h]
  · rw [if_neg h]; simp [h]
/-- Who lives in a view. -/
def liveV (ms : List MemberD) : List Nat := if rightV ms = true then liveT ms else []
theorem rightV_len {ms : List MemberD} (h : rightV ms = true) : ms.length ≤ 16 := by
  unfold rightV at h
  rw [Bool.and_eq_true] at h
  exact of_decide_eq_true h.1
def LivePost (w : World) (l : List Nat) (e : Ending) (w' : World) : Prop := ∃ A n c, e = .returned (.slice A n c) ∧ Rg.numE.Row w' A n c l ∧ Below w.heap.size w w'
theorem livePost_mk {w w' : World} {l : List Nat} {A : Option Addr} {n c : Nat} (h : Rg.numE.Row w' A n c l) (hb : Below w.heap.size w w') : LivePost w l (.returned (.slice A n c)) w' := ⟨A, n, c, rfl, h, hb⟩
end Vw
end Go.Proofs.Ytcmoelphjdehaaa
