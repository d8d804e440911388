/-
  Two spans held against each other.
-/
import Derived.Test.YtlkpofhfkhdheaaGreatDoorRefRight
import Derived.Laws.StructEq
namespace Go.Proofs.YtlkpofhfkhdheaaGreatDoor
open Go.RowKit Ru

def sameF (a b : SpanD) : Bool := decide (a.trace = b.trace) && (decide (a.id = b.id) && (decide (a.parent = b.parent) && (decide (a.start = b.start) && (decide (a.len = b.len) && (decide (a.service.toList = b.service.toList) && (decide (a.name.toList = b.name.toList) && decide (a.fail = b.fail)))))))
theorem sameF_self (a : SpanD) : sameF a a = true := by simp [sameF]
theorem bytes_ext {a b : ByteArray} (h : a.toList = b.toList) : a = b := by
  rw [ByteArray.toList_eq, ByteArray.toList_eq] at h
  apply ByteArray.ext
  exact Array.toList_inj.1 h
theorem sameF_iff {a b : SpanD} : sameF a b = true ↔ a = b := by
  constructor
  · intro h
    simp [sameF] at h
    obtain ⟨h1, h2, h3, h4, h5, h6, h7, h8⟩ := h
    obtain ⟨t, i, p, st, ln, sv, nm, f⟩ := a
    obtain ⟨t', i', p', st', ln', sv', nm', f'⟩ := b
    simp only at h1 h2 h3 h4 h5 h6 h7 h8
    rw [h1, h2, h3, h4, h5, bytes_ext h6, bytes_ext h7, h8]
  · rintro rfl
    exact sameF_self a
set_option maxRecDepth 100000 in
set_option maxHeartbeats 1000000 in
theorem span_equalIn (a b : SpanD) (w : World) : (Op.equalIn 10000 46 (spanVal a) (spanVal b)).run Tryz.prog w = .ok (sameF a b) w := by
  rw [run_equalIn_agg w 9999 46 _ _ (by kernel_rfl) (by kernel_rfl)]
  simp [Program.fieldsOf, Tryz.underlying46, Op.eqFields, part, go_sem]
  simp only [Int.ofNat_inj]
  unfold sameF
  repeat' split
  all_goals simp_all
theorem span_eql (a b : SpanD) (w : World) : (binOp .eql 46 (spanVal a) (spanVal b)).run Tryz.prog w = .ok (.bool (sameF a b)) w := by
  rw [run_eql_struct, span_equalIn]
  rfl
theorem span_neq (a b : SpanD) (w : World) : (binOp .neq 46 (spanVal a) (spanVal b)).run Tryz.prog w = .ok (.bool (!sameF a b)) w := by
  rw [run_neq_struct, span_equalIn]
  rfl
end Go.Proofs.YtlkpofhfkhdheaaGreatDoor
