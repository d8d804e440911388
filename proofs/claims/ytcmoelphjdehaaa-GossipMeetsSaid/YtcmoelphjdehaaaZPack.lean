/-
  Packets as data: what packets of a kind have; what the program's partsOf and membersRight answer.
-/
import Derived.Test.YtcmoelphjdehaaaZGF
namespace Go.Proofs.Ytcmoelphjdehaaa
set_option linter.unusedSimpArgs false
set_option linter.unusedVariables false
open Go.RowKit Ru

/-- What packets of some kind have beside it. -/
structure PartsD where
  trace : Bool
  ballot : Bool
  answer : Bool
  verdict : Bool
  spans : Bool
  members : Bool
  ids : Bool
  deriving DecidableEq
abbrev partsVal (h : PartsD) : Value := .agg #[.bool h.trace, .bool h.ballot, .bool h.answer, .bool h.verdict, .bool h.spans, .bool h.members, .bool h.ids]
def partsCells (h : PartsD) : Array Value := #[.bool h.trace, .bool h.ballot, .bool h.answer, .bool h.verdict, .bool h.spans, .bool h.members, .bool h.ids]
def partsF (k : Int) : PartsD :=
  if k = 1 then ⟨true, false, false, false, true, false, false⟩ else
  if k = 2 then ⟨true, false, false, false, true, false, false⟩ else
  if k = 3 then ⟨false, false, false, false, false, true, false⟩ else
  if k = 4 then ⟨true, true, false, false, false, false, false⟩ else
  if k = 5 then ⟨true, true, true, true, false, false, false⟩ else
  if k = 6 then ⟨true, true, false, true, false, false, false⟩ else
  if k = 7 then ⟨true, true, true, false, false, false, false⟩ else
  if k = 8 then ⟨true, false, false, true, false, false, false⟩ else
  if k = 9 then ⟨true, true, false, false, true, false, false⟩ else
  if k = 10 then ⟨true, false, false, false, false, false, true⟩ else
  ⟨false, false, false, false, false, false, false⟩
theorem parts_1 : partsF 1 = ⟨true, false, false, false, true, false, false⟩ := by unfold partsF; simp
theorem parts_2 : partsF 2 = ⟨true, false, false, false, true, false, false⟩ := by unfold partsF; simp
theorem parts_3 : partsF 3 = ⟨false, false, false, false, false, true, false⟩ := by unfold partsF; simp
theorem parts_4 : partsF 4 = ⟨true, true, false, false, false, false, false⟩ := by unfold partsF; simp
theorem parts_5 : partsF 5 = ⟨true, true, true, true, false, false, false⟩ := by unfold partsF; simp
theorem parts_6 : partsF 6 = ⟨true, true, false, true, false, false, false⟩ := by unfold partsF; simp
theorem parts_7 : partsF 7 = ⟨true, true, true, false, false, false, false⟩ := by unfold partsF; simp
theorem parts_8 : partsF 8 = ⟨true, false, false, true, false, false, false⟩ := by unfold partsF; simp
theorem parts_9 : partsF 9 = ⟨true, true, false, false, true, false, false⟩ := by unfold partsF; simp
theorem parts_10 : partsF 10 = ⟨true, false, false, false, false, false, true⟩ := by unfold partsF; simp
theorem parts_none {k : Int} (h : ¬ (1 ≤ k ∧ k ≤ 10)) : partsF k = ⟨false, false, false, false, false, false, false⟩ := by
  unfold partsF
  rw [if_neg (by omega)]
  rw [if_neg (by omega)]
  rw [if_neg (by omega)]
  rw [if_neg (by omega)]
  rw [if_neg (by omega)]
  rw [if_neg (by omega)]
  rw [if_neg (by omega)]
  rw [if_neg (by omega)]
  rw [if_neg (by omega)]
  rw [if_neg (by omega)]
theorem kind_cases {k : Int} (h : 1 ≤ k ∧ k ≤ 10) : k = 1 ∨ k = 2 ∨ k = 3 ∨ k = 4 ∨ k = 5 ∨ k = 6 ∨ k = 7 ∨ k = 8 ∨ k = 9 ∨ k = 10 := by omega
def PartsPost (w : World) (h : PartsD) (e : Ending) (w' : World) : Prop := e = .returned (partsVal h) ∧ Below w.heap.size w w'
theorem partsPost_mk {w w' : World} {h : PartsD} {v : Value} (e : partsVal h = v) (hb : Below w.heap.size w w') : PartsPost w h (.returned v) w' := ⟨by rw [e], hb⟩
set_option maxRecDepth 20000 in
set_option maxHeartbeats 4000000 in
theorem partsof_any (k : Int) (w : World) : Calls Try.prog 164 #[.int .i64 k] w (PartsPost w (partsF k)) := by
  by_cases h : 1 ≤ k ∧ k ≤ 10
  · rcases kind_cases h with rfl | rfl | rfl | rfl | rfl | rfl | rfl | rfl | rfl | rfl
    · have Hk := hid_ parts_1
      go_enter Try.func164, Try.ntmps164
      go_wp2_with fail
      exact bodyPost_ret (v := .agg #[.bool true, .bool false, .bool false, .bool false, .bool true, .bool false, .bool false]) (by simp [results, Try.results164, go_sem]) rfl (partsPost_mk (by rw [Hk.out]) (by repeat (first | exact Below.refl _ _ | refine Below.setCell ?_ (Nat.le_refl _) _ | refine Below.alloc ?_ (Nat.le_refl _) _)))
    · have Hk := hid_ parts_2
      go_enter Try.func164, Try.ntmps164
      go_wp2_with fail
      exact bodyPost_ret (v := .agg #[.bool true, .bool false, .bool false, .bool false, .bool true, .bool false, .bool false]) (by simp [results, Try.results164, go_sem]) rfl (partsPost_mk (by rw [Hk.out]) (by repeat (first | exact Below.refl _ _ | refine Below.setCell ?_ (Nat.le_refl _) _ | refine Below.alloc ?_ (Nat.le_refl _) _)))
    · have Hk := hid_ parts_3
      go_enter Try.func164, Try.ntmps164
      go_wp2_with fail
      exact bodyPost_ret (v := .agg #[.bool false, .bool false, .bool false, .bool false, .bool false, .bool true, .bool false]) (by simp [results, Try.results164, go_sem]) rfl (partsPost_mk (by rw [Hk.out]) (by repeat (first | exact Below.refl _ _ | refine Below.setCell ?_ (Nat.le_refl _) _ | refine Below.alloc ?_ (Nat.le_refl _) _)))
    · have Hk := hid_ parts_4
      go_enter Try.func164, Try.ntmps164
      go_wp2_with fail
      exact bodyPost_ret (v := .agg #[.bool true, .bool true, .bool false, .bool false, .bool false, .bool false, .bool false]) (by simp [results, Try.results164, go_sem]) rfl (partsPost_mk (by rw [Hk.out]) (by repeat (first | exact Below.refl _ _ | refine Below.setCell ?_ (Nat.le_refl _) _ | refine Below.alloc ?_ (Nat.le_refl _) _)))
    · have Hk := hid_ parts_5
      go_enter Try.func164, Try.ntmps164
      go_wp2_with fail
      exact bodyPost_ret (v := .agg #[.bool true, .bool true, .bool true, .bool true, .bool false, .bool false, .bool false]) (by simp [results, Try.results164, go_sem]) rfl (partsPost_mk (by rw [Hk.out]) (by repeat (first | exact Below.refl _ _ | refine Below.setCell ?_ (Nat.le_refl _) _ | refine Below.alloc ?_ (Nat.le_refl _) _)))
    · have Hk := hid_ parts_6
      go_enter Try.func164, Try.ntmps164
      go_wp2_with fail
      exact bodyPost_ret (v := .agg #[.bool true, .bool true, .bool false, .bool true, .bool false, .bool false, .bool false]) (by simp [results, Try.results164, go_sem]) rfl (partsPost_mk (by rw [Hk.out]) (by repeat (first | exact Below.refl _ _ | refine Below.setCell ?_ (Nat.le_refl _) _ | refine Below.alloc ?_ (Nat.le_refl _) _)))
    · have Hk := hid_ parts_7
      go_enter Try.func164, Try.ntmps164
      go_wp2_with fail
      exact bodyPost_ret (v := .agg #[.bool true, .bool true, .bool true, .bool false, .bool false, .bool false, .bool false]) (by simp [results, Try.results164, go_sem]) rfl (partsPost_mk (by rw [Hk.out]) (by repeat (first | exact Below.refl _ _ | refine Below.setCell ?_ (Nat.le_refl _) _ | refine Below.alloc ?_ (Nat.le_refl _) _)))
    · have Hk := hid_ parts_8
      go_enter Try.func164, Try.ntmps164
      go_wp2_with fail
      exact bodyPost_ret (v := .agg #[.bool true, .bool false, .bool false, .bool true, .bool false, .bool false, .bool false]) (by simp [results, Try.results164, go_sem]) rfl (partsPost_mk (by rw [Hk.out]) (by repeat (first | exact Below.refl _ _ | refine Below.setCell ?_ (Nat.le_refl _) _ | refine Below.alloc ?_ (Nat.le_refl _) _)))
    · have Hk := hid_ parts_9
      go_enter Try.func164, Try.ntmps164
      go_wp2_with fail
      exact bodyPost_ret (v := .agg #[.bool true, .bool true, .bool false, .bool false, .bool true, .bool false, .bool false]) (by simp [results, Try.results164, go_sem]) rfl (partsPost_mk (by rw [Hk.out]) (by repeat (first | exact Below.refl _ _ | refine Below.setCell ?_ (Nat.le_refl _) _ | refine Below.alloc ?_ (Nat.le_refl _) _)))
    · have Hk := hid_ parts_10
      go_enter Try.func164, Try.ntmps164
      go_wp2_with fail
      exact bodyPost_ret (v := .agg #[.bool true, .bool false, .bool false, .bool false, .bool false, .bool false, .bool true]) (by simp [results, Try.results164, go_sem]) rfl (partsPost_mk (by rw [Hk.out]) (by repeat (first | exact Below.refl _ _ | refine Below.setCell ?_ (Nat.le_refl _) _ | refine Below.alloc ?_ (Nat.le_refl _) _)))
  · have Hk := hid_ (parts_none h)
    have e1 : (k == 1) = false := by rw [beq_eq_false_iff_ne]; omega
    have e2 : (k == 2) = false := by rw [beq_eq_false_iff_ne]; omega
    have e3 : (k == 3) = false := by rw [beq_eq_false_iff_ne]; omega
    have e4 : (k == 4) = false := by rw [beq_eq_false_iff_ne]; omega
    have e5 : (k == 5) = false := by rw [beq_eq_false_iff_ne]; omega
    have e6 : (k == 6) = false := by rw [beq_eq_false_iff_ne]; omega
    have e7 : (k == 7) = false := by rw [beq_eq_false_iff_ne]; omega
    have e8 : (k == 8) = false := by rw [beq_eq_false_iff_ne]; omega
    have e9 : (k == 9) = false := by rw [beq_eq_false_iff_ne]; omega
    have e10 : (k == 10) = false := by rw [beq_eq_false_iff_ne]; omega
    clear h
    go_enter Try.func164, Try.ntmps164
    go_wp2_with fail
    exact bodyPost_ret (v := .agg #[.bool false, .bool false, .bool false, .bool false, .bool false, .bool false, .bool false]) (by simp [results, Try.results164, go_sem]) rfl (partsPost_mk (by rw [Hk.out]) (by repeat (first | exact Below.refl _ _ | refine Below.setCell ?_ (Nat.le_refl _) _ | refine Below.alloc ?_ (Nat.le_refl _) _)))

/-- A member is right. -/
def okMem (m : MemberD) : Bool := decide (0 < m.inc) && (decide (0 ≤ m.state) && decide (m.state ≤ 2))
/-- Members are right, and rise. -/
def membersF (ms : List MemberD) : Bool := ms.all okMem && risesF (ms.map MemberD.id)
theorem mems_bad {ms : List MemberD} {m : MemberD} (hm : m ∈ ms) (h : okMem m = false) : membersF ms = false := by
  unfold membersF
  rw [List.all_eq_false.2 ⟨m, hm, by rw [h]; decide⟩]
  rfl
theorem mems_good {ms : List MemberD} (h : ∀ j (hj : j < ms.length), okMem ms[j] = true) : membersF ms = risesF (ms.map MemberD.id) := by
  unfold membersF
  rw [List.all_eq_true.2 fun m hm => by
    obtain ⟨j, hj, rfl⟩ := List.getElem_of_mem hm
    exact h j hj]
  rfl
set_option maxRecDepth 20000 in
set_option maxHeartbeats 4000000 in
theorem membersright_any (A : Option Addr) (n c : Nat) (ms : List MemberD) (w : World) (hs : MemRow w A n c ms) :
    Calls Try.prog 186 #[.slice A n c] w (BoolIs w (membersF ms)) := by
  obtain rfl := hs.len
  have Hs := hid_ hs
  have hle := hs.cap
  have hmx := hs.max
  have Hbad := hid_ (fun s (h : s ∈ ms) (h2 : okMem s = false) => mems_bad h h2)
  clear hs
  go_enter Try.func186, Try.ntmps186
  go_wp2_with fail
  go_loopw [7] (fun vi wr => ∃ k : Nat, k ≤ ms.length ∧ vi = .int .i64 (k : Nat) ∧ Hid (∀ j (hj : j < ms.length), j < k → okMem ms[j] = true) ∧ Hid (Below w.heap.size w wr)) (fun vi _ => ms.length - (intOf vi).toNat)
  case atStart => exact ⟨0, Nat.zero_le _, rfl, hid_ (fun j _ h => absurd h (by omega)), hid_ (Below.refl _ _)⟩
  case round =>
    obtain ⟨k, hk, rfl, Hg, Hw⟩ := hrel
    by_cases hlt : k < ms.length
    · obtain ⟨b, off, rfl, hc⟩ := (Hs.out.below Hw.out).at_ hlt
      obtain ⟨c0, c1, c2⟩ := hc
      have x1 : (k : Int) < (ms.length : Int) := by omega
      have x2 : (0 : Int) ≤ (k : Int) := by omega
      have Hb := hid_ (Hbad.out ms[k] (List.getElem_mem hlt))
      have Hn := hid_ (fun (h : okMem ms[k] = true) => show ∀ j (hj : j < ms.length), j < k + 1 → okMem ms[j] = true from fun j hj h2 => by
        by_cases e : j = k
        · subst e; exact h
        · exact Hg.out j hj (by omega))
      have Hw1 := hid_ (fun (o : Obj) => show Below w.heap.size w (wr.alloc o) from Hw.out.alloc Hw.out.size _)
      have Hok := hid_ (show okMem ms[k] = (decide (0 < ms[k].inc) && (decide (0 ≤ ms[k].state) && decide (ms[k].state ≤ 2))) from rfl)
      generalize okMem ms[k] = ok at *
      generalize ms[k] = s at *
      by_cases h1 : s.inc = 0
      · have Hf := hid_ (Hb.out (by rw [Hok.out, decide_eq_false (by omega)]; rfl))
        have e1 : (((s.inc : Nat) : Int) == 0) = true := by rw [beq_iff_eq]; omega
        clear h1
        go_wp2_with fail
        go_ret
        exact boolIs_mk Hf.out (Hw1.out _)
      have e1 : (((s.inc : Nat) : Int) == 0) = false := by rw [beq_eq_false_iff_ne]; omega
      by_cases h2 : s.state < 0
      · have Hf := hid_ (Hb.out (by rw [Hok.out, decide_eq_false (show ¬ 0 ≤ s.state by omega)]; simp))
        have e2 : decide (s.state < 0) = true := decide_eq_true h2
        clear h1
        go_wp2_with fail
        go_ret
        exact boolIs_mk Hf.out (Hw1.out _)
      have e2 : decide (s.state < 0) = false := decide_eq_false h2
      by_cases h3 : 2 < s.state
      · have Hf := hid_ (Hb.out (by rw [Hok.out, decide_eq_false (show ¬ s.state ≤ 2 by omega)]; simp))
        have e3 : decide (2 < s.state) = true := decide_eq_true h3
        clear h1
        go_wp2_with fail
        go_ret
        exact boolIs_mk Hf.out (Hw1.out _)
      have e3 : decide (2 < s.state) = false := decide_eq_false h3
      have Hn2 := hid_ (Hn.out (by rw [Hok.out, decide_eq_true (by omega), decide_eq_true (by omega), decide_eq_true (by omega)]; rfl))
      clear h1
      go_wp2_with fail
      go_roundw
      case rel => exact ⟨k + 1, by omega, by go_num, Hn2, hid_ (Hw1.out _)⟩
      case measure => simp [intOf] <;> omega
    · obtain rfl : k = ms.length := by omega
      have Hri := hid_ (rises_mems A ms.length c ms wr (Hs.out.below Hw.out))
      rw [← mems_good (fun j hj => Hg.out j hj hj)] at Hri
      go_wp2_with fail
      refine Calls.mono Hri.out ?_
      rintro e w3 ⟨rfl, hb3⟩
      go_wp2_with fail
      go_ret
      exact boolIs_mk rfl (Hw.out.trans (hb3.mono Hw.out.size))
end Go.Proofs.Ytcmoelphjdehaaa
