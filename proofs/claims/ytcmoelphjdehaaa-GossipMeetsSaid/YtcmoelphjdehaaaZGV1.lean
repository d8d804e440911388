/-
  Views: Right, Newer, Find, Same, of the program and of the document.
-/
import Derived.Test.YtcmoelphjdehaaaZGI
import Derived.Test.YtcmoelphjdehaaaZRowK
import Derived.Test.YtcmoelphjdehaaaZViewMath
import Derived.Deep.QuietTactic
import Derived.BigQuiet
namespace Go.Proofs.Ytcmoelphjdehaaa
set_option linter.unusedSimpArgs false
set_option linter.unusedVariables false
open Go.RowKit Ru
namespace Vw
set_option linter.unusedSimpArgs false
set_option linter.unusedVariables false
/-- A view, or not. -/
def rightV (ms : List MemberD) : Bool := decide (ms.length ≤ 16) && membersF ms
theorem rightP_gossip {ms : List MemberD} (h : ms ≠ []) : rightP ⟨3, 0, 0, 0, 0, 0, 0, false, [], ms, []⟩ = rightV ms := by
  have hl : decide (1 ≤ ms.length) = true := decide_eq_true (List.length_pos_iff.2 h)
  unfold rightP rightV numbersF answerF listsF lengthF
  rw [parts_3]
  simp [noParts, ballotF, vLeast, vMost, isB, spansF, risesF, risesFrom, hl]
theorem membersF_nil : membersF [] = true := rfl
theorem pack_view {w : World} {A : Option Addr} {n c : Nat} {ms : List MemberD} (h : MemRow w A n c ms) : PackIn w ⟨3, 0, 0, 0, 0, 0, 0, false, [], ms, []⟩ ⟨none, 0, A, c, none, 0⟩ := by
  obtain rfl := h.len
  exact ⟨⟨fun h => absurd rfl h, rfl, Nat.le_refl _, Nat.zero_le _, fun _ => rfl⟩, h, ⟨Holds.nil _ _, rfl, Nat.le_refl _, Nat.zero_le _, fun _ => rfl⟩⟩
theorem pack_wf {ms : List MemberD} (h : ∀ m ∈ ms, m.Wf) : PackD.Wf ⟨3, 0, 0, 0, 0, 0, 0, false, [], ms, []⟩ := ⟨by simp, by simp, by simp, by simp, by simp, by simp, h, by simp⟩
set_option maxRecDepth 20000 in
set_option maxHeartbeats 2000000 in
theorem vright_any (A : Option Addr) (n c : Nat) (ms : List MemberD) (w : World) (h : MemRow w A n c ms) (hw : ∀ m ∈ ms, m.Wf) :
    Calls Try.prog 108 #[.slice A n c] w (KindIs w (kindP (rightV ms))) := by
  obtain rfl := h.len
  have hle := Nat.le_trans h.cap h.max
  by_cases h0 : ms = []
  · subst h0
    go_enter Try.func108, Try.ntmps108
    go_wp2_with fail
    go_ret
    exact kindIs_mk (by rfl) (Below.refl _ _)
  · have Hp := hid_ (packright_any _ _ w (pack_view h) (pack_wf hw) (by simp))
    rw [rightP_gossip h0] at Hp
    have hpos := List.length_pos_iff.2 h0
    have e1 : ((ms.length : Int) == 0) = false := by rw [beq_eq_false_iff_ne]; omega
    have e2 : (ms.length == 0) = false := by rw [beq_eq_false_iff_ne]; omega
    generalize rightV ms = r at *
    clear h hw h0
    go_enter Try.func108, Try.ntmps108
    go_wp2_with fail
    refine Calls.mono Hp.out ?_
    rintro e w1 ⟨rfl, hb⟩
    have Hb := hid_ hb
    clear hb
    go_wp2_with fail
    go_ret
    exact kindIs_mk (by rfl) Hb.out
theorem membersR_pos {ms : List MemberD} (h : ms ≠ []) : membersR ms = rightV ms := by
  have hl : decide (1 ≤ ms.length) = true := decide_eq_true (List.length_pos_iff.2 h)
  unfold membersR rightV inF
  rw [hl, Bool.true_and, Bool.and_comm]
set_option maxHeartbeats 2000000 in
theorem rright_any (A : Option Addr) (n c : Nat) (ms : List MemberD) (w : World) (h : MemRow w A n c ms) :
    Calls Try.prog 46 #[.slice A n c] w (KindIs w (kindP (rightV ms))) := by
  obtain rfl := h.len
  have hle := Nat.le_trans h.cap h.max
  by_cases h0 : ms = []
  · subst h0
    have e1 : decide ((0 : Int) > 0) = false := by decide
    have e2 : decide ((0 : Nat) < 0) = false := by decide
    go_enter Try.func46, Try.ntmps46
    go_wp2_with fail
    go_ret
    exact kindIs_mk (by rfl) (Below.refl _ _)
  · have Hp := hid_ (refmembers_any A ms.length c ms w h)
    rw [membersR_pos h0] at Hp
    have hpos := List.length_pos_iff.2 h0
    have e1 : decide ((ms.length : Int) > 0) = true := decide_eq_true (by omega)
    have e2 : decide (0 < ms.length) = true := decide_eq_true hpos
    clear h h0
    cases hr : rightV ms
    all_goals
      rw [hr] at Hp
      clear hr
      go_enter Try.func46, Try.ntmps46
      go_wp2_with fail
      refine Calls.mono Hp.out ?_
      rintro e w1 ⟨rfl, hb⟩
      have Hb := hid_ hb
      clear hb
      go_wp2_with fail
      go_ret
      exact kindIs_mk (by rfl) Hb.out
theorem newer_cases (a b : MemberD) : (b.inc < a.inc ∧ newerB a b = true) ∨ (¬ b.inc < a.inc ∧ ¬ a.inc = b.inc ∧ newerB a b = false) ∨ (¬ b.inc < a.inc ∧ a.inc = b.inc ∧ newerB a b = decide (b.state < a.state)) := by
  unfold newerB
  by_cases h1 : b.inc < a.inc
  · exact .inl ⟨h1, decide_eq_true (.inl h1)⟩
  · by_cases h2 : a.inc = b.inc
    · refine .inr (.inr ⟨h1, h2, decide_eq_decide.2 ?_⟩)
      omega
    · exact .inr (.inl ⟨h1, h2, decide_eq_false (by omega)⟩)
set_option maxHeartbeats 4000000 in
theorem vnewer_any (a b : MemberD) (w : World) : Calls Try.prog 110 #[memVal a, memVal b] w (RetB w.heap.size w (.bool (newerB a b))) := by
  have Hc := hid_ (newer_cases a b)
  generalize newerB a b = r at *
  obtain ⟨i1, x, s⟩ := a
  obtain ⟨i2, y, t⟩ := b
  have Ha := hid_ (((Below.refl w.heap.size w).alloc (Nat.le_refl _) (.cells #[.int .u64 (i1 : Nat), .int .u64 (x : Nat), .int .i64 s] 82)).alloc (by simp) (.cells #[.int .u64 (i2 : Nat), .int .u64 (y : Nat), .int .i64 t] 82))
  rcases Hc.out with ⟨h1, rfl⟩ | ⟨h1, h2, rfl⟩ | ⟨h1, h2, h3⟩
  · have e1 : decide (y < x) = true := decide_eq_true h1
    clear h1 Hc
    go_enter Try.func110, Try.ntmps110
    go_wp2_with fail
    go_ret
    exact retB_mk rfl Ha.out
  · have e1 : decide (y < x) = false := decide_eq_false h1
    have e2 : (x == y) = false := by simpa using h2
    have e3 : ((x : Int) == (y : Int)) = false := by rw [beq_eq_false_iff_ne]; intro h; exact h2 (by exact_mod_cast h)
    clear h1 h2 Hc
    go_enter Try.func110, Try.ntmps110
    go_wp2_with fail
    go_ret
    exact retB_mk rfl Ha.out
  · simp only at h2 h1 h3
    subst h2
    have e1 : decide (x < x) = false := decide_eq_false h1
    have e2 : (x == x) = true := by simp
    have e3 : ((x : Int) == (x : Int)) = true := by simp
    have HR := hid_ h3
    clear h1 h3 Hc
    cases hz : decide (t < s)
    all_goals
      rw [hz] at HR
      go_enter Try.func110, Try.ntmps110
      go_wp2_with fail
      go_ret
      exact retB_mk (by rw [HR.out]; rfl) Ha.out
set_option maxHeartbeats 4000000 in
theorem rnewer_any (a b : MemberD) (w : World) : Calls Try.prog 48 #[memVal a, memVal b] w (RetB w.heap.size w (.bool (newerB a b))) := by
  have Hc := hid_ (newer_cases a b)
  generalize newerB a b = r at *
  obtain ⟨i1, x, s⟩ := a
  obtain ⟨i2, y, t⟩ := b
  have Ha := hid_ (((Below.refl w.heap.size w).alloc (Nat.le_refl _) (.cells #[.int .u64 (i1 : Nat), .int .u64 (x : Nat), .int .i64 s] 82)).alloc (by simp) (.cells #[.int .u64 (i2 : Nat), .int .u64 (y : Nat), .int .i64 t] 82))
  rcases Hc.out with ⟨h1, rfl⟩ | ⟨h1, h2, rfl⟩ | ⟨h1, h2, h3⟩
  · have e1 : decide (y < x) = true := decide_eq_true h1
    clear h1 Hc
    go_enter Try.func48, Try.ntmps48
    go_wp2_with fail
    go_ret
    exact retB_mk rfl Ha.out
  · have e1 : decide (y < x) = false := decide_eq_false h1
    have e2 : (x == y) = false := by simpa using h2
    have e3 : ((x : Int) == (y : Int)) = false := by rw [beq_eq_false_iff_ne]; intro h; exact h2 (by exact_mod_cast h)
    clear h1 h2 Hc
    go_enter Try.func48, Try.ntmps48
    go_wp2_with fail
    go_ret
    exact retB_mk rfl Ha.out
  · simp only at h2 h1 h3
    subst h2
    have e1 : decide (x < x) = false := decide_eq_false h1
    have e2 : (x == x) = true := by simp
    have e3 : ((x : Int) == (x : Int)) = true := by simp
    have HR := hid_ h3
    clear h1 h3 Hc
    cases hz : decide (t < s)
    all_goals
      rw [hz] at HR
      go_enter Try.func48, Try.ntmps48
      go_wp2_with fail
      go_ret
      exact retB_mk (by rw [HR.out]; rfl) Ha.out
end Vw
end Go.Proofs.Ytcmoelphjdehaaa

/-
  Views: Find and Same, of the program and of the document.
-/
namespace Go.Proofs.Ytcmoelphjdehaaa
set_option linter.unusedSimpArgs false
set_option linter.unusedVariables false
open Go.RowKit Ru
namespace Vw
set_option linter.unusedSimpArgs false
set_option linter.unusedVariables false
theorem whole_put3 {W : World} {g : Nat} {T : TypeId} {a b c : Value} (h : Whole W g T #[a, b, c]) (a' b' c' : Value) : Whole (((W.setCell ⟨g, 0, none⟩ a').setCell ⟨g, 1, none⟩ b').setCell ⟨g, 2, none⟩ c') g T #[a', b', c'] := ((h.store 0 a').store 1 b').store 2 c'
theorem below_put3 {B : Nat} {w W : World} {g : Nat} (h : Below B w W) (hg : B ≤ g) (a b c : Value) : Below B w (((W.setCell ⟨g, 0, none⟩ a).setCell ⟨g, 1, none⟩ b).setCell ⟨g, 2, none⟩ c) :=
  ((h.setCell (p := ⟨g, 0, none⟩) hg a).setCell (p := ⟨g, 1, none⟩) hg b).setCell (p := ⟨g, 2, none⟩) hg c
/-- What Find answers. -/
def foundV : Option MemberD → Value
  | some m => .tuple #[memVal m, .bool true]
  | none => .tuple #[memVal ⟨0, 0, 0⟩, .bool false]
def FindPost (w : World) (r : Option MemberD) (e : Ending) (w' : World) : Prop := e = .returned (foundV r) ∧ Below w.heap.size w w'
theorem findPost_mk {w w' : World} {r : Option MemberD} {v : Value} (h : foundV r = v) (hb : Below w.heap.size w w') : FindPost w r (.returned v) w' := ⟨by rw [h], hb⟩
set_option maxRecDepth 20000 in
set_option maxHeartbeats 4000000 in
theorem rfind_any (A : Option Addr) (n c : Nat) (ms : List MemberD) (id : Nat) (w : World) (h : MemRow w A n c ms) :
    Calls Try.prog 47 #[.slice A n c, .int .u64 (id : Nat)] w (FindPost w (getF ms id)) := by
  obtain rfl := h.len
  have hle := Nat.le_trans h.cap h.max
  have Hs := hid_ h
  have HG0 := hid_ (show getF ms id = getF (ms.drop 0) id by rw [List.drop_zero])
  generalize getF ms id = r at *
  clear h
  have W0 := hid_ (whole_new w 82 #[.int .u64 0, .int .u64 0, .int .i64 0])
  have Hb0 := hid_ (show Below w.heap.size w (w.alloc (.cells #[.int .u64 0, .int .u64 0, .int .i64 0] 82)) from (Below.refl _ _).alloc (Nat.le_refl _) _)
  go_enter Try.func47, Try.ntmps47
  go_wp2_with fail
  go_loopw [6] (fun vi wr => ∃ k : Nat, k ≤ ms.length ∧ vi = .int .i64 (k : Nat) ∧ Hid (r = getF (ms.drop k) id) ∧ Hid (Whole wr w.heap.size 82 #[.int .u64 0, .int .u64 0, .int .i64 0]) ∧ Hid (Below w.heap.size w wr)) (fun vi _ => ms.length - (intOf vi).toNat)
  case atStart => exact ⟨0, Nat.zero_le _, rfl, HG0, W0, Hb0⟩
  case round =>
    obtain ⟨k, hk, rfl, HG, HW, HB⟩ := hrel
    have hwl := HW.out.lt
    have z0 := HW.out.cell 0 _ rfl
    have z1 := HW.out.cell 1 _ rfl
    have z2 := HW.out.cell 2 _ rfl
    have zf := fun o => HW.out.free o
    by_cases hlt : k < ms.length
    · obtain ⟨b, off, rfl, hc⟩ := Hs.out.at_ hlt
      have hbl := hc.lt
      obtain ⟨c0, c1, c2⟩ := hc.keep_ (fun p hp => HB.out.cell hp)
      have hne : w.heap.size ≠ b := by omega
      have Hcs := hid_ (show getF (ms.drop k) id = if ms[k].id = id then some ms[k] else getF (ms.drop (k + 1)) id by rw [List.drop_eq_getElem_cons hlt, getF_cons])
      have x1 : (k : Int) < (ms.length : Int) := by omega
      have x2 : (0 : Int) ≤ (k : Int) := by omega
      have HK := hid_ hlt
      generalize ms[k] = s at *
      by_cases hid : s.id = id
      · have Hr := hid_ (show r = some s by rw [HG.out, Hcs.out, if_pos hid])
        have e1 : (((s.id : Nat) : Int) == (id : Int)) = true := by rw [beq_iff_eq]; omega
        have e2 : (s.id == id) = true := by rw [beq_iff_eq]; exact hid
        have HX := hid_ ((whole_put3 HW.out (.int .u64 (s.id : Nat)) (.int .u64 (s.inc : Nat)) (.int .i64 s.state)))
        have HY := hid_ (below_put3 HB.out (Nat.le_refl _) (.int .u64 (s.id : Nat)) (.int .u64 (s.inc : Nat)) (.int .i64 s.state))
        clear hlt hid
        go_wp2_with fail
        generalize ((wr.setCell ⟨w.heap.size, 0, none⟩ (.int .u64 (s.id : Nat))).setCell ⟨w.heap.size, 1, none⟩ (.int .u64 (s.inc : Nat))).setCell ⟨w.heap.size, 2, none⟩ (.int .i64 s.state) = W at HX HY ⊢
        have y0 := HX.out.cell 0 (.int .u64 (s.id : Nat)) rfl
        have y1 := HX.out.cell 1 (.int .u64 (s.inc : Nat)) rfl
        have y2 := HX.out.cell 2 (.int .i64 s.state) rfl
        exact bodyPost_ret (v := .tuple #[memVal s, .bool true]) (by simp [results, Try.results47, go_sem, y0, y1, y2]) rfl (findPost_mk (by rw [Hr.out]; rfl) HY.out)
      · have Hn := hid_ (show r = getF (ms.drop (k + 1)) id by rw [HG.out, Hcs.out, if_neg hid])
        have e1 : (((s.id : Nat) : Int) == (id : Int)) = false := by rw [beq_eq_false_iff_ne]; omega
        have e2 : (s.id == id) = false := by rw [beq_eq_false_iff_ne]; exact hid
        clear hlt hid
        go_wp2_with fail
        go_roundw
        case rel => exact ⟨k + 1, by have := HK.out; omega, by go_num, Hn, HW, HB⟩
        case measure => have := HK.out; simp [intOf]; omega
    · obtain rfl : k = ms.length := by omega
      have Hr := hid_ (show r = none by rw [HG.out, List.drop_eq_nil_of_le (Nat.le_refl _)]; rfl)
      have HX := hid_ (whole_put3 HW.out (.int .u64 0) (.int .u64 0) (.int .i64 0))
      have HY := hid_ (below_put3 HB.out (Nat.le_refl _) (.int .u64 0) (.int .u64 0) (.int .i64 0))
      clear hlt
      go_wp2_with fail
      generalize ((wr.setCell ⟨w.heap.size, 0, none⟩ (.int .u64 0)).setCell ⟨w.heap.size, 1, none⟩ (.int .u64 0)).setCell ⟨w.heap.size, 2, none⟩ (.int .i64 0) = W at HX HY ⊢
      have y0 := HX.out.cell 0 (.int .u64 0) rfl
      have y1 := HX.out.cell 1 (.int .u64 0) rfl
      have y2 := HX.out.cell 2 (.int .i64 0) rfl
      exact bodyPost_ret (v := .tuple #[memVal ⟨0, 0, 0⟩, .bool false]) (by simp [results, Try.results47, go_sem, y0, y1, y2]) rfl (findPost_mk (by rw [Hr.out]; rfl) HY.out)
end Vw
end Go.Proofs.Ytcmoelphjdehaaa
