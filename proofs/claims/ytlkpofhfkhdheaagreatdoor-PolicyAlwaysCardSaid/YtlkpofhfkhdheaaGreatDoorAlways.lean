/-
  The law's own look at two lists of rules; Parse of nothing; the reference's rules appended.
-/
import Derived.Test.YtlkpofhfkhdheaaGreatDoorNoBreak
import Derived.Test.YtlkpofhfkhdheaaGreatDoorOwn
namespace Go.Proofs.YtlkpofhfkhdheaaGreatDoor
open Go.RowKit Ru

theorem info_rrule : (Tryz.prog.info? 38).map (fun i => (i.zero, i.size, i.bytes)) = some (some (.agg #[.bool false, .string ⟨#[]⟩, .int .u64 0, .string ⟨#[]⟩]), 4, 48) := by kernel_rfl
theorem ownRu_empty (e : TypeId) (w : World) (B : Nat) (hB : B ≤ w.heap.size) : OwnRu e B (w.alloc (.cells #[] e)) (some ⟨w.heap.size, 0, .none⟩) 0 0 [] :=
  ⟨rfl, .inr ⟨w.heap.size, 0, #[], rfl, hB, heap_alloc_new w _, Nat.le_refl _, by unfold maxLen; omega, rfl, rfl⟩⟩
theorem show_zero {rs : List RuleD} (h : showK rs = 0) : showT rs = textS rs ∧ (textS rs).size ≤ 2048 ∧ rs.length ≤ 16 ∧ rs.all ruleOk = true := by
  unfold showK at h
  split at h
  · rename_i hr
    split at h
    · simp at h
    · rename_i hl
      exact ⟨(show_good hr hl).1, by omega, (right_len hr).1, (right_len hr).2⟩
  · rename_i hr
    exact absurd h hr
theorem show_not {rs : List RuleD} (h : showK rs ≠ 0) : showT rs = ⟨#[]⟩ := by
  unfold showT
  split
  · rename_i hr
    split
    · rfl
    · rename_i hl
      exact absurd (show_good hr hl).2 h
  · rfl
/-- append(s, x..) on the reference's rules, s a row of the call's own. -/
theorem wpList_rrules {w : World} {ops : Array Oper} {rest : List Oper} {o : Oper} {a : Act} {Q : Exit → Act → World → Prop} (hgd : Region.wanted o (yielded ops a.tmps) = true) (s x : Operand)
    (ho : o.op = .call { callee := .builtin .append, args := #[s, x], argTypes := #[22, 22] })
    (B : Nat) (A0 : Option Addr) (n0 c0 : Nat) (l0 : List RuleD) (hs : a.eval s = .slice A0 n0 c0) (hown : OwnRu 38 B w A0 n0 c0 l0)
    (A : Option Addr) (m c : Nat) (l : List RuleD) (hx : a.eval x = .slice A m c) (hl : RuleRow w A m c l)
    (N : Nat) (ys : List RuleD) (hN : n0 + m = N) (hys : l0 ++ l = ys) (hroom : N ≤ 1000000000000) (hB : B ≤ w.heap.size)
    (h : ∀ A' c' w', OwnRu 38 B w' A' N c' ys → Below B w w' → wpList Tryz.prog ops Q rest (a.put o.dst (.slice A' N c')) w') :
    wpList Tryz.prog ops Q (o :: rest) a w := by
  subst hys
  obtain ⟨i0, hi0, hz0, hz1, hz2⟩ := info_parts info_rrule
  refine wpList_app w hgd s x 22 ho B 38 i0 _ 4 48 Tryz.underlying22 hi0 hz0 hz1 hz2 rfl (by omega) (.slice A0 n0 c0) n0 (rulesAll l0) hs hown A m c (rulesAll l) hx
    (by rw [rulesAll_length, hl.len]) hl.cells hl.nil (rulesAll_one l) N (rulesAll (l0 ++ l)) hN (rulesAll_append l0 l).symm (by unfold maxLen; omega) (by omega) hB ?_
  intro A' c' w' ho' hg hat
  exact h A' c' w' ho' ((Below.refl B w).grown hg hB (own_from hown))

set_option maxRecDepth 20000 in
set_option maxHeartbeats 4000000 in
theorem same_any (A : Option Addr) (n c : Nat) (B : Option Addr) (m d : Nat) (rs : List RuleD) (w : World) (ha : RuleRow w A n c rs) (hb : RuleRow w B m d rs) :
    Calls Tryz.prog 15 #[.slice A n c, .slice B m d] w (BoolIs w true) := by
  obtain rfl := ha.len
  obtain rfl := hb.len
  have hle := ha.cap
  have hmx := ha.max
  have hle2 := hb.cap
  have hmx2 := hb.max
  have Ha := hid_ ha
  have Hb := hid_ hb
  have e0 : ((rs.length : Int) != (rs.length : Int)) = false := by simp
  clear ha hb
  go_enter Tryz.func15, Tryz.ntmps15
  go_wp2_with fail
  go_loopw [5] (fun vi wr => ∃ k : Nat, k ≤ rs.length ∧ vi = .int .i64 (k : Nat) ∧ Hid (Below w.heap.size w wr)) (fun vi _ => rs.length - (intOf vi).toNat)
  case atStart => exact ⟨0, Nat.zero_le _, rfl, hid_ (Below.refl _ _)⟩
  case round =>
    obtain ⟨k, hk, rfl, Hw⟩ := hrel
    by_cases hlt : k < rs.length
    · obtain ⟨b, off, rfl, hc⟩ := (Ha.out.below Hw.out).at_ hlt
      obtain ⟨b2, off2, rfl, hd⟩ := (Hb.out.below Hw.out).at_ hlt
      obtain ⟨c0, c1, c2, c3⟩ := hc
      obtain ⟨d0, d1, d2, d3⟩ := hd
      have x1 : (k : Int) < (rs.length : Int) := by omega
      have x2 : (0 : Int) ≤ (k : Int) := by omega
      generalize rs[k] = r at *
      have e1 : (r.keep != r.keep) = false := by simp
      have e2 : (r.what.toList != r.what.toList) = false := by simp
      have e3 : ((r.num : Int) != (r.num : Int)) = false := by simp
      have e4 : (r.text.toList != r.text.toList) = false := by simp
      go_wp2_with fail
      go_quiet (fail)
      clear c0 c1 c2 c3 d0 d1 d2 d3
      go_wp2_with fail
      go_roundw
      case rel => exact ⟨k + 1, by omega, by go_num, hid_ (below_drewN Hw.out _)⟩
      case measure => simp [intOf] <;> omega
    · obtain rfl : k = rs.length := by omega
      go_wp2_with fail
      go_ret
      exact boolIs_mk rfl Hw.out

set_option maxRecDepth 100000 in
set_option maxHeartbeats 4000000 in
theorem parse_none (w : World) : Calls Tryz.prog 14 #[.string ⟨#[]⟩] w fun e w' => e = .returned (.tuple #[.slice none 0 0, .int .i64 0]) ∧ Below w.heap.size w w' := by
  go_enter Tryz.func14, Tryz.ntmps14
  go_wp2_with fail
  exact bodyPost_ret (v := .tuple #[.slice none 0 0, .int .i64 0]) (by simp [results, Tryz.results14, go_sem]) rfl ⟨rfl, ((Below.refl _ _).alloc (Nat.le_refl _) _).alloc (by simp) _⟩
end Go.Proofs.YtlkpofhfkhdheaaGreatDoor
