/-
  What the program's Name answers.
-/
import Derived.Test.YtnpbokbfkdncmaaGreatZGB
import Derived.Test.YtnpbokbfkdncmaaGreatZGC
import Derived.Lib.Walk
import Derived.Lib.Slices
import Derived.Laws.Strings3
import Derived.Laws.RangeAny
namespace Go.Proofs.YtnpbokbfkdncmaaGreat
open Go.RowKit Ru

set_option maxHeartbeats 1000000 in
theorem prefix_in (s p : ByteArray) (w : World) :
    Calls Tryz.prog 109 #[.string s, .string p] w fun e w' => e = .returned (.bool (Lib.hasPrefix s.data.toList p.data.toList)) ∧ w' = w := by
  rw [← Lib.hasPrefix_of_take, ← Lib.size_eq, ← Lib.size_eq]
  go_enter Tryz.func109, Tryz.ntmps109
  go_wp2
  · rename_i h
    go_ret
    refine ⟨?_, rfl⟩
    show Ending.returned (Value.bool ((s.extract 0 p.size).toList == p.toList)) = _
    rw [Lib.extract_toList, Lib.toList_data]
    simp [h]
  · rename_i h
    go_ret
    refine ⟨?_, rfl⟩
    show Ending.returned (Value.bool false) = _
    simp [h]
theorem prefix_fffd (s : ByteArray) (i : Nat) (w : World) :
    Calls Tryz.prog 109 #[.string (s.extract i s.size), .string ⟨#[239, 191, 189]⟩] w fun e w' => e = .returned (.bool (fffdAt s i)) ∧ w = w' :=
  (prefix_in (s.extract i s.size) ⟨#[239, 191, 189]⟩ w).mono fun _ _ ⟨h1, h2⟩ => ⟨h1, h2.symm⟩
set_option maxHeartbeats 1000000 in
theorem prefix_any (s : ByteArray) (i : Nat) (w : World) :
    Calls Tryz.prog 102 #[.string (s.extract i s.size), .string ⟨#[239, 191, 189]⟩] w fun e w' => e = .returned (.bool (fffdAt s i)) ∧ w = w' := by
  go_enter Tryz.func102, Tryz.ntmps102
  go_wp2_with (go_at_call 109; refine (prefix_fffd s i _).mono ?_; rintro e w' ⟨rfl, rfl⟩)
  go_ret
  exact ⟨rfl, rfl⟩

set_option maxHeartbeats 2000000 in
theorem name_any (s : ByteArray) (w : World) (hs : s.size ≤ 9223372036854775807) :
    Calls Tryz.prog 95 #[.string s] w (KindIs w (nameKind s)) := by
  by_cases h1 : s.size < 1
  · have Hk := hid_ (kind_bad (name_size (.inl h1)))
    have e1 : decide ((s.size : Int) < 1) = true := decide_eq_true (by omega)
    clear h1
    go_enter Tryz.func95, Tryz.ntmps95
    go_wp2
    go_ret
    exact kindIs_mk Hk.out (Below.refl _ _)
  have e1 : decide ((s.size : Int) < 1) = false := decide_eq_false (by omega)
  by_cases h2 : 32 < s.size
  · have Hk := hid_ (kind_bad (name_size (.inr h2)))
    have e2 : decide ((32 : Int) < (s.size : Int)) = true := decide_eq_true (by omega)
    go_enter Tryz.func95, Tryz.ntmps95
    go_wp2
    go_ret
    exact kindIs_mk Hk.out (Below.refl _ _)
  have e2 : decide ((32 : Int) < (s.size : Int)) = false := decide_eq_false (by omega)
  go_enter Tryz.func95, Tryz.ntmps95
  go_wp2
  go_loopw [] (fun w' => ∃ pos, w' = w.iter s pos ∧ NameAt s pos) (fun w' => s.size - w'.iterPos w.heap.size)
  case atStart => exact ⟨0, rfl, nameAt_zero s⟩
  case round =>
    obtain ⟨pos, rfl, hat⟩ := hrel
    have hle := nameAt_le hat
    have Hat := hid_ hat
    clear hat
    by_cases hp : pos < s.size
    · have hnx : ∀ ty, (Instr.next (.pointer (some ⟨w.heap.size, 0, none⟩)) true ty).run Tryz.prog (w.iter s pos) = _ := fun ty => run_next_any w s pos ty hp
      have hwd := width_pos s pos hp
      have hd1 := decode_le s pos
      have Hwhole := hid_ (runeAt_whole (s := s) hp)
      have Hbroken := hid_ (runeAt_broken (s := s) hp)
      have Hplain := hid_ (runeAt_plain (s := s) hp)
      have Hpre := hid_ (prefix_any s pos)
      by_cases hr : (Utf8.decode s pos).1 = 65533
      · have er : (((Utf8.decode s pos).1 : Int) == 65533) = true := by rw [beq_iff_eq]; omega
        cases hf : fffdAt s pos
        · have Hk := hid_ (nameAt_broken Hat.out hp (Hbroken.out hr hf))
          have Hf := hid_ hf
          have Hr := hid_ hr
          clear hr hf
          go_wp2_with (go_at_call 102; (with_reducible refine Calls.mono (Hpre.out _) ?_); rintro e w' ⟨rfl, rfl⟩; rw [Hf.out])
          go_ret
          exact kindIs_mk Hk.out ((Below.refl _ _).alloc (Nat.le_refl _) _)
        · obtain ⟨hru, hw3⟩ := Hwhole.out hf
          have Hst := hid_ (nameAt_step Hat.out hp _ _ hru (by omega) (by decide))
          have Hf := hid_ hf
          have Hr := hid_ hr
          have Hw3 := hid_ hw3
          have b1 : decide (((Utf8.decode s pos).1 : Int) < 32) = false := decide_eq_false (by omega)
          have b2 : decide ((127 : Int) ≤ ((Utf8.decode s pos).1 : Int)) = true := decide_eq_true (by omega)
          have b3 : decide (((Utf8.decode s pos).1 : Int) ≤ 159) = false := decide_eq_false (by omega)
          clear hr hf hru hw3
          go_wp2_with (go_at_call 102; (with_reducible refine Calls.mono (Hpre.out _) ?_); rintro e w' ⟨rfl, rfl⟩; rw [Hf.out])
          go_roundw
          case rel => exact ⟨pos + (Utf8.decode s pos).2, rfl, by rw [Hw3.out]; exact Hst.out⟩
          case measure => simp; omega
      · have er : (((Utf8.decode s pos).1 : Int) == 65533) = false := by rw [beq_eq_false_iff_ne]; omega
        have hru := Hplain.out hr
        cases hb : badRune (Utf8.decode s pos).1
        · have Hst := hid_ (nameAt_step Hat.out hp (Utf8.decode s pos).1 (Utf8.decode s pos).2 hru (Nat.ne_of_gt hwd) hb)
          have hb2 : 32 ≤ (Utf8.decode s pos).1 ∧ ((Utf8.decode s pos).1 < 127 ∨ 159 < (Utf8.decode s pos).1) := by
            unfold badRune at hb
            simp at hb
            omega
          have Hru := hid_ hru
          clear hru hb hr
          obtain ⟨g1, g2⟩ := hb2
          rcases g2 with g2 | g2
          · have g4 : ¬ 127 ≤ (Utf8.decode s pos).1 := by omega
            go_wp2_with fail
            go_roundw
            case rel => exact ⟨pos + (Utf8.decode s pos).2, rfl, Hst.out⟩
            case measure => simp; omega
          · have g3 : 127 ≤ (Utf8.decode s pos).1 := by omega
            go_wp2_with fail
            go_roundw
            case rel => exact ⟨pos + (Utf8.decode s pos).2, rfl, Hst.out⟩
            case measure => simp; omega
        · have Hk := hid_ (nameAt_bad Hat.out hp (Utf8.decode s pos).1 (Utf8.decode s pos).2 hru (Nat.ne_of_gt hwd) hb)
          have hb2 : (Utf8.decode s pos).1 < 32 ∨ (32 ≤ (Utf8.decode s pos).1 ∧ 127 ≤ (Utf8.decode s pos).1 ∧ (Utf8.decode s pos).1 ≤ 159) := by
            unfold badRune at hb
            simp at hb
            omega
          have Hru := hid_ hru
          clear hru hb hr
          rcases hb2 with g1 | ⟨g0, g1, g2⟩
          all_goals
            go_wp2_with fail
            go_ret
            exact kindIs_mk Hk.out ((Below.refl _ _).alloc (Nat.le_refl _) _)
    · have hnx : ∀ ty, (Instr.next (.pointer (some ⟨w.heap.size, 0, none⟩)) true ty).run Tryz.prog (w.iter s pos) = _ := fun ty => run_next_end w s pos ty hp
      obtain rfl : pos = s.size := by omega
      have Hk := hid_ (nameAt_end Hat.out (by omega) (by omega))
      go_wp2_with fail
      go_ret
      exact kindIs_mk Hk.out ((Below.refl _ _).alloc (Nat.le_refl _) _)
end Go.Proofs.YtnpbokbfkdncmaaGreat

/-
  What the program's texts, numbers, truth and Right answer.
-/
namespace Go.Proofs.YtnpbokbfkdncmaaGreat
open Go.RowKit Ru

abbrev textsVal (s : SpanD) : Value := .agg #[.string s.service, .string s.name]
abbrev numbersVal (s : SpanD) : Value := .agg #[.int .u64 (s.trace : Nat), .int .u64 (s.id : Nat), .int .u64 (s.parent : Nat), .int .u64 (s.start : Nat), .int .u64 (s.len : Nat)]
def ValIs (w : World) (v : Value) (e : Ending) (w' : World) : Prop := e = .returned v ∧ Below w.heap.size w w'
theorem valIs_mk {w w' : World} {v : Value} (hb : Below w.heap.size w w') : ValIs w v (.returned v) w' := ⟨rfl, hb⟩

set_option maxHeartbeats 1000000 in
theorem texts_any (s : SpanD) (w : World) :
    Calls Tryz.prog 80 #[spanVal s] w (ValIs w (textsVal s)) := by
  obtain ⟨t, i, p, st, ln, sv, nm, f⟩ := s
  go_enter Tryz.func80, Tryz.ntmps80
  go_wp2_with fail
  refine bodyPost_ret (v := .agg #[.string sv, .string nm]) (by simp [results, Tryz.results80, go_sem]) rfl ?_
  exact valIs_mk (((Below.refl _ _).alloc (Nat.le_refl _) _).alloc (by simp) _)
set_option maxHeartbeats 1000000 in
theorem numbers_any (s : SpanD) (w : World) :
    Calls Tryz.prog 77 #[spanVal s] w (ValIs w (numbersVal s)) := by
  obtain ⟨t, i, p, st, ln, sv, nm, f⟩ := s
  go_enter Tryz.func77, Tryz.ntmps77
  go_wp2_with fail
  refine bodyPost_ret (v := .agg #[.int .u64 (t : Nat), .int .u64 (i : Nat), .int .u64 (p : Nat), .int .u64 (st : Nat), .int .u64 (ln : Nat)]) (by simp [results, Tryz.results77, go_sem]) rfl ?_
  exact valIs_mk (((Below.refl _ _).alloc (Nat.le_refl _) _).alloc (by simp) _)
theorem truth_any (b : Bool) (w : World) :
    Calls Tryz.prog 79 #[.bool b] w fun e w' => e = .returned (.int .u8 (if b then 1 else 0)) ∧ w = w' := by
  cases b
  all_goals
    go_enter Tryz.func79, Tryz.ntmps79
    go_wp2_with fail
    go_ret
    exact ⟨rfl, rfl⟩

set_option maxHeartbeats 1000000 in
theorem right_bad (s : SpanD) (w : World) (ha : argBad s = true) :
    Calls Tryz.prog 76 #[spanVal s] w (KindIs w (rightF s)) := by
  obtain ⟨t, i, p, st, ln, sv, nm, f⟩ := s
  have Hk := hid_ (right_arg ha)
  have h1 := arg_yes ha
  simp only at h1
  clear ha
  rcases h1 with h1 | ⟨h0, h1⟩ | ⟨h0, h0', h1⟩ | ⟨h0, h0', h0'', h1⟩
  · have e1 : ((t : Int) == 0) = true := by rw [beq_iff_eq]; omega
    have H := hid_ h1
    clear h1
    go_enter Tryz.func76, Tryz.ntmps76
    go_wp2_with fail
    go_ret
    exact kindIs_mk Hk.out ((Below.refl _ _).alloc (Nat.le_refl _) _)
  · have e1 : ((t : Int) == 0) = false := by rw [beq_eq_false_iff_ne]; omega
    have e2 : ((i : Int) == 0) = true := by rw [beq_iff_eq]; omega
    have H := hid_ h1
    clear h1 h0
    go_enter Tryz.func76, Tryz.ntmps76
    go_wp2_with fail
    go_ret
    exact kindIs_mk Hk.out ((Below.refl _ _).alloc (Nat.le_refl _) _)
  · have e1 : ((t : Int) == 0) = false := by rw [beq_eq_false_iff_ne]; omega
    have e2 : ((i : Int) == 0) = false := by rw [beq_eq_false_iff_ne]; omega
    clear h0 h0'
    go_enter Tryz.func76, Tryz.ntmps76
    go_wp2_with fail
    go_ret
    exact kindIs_mk Hk.out ((Below.refl _ _).alloc (Nat.le_refl _) _)
  · have e1 : ((t : Int) == 0) = false := by rw [beq_eq_false_iff_ne]; omega
    have e2 : ((i : Int) == 0) = false := by rw [beq_eq_false_iff_ne]; omega
    clear h0 h0'
    go_enter Tryz.func76, Tryz.ntmps76
    go_wp2_with fail
    go_ret
    exact kindIs_mk Hk.out ((Below.refl _ _).alloc (Nat.le_refl _) _)

def textAt (s : SpanD) (k : Nat) : ByteArray := if k = 0 then s.service else s.name
set_option maxHeartbeats 2000000 in
theorem right_any (s : SpanD) (w : World) (hs : s.Wf) :
    Calls Tryz.prog 76 #[spanVal s] w (KindIs w (rightF s)) := by
  cases ha : argBad s
  rotate_left
  · exact right_bad s w ha
  have Ha := hid_ ha
  obtain ⟨h0, h0', h1, h2⟩ := arg_no ha
  have Hsv := hid_ (fun W => name_any s.service W hs.service)
  have Hnm := hid_ (fun W => name_any s.name W hs.name)
  have Ht := hid_ (fun W => texts_any s W)
  clear ha hs
  have Hr1 := hid_ (fun h => right_name Ha.out (.inl h))
  have Hr2 := hid_ (fun h => right_name Ha.out (.inr h))
  have Hr3 := hid_ (right_ok Ha.out)
  obtain ⟨t, i, p, st, ln, sv, nm, f⟩ := s
  simp only at h0 h0' h1 h2
  have e1 : ((t : Int) == 0) = false := by rw [beq_eq_false_iff_ne]; omega
  have e2 : ((i : Int) == 0) = false := by rw [beq_eq_false_iff_ne]; omega
  clear h0 h0'
  go_enter Tryz.func76, Tryz.ntmps76
  go_wp2_with fail
  refine (Ht.out _).mono ?_
  rintro e w1 ⟨rfl, hb⟩
  have Hb1 := hid_ (((Below.refl w.heap.size w).alloc (Nat.le_refl _) _).trans (hb.mono (by simp)))
  clear hb
  have i0 : ∀ w, (Instr.index 122 (.agg #[.string sv, .string nm]) (.int .i64 0)).run Tryz.prog w = .ok (.string sv) w := fun _ => by kernel_rfl
  have i1 : ∀ w, (Instr.index 122 (.agg #[.string sv, .string nm]) (.int .i64 1)).run Tryz.prog w = .ok (.string nm) w := fun _ => by kernel_rfl
  go_wp2_with fail
  go_loopw [26] (fun vi wr => ∃ k : Nat, k ≤ 2 ∧ vi = .int .i64 (k : Nat) ∧ Below w.heap.size w wr ∧ Hid (1 ≤ k → nameOk sv = true) ∧ Hid (2 ≤ k → nameOk nm = true)) (fun vi _ => 2 - (intOf vi).toNat)
  case atStart => exact ⟨0, by omega, rfl, Hb1.out, hid_ (by omega), hid_ (by omega)⟩
  case round =>
    obtain ⟨k, hk, rfl, hb, H1, H2⟩ := hrel
    have Hb := hid_ hb
    clear hb
    rcases (show k = 0 ∨ k = 1 ∨ k = 2 by omega) with rfl | rfl | rfl
    · go_wp2_with fail
      refine (Hsv.out _).mono ?_
      rintro e w2 ⟨rfl, hb2⟩
      have Hb2 := hid_ (Hb.out.trans (hb2.mono Hb.out.size))
      clear hb2
      cases hsv : nameOk sv
      · rw [kind_bad hsv]
        have Hk := hid_ (Hr1.out hsv)
        clear hsv
        go_wp2_with fail
        go_ret
        exact kindIs_mk Hk.out Hb2.out
      · rw [kind_good hsv]
        have Hn := hid_ hsv
        clear hsv
        go_wp2_with fail
        go_roundw
        case rel => exact ⟨1, by omega, rfl, Hb2.out, hid_ (fun _ => Hn.out), hid_ (by omega)⟩
        case measure => simp [intOf]
    · go_wp2_with fail
      refine (Hnm.out _).mono ?_
      rintro e w2 ⟨rfl, hb2⟩
      have Hb2 := hid_ (Hb.out.trans (hb2.mono Hb.out.size))
      clear hb2
      cases hnm : nameOk nm
      · rw [kind_bad hnm]
        have Hk := hid_ (Hr2.out hnm)
        clear hnm
        go_wp2_with fail
        go_ret
        exact kindIs_mk Hk.out Hb2.out
      · rw [kind_good hnm]
        have Hn := hid_ hnm
        clear hnm
        go_wp2_with fail
        go_roundw
        case rel => exact ⟨2, by omega, rfl, Hb2.out, hid_ (fun _ => H1.out (by omega)), hid_ (fun _ => Hn.out)⟩
        case measure => simp [intOf]
    · have Hk := hid_ (Hr3.out (H1.out (by omega)) (H2.out (by omega)))
      go_wp2_with fail
      go_ret
      exact kindIs_mk Hk.out Hb.out
end Go.Proofs.YtnpbokbfkdncmaaGreat

/-
  What the program's putNumber and Put answer.
-/
namespace Go.Proofs.YtnpbokbfkdncmaaGreat
open Go.RowKit Ru

theorem byte_hi (x j : Nat) : (x : Int) / 2 ^ (8 * j) % 256 = ((byteOf x j).toNat : Int) := by
  rw [byteOf_toNat, show (256 : Nat) ^ j = 2 ^ (8 * j) by rw [Nat.pow_mul], Int.natCast_emod, Int.natCast_ediv, Int.natCast_pow]
  rfl

set_option maxHeartbeats 1000000 in
theorem putNumber_any (B : Nat) (A : Option Addr) (n c : Nat) (l : List UInt8) (x : Nat) (w : World) (hown : Own B w A n c l) (hB : B ≤ w.heap.size) (hn : n ≤ 140737488000000) :
    Calls Tryz.prog 78 #[.slice A n c, .int .u64 (x : Nat)] w fun e w' => ∃ A' c', e = .returned (.slice A' (n + 8) c') ∧ Own B w' A' (n + 8) c' (l ++ eight x) ∧ Below B w w' := by
  have Ho0 := hid_ hown
  clear hown
  go_enter Tryz.func78, Tryz.ntmps78
  go_wp2
  go_loopw [0, 6] (fun v i wr => ∃ (k : Nat) (A1 : Option Addr) (c1 : Nat), k ≤ 8 ∧ i = .int .i64 (k : Nat) ∧ v = .slice A1 (n + k) c1 ∧ Own B wr A1 (n + k) c1 (l ++ eightK x k) ∧ Below B w wr) (fun _ i _ => 8 - (intOf i).toNat)
  case atStart => exact ⟨0, A, c, by omega, rfl, rfl, by rw [show eightK x 0 = [] from rfl, List.append_nil]; exact Ho0.out, Below.refl _ _⟩
  case round =>
    obtain ⟨k, A1, c1, hk, rfl, rfl, ho, hb⟩ := hrel
    have Ho := hid_ ho
    have Hb := hid_ hb
    clear ho hb
    by_cases hlt : k < 8
    · obtain ⟨j, hj⟩ : ∃ j : Nat, j = 7 - k := ⟨_, rfl⟩
      have hjk : (7 : Int) - (k : Int) = (j : Int) := by omega
      have Hes := hid_ (show l ++ eightK x (k + 1) = (l ++ eightK x k) ++ [byteOf x j] by rw [eightK_succ, List.append_assoc, hj])
      have Hy := hid_ (byte_hi x j)
      clear hj
      go_wp2_with (at_builtin; refine wpList_bytes rfl (.tmp 9) (.tmp 16) rfl B A1 (n + k) c1 _ rfl (Ho.out.alloc _) (some ⟨wr.heap.size, 0, none⟩) 1 1 [byteOf x j] rfl (own_lit wr [byteOf x j] _ (by rw [Hy.out]; rfl) 1 rfl (by omega) wr.heap.size (Nat.le_refl _)).sl (n + (k + 1)) (l ++ eightK x (k + 1)) rfl Hes.out.symm (by omega) (by have := Hb.out.size; simp; omega) ?_; intro A2 c2 w2 ho' hb'; have Ho2 := hid_ ho'; have Hb2 := hid_ ((Hb.out.alloc (Nat.le_trans hB Hb.out.size) _).trans hb'); clear ho' hb')
      go_roundw
      case rel => exact ⟨k + 1, A2, c2, by omega, by go_num, rfl, Ho2.out, Hb2.out⟩
      case measure => simp [intOf]; omega
    · have hk8 : k = 8 := by omega
      subst hk8
      go_wp2_with fail
      go_ret
      exact ⟨A1, c1, rfl, Ho.out, Hb.out⟩

/-- A span that lies in a block of its own. -/
structure Box (w : World) (b : Nat) (s : SpanD) : Prop where
  c0 : w.cell? ⟨b, 0, none⟩ = some (.int .u64 (s.trace : Nat))
  c1 : w.cell? ⟨b, 1, none⟩ = some (.int .u64 (s.id : Nat))
  c2 : w.cell? ⟨b, 2, none⟩ = some (.int .u64 (s.parent : Nat))
  c3 : w.cell? ⟨b, 3, none⟩ = some (.int .u64 (s.start : Nat))
  c4 : w.cell? ⟨b, 4, none⟩ = some (.int .u64 (s.len : Nat))
  c5 : w.cell? ⟨b, 5, none⟩ = some (.string s.service)
  c6 : w.cell? ⟨b, 6, none⟩ = some (.string s.name)
  c7 : w.cell? ⟨b, 7, none⟩ = some (.bool s.fail)
theorem Box.below {w w' : World} {b B : Nat} {s : SpanD} (h : Box w b s) (hb : Below B w w') (hB : b < B) : Box w' b s := by
  obtain ⟨h0, h1, h2, h3, h4, h5, h6, h7⟩ := h
  have k : ∀ o, w'.cell? ⟨b, o, none⟩ = w.cell? ⟨b, o, none⟩ := fun o => hb.cell (p := ⟨b, o, none⟩) hB
  exact ⟨by rw [k]; exact h0, by rw [k]; exact h1, by rw [k]; exact h2, by rw [k]; exact h3, by rw [k]; exact h4, by rw [k]; exact h5, by rw [k]; exact h6, by rw [k]; exact h7⟩
theorem box_new (w : World) (s : SpanD) (T : TypeId) : Box (w.alloc (.cells (spanCells s) T)) w.heap.size s :=
  ⟨by rw [World.cell?_alloc_mark]; rfl, by rw [World.cell?_alloc_mark]; rfl, by rw [World.cell?_alloc_mark]; rfl, by rw [World.cell?_alloc_mark]; rfl, by rw [World.cell?_alloc_mark]; rfl, by rw [World.cell?_alloc_mark]; rfl, by rw [World.cell?_alloc_mark]; rfl, by rw [World.cell?_alloc_mark]; rfl⟩

set_option maxHeartbeats 1000000 in
theorem put_no (A : Option Addr) (n c : Nat) (l0 : List UInt8) (s : SpanD) (w : World) (hs : s.Wf) (hk : rightF s ≠ 0) :
    Calls Tryz.prog 45 #[.slice A n c, spanVal s] w (SpanPost w l0 s) := by
  have Hr := hid_ (fun W => right_any s W hs)
  generalize hK : rightF s = K at hk
  have HK := hid_ hK
  have hkb : (K != 0) = true := by rw [bne_iff_ne]; exact hk
  have Hk := hid_ hk
  clear hK hk
  go_enter Tryz.func45, Tryz.ntmps45
  go_wp2_with fail
  refine (Hr.out _).mono ?_
  rintro e w1 ⟨rfl, hb⟩
  rw [HK.out]
  have Hb := hid_ hb
  clear hb
  go_wp2_with fail
  go_ret2
  exact spanPost_no HK.out Hk.out (((Below.refl _ _).alloc (Nat.le_refl _) _).trans (Hb.out.mono (by simp)))

theorem truth_flag (b : Bool) (w : World) :
    Calls Tryz.prog 79 #[.bool b] w fun e w' => e = .returned (.int .u8 ((flag b).toNat : Int)) ∧ w = w' :=
  (truth_any b w).mono fun e w' ⟨h1, h2⟩ => ⟨by rw [h1]; cases b <;> rfl, h2⟩
def tailK (s : SpanD) (k : Nat) : List UInt8 := ([s.service, s.name].take k).flatMap textF
theorem tailK_length (s : SpanD) {k : Nat} (hk : k ≤ 2) (h1 : s.service.size ≤ 32) (h2 : s.name.size ≤ 32) : (tailK s k).length ≤ 66 := by
  unfold tailK
  rcases (show k = 0 ∨ k = 1 ∨ k = 2 by omega) with rfl | rfl | rfl
  all_goals simp [textF_length]
  all_goals omega
theorem tailK_succ (s : SpanD) {k : Nat} (h : k < 2) : tailK s (k + 1) = tailK s k ++ textF (textAt s k) := by
  rcases (show k = 0 ∨ k = 1 by omega) with rfl | rfl
  · simp [tailK, textAt]
  · simp [tailK, textAt]
theorem put_len (s : SpanD) (k : Nat) : (headK s k).length = 8 * min k 5 := by
  unfold headK
  have : ∀ l : List Nat, (l.flatMap eight).length = 8 * l.length := fun l => by
    induction l with
    | nil => rfl
    | cons a l ih => rw [List.flatMap_cons, List.length_append, ih, eight_length, List.length_cons]; omega
  rw [this, List.length_take, numsN_length]

set_option maxRecDepth 100000 in
set_option maxHeartbeats 4000000 in
theorem put_ok (A : Option Addr) (n c : Nat) (l0 : List UInt8) (s : SpanD) (w : World) (hd : Sl w A n c l0) (hn : n ≤ 140737480000000) (hs : s.Wf) (hk : rightF s = 0) :
    Calls Tryz.prog 45 #[.slice A n c, spanVal s] w (SpanPost w l0 s) := by
  have Hr := hid_ (fun W => right_any s W hs)
  have Hnu := hid_ (fun W => numbers_any s W)
  have Htx := hid_ (fun W => texts_any s W)
  have HK := hid_ hk
  have Hs := hid_ hs
  have Hd := hid_ hd
  have hz := right_zero hk
  have Hsv := hid_ (name_sizes hz.2.1)
  have Hnm := hid_ (name_sizes hz.2.2)
  clear hk hs hd hz
  go_enter Tryz.func45, Tryz.ntmps45
  go_wp2_with fail
  refine (Hr.out _).mono ?_
  rintro e w1 ⟨rfl, hb⟩
  rw [HK.out]
  have Hx1 := hid_ ((box_new w s 44).below hb (by simp))
  have Hb1 := hid_ (((Below.refl w.heap.size w).alloc (Nat.le_refl _) (.cells (spanCells s) 44)).trans (hb.mono (by simp)))
  have hz1 : w.heap.size < w1.heap.size := by have := hb.size; simp at this; omega
  clear hb
  have Hd1 := hid_ (Hd.out.below Hb1.out)
  go_wp2_with (first
    | ((with_reducible refine wpList_makeBytes rfl _ _ rfl _ (n + 107) rfl rfl (by omega) (by omega) ?_); intro A1 c1 w2 ho' hb'; have Ho1 := hid_ ho'; have Hb2 := hid_ hb'; have Hd2 := hid_ (Hd1.out.below hb'); clear ho' hb')
    | (at_builtin; refine wpList_bytes rfl (.tmp 23) (.tmp 24) rfl w1.heap.size _ 0 _ [] rfl Ho1.out A n c l0 rfl Hd2.out n l0 (by omega) rfl (by omega) (Hb2.out.size) ?_; intro A2 c2 w3 ho' hb'; have Ho3 := hid_ ho'; have Hb3 := hid_ (Hb2.out.trans hb'); obtain ⟨x0, x1, x2, x3, x4, x5, x6, x7⟩ := Hx1.out.below Hb3.out hz1; clear ho' hb'))
  refine (Hnu.out _).mono ?_
  rintro e w4 ⟨rfl, hb4⟩
  have Hb4 := hid_ (Hb3.out.trans (hb4.mono Hb3.out.size))
  have Ho4 := hid_ (Ho3.out.later hb4)
  clear hb4 x0 x1 x2 x3 x4 x5 x6 x7
  have Hidx := hid_ (show ∀ k (_ : k < (numsN s).length) w, (Instr.index 119 (numbersVal s) (.int .i64 (k : Nat))).run Tryz.prog w = .ok (.int .u64 ((numsN s)[k] : Nat)) w by
    intro k hk w
    rw [numsN_length] at hk
    rcases (show k = 0 ∨ k = 1 ∨ k = 2 ∨ k = 3 ∨ k = 4 by omega) with rfl | rfl | rfl | rfl | rfl
    all_goals kernel_rfl)
  go_wp2_with fail
  go_loopw [7, 28] (fun vb vi wr => ∃ k Ab cb, k ≤ 5 ∧ vi = .int .i64 (k : Nat) ∧ vb = .slice Ab (n + 8 * k) cb ∧ Own w1.heap.size wr Ab (n + 8 * k) cb (l0 ++ headK s k) ∧ Below w1.heap.size w1 wr) (fun _ vi _ => 5 - (intOf vi).toNat)
  case atStart => exact ⟨0, A2, c2, by omega, rfl, rfl, by rw [show headK s 0 = [] from rfl, List.append_nil]; exact Ho4.out, Hb4.out⟩
  case round =>
    obtain ⟨k, Ab, cb, hk, rfl, rfl, ho, hb⟩ := hrel
    have Ho := hid_ ho
    have Hbl := hid_ hb
    clear ho hb
    by_cases hlt : k < 5
    · have hkl : k < (numsN s).length := by rw [numsN_length]; exact hlt
      have hix := Hidx.out k hkl
      have Hh := hid_ (headK_succ s hkl)
      generalize (numsN s)[k] = x at *
      go_wp2_with fail
      refine Calls.mono (putNumber_any w1.heap.size Ab (n + 8 * k) cb _ x wr Ho.out Hbl.out.size (by omega)) ?_
      rintro e w5 ⟨A5, c5, rfl, ho', hb'⟩
      have Ho5 := hid_ ho'
      have Hb5 := hid_ (Hbl.out.trans hb')
      clear ho' hb'
      go_wp2_with fail
      go_roundw
      case rel => exact ⟨k + 1, A5, c5, by omega, by go_num, by rw [show n + 8 * (k + 1) = n + 8 * k + 8 by omega], by rw [Hh.out, ← List.append_assoc]; exact Ho5.out, Hb5.out⟩
      case measure => simp [intOf]; omega
    · obtain rfl : k = 5 := by omega
      have hzr : w.heap.size < wr.heap.size := by have := Hbl.out.size; omega
      have x7 := (Hx1.out.below Hbl.out hz1).c7
      have Htr := hid_ (fun W => truth_flag s.fail W)
      go_wp2_with fail
      refine (Htr.out _).mono ?_
      rintro e w5 ⟨rfl, rfl⟩
      clear x7
      go_wp2_with (at_builtin; refine wpList_bytes rfl (.tmp 35) (.tmp 39) rfl w1.heap.size Ab (n + 8 * 5) cb _ rfl (Ho.out.alloc _) (some ⟨wr.heap.size, 0, none⟩) 1 1 [flag s.fail] rfl (own_lit wr [flag s.fail] _ rfl 1 rfl (by omega) wr.heap.size (Nat.le_refl _)).sl (n + 41) (l0 ++ headK s 5 ++ [flag s.fail]) (by omega) rfl (by omega) (by have := Hbl.out.size; simp; omega) ?_; intro A6 c6 w6 ho' hb'; have Ho6 := hid_ ho'; have Hb6 := hid_ ((Hbl.out.alloc Hbl.out.size _).trans hb'); obtain ⟨x0, x1, x2, x3, x4, x5, x6, x7⟩ := Hx1.out.below Hb6.out hz1; clear ho' hb')
      refine (Htx.out _).mono ?_
      rintro e w7 ⟨rfl, hb7⟩
      have Hb7 := hid_ (Hb6.out.trans (hb7.mono Hb6.out.size))
      have Ho7 := hid_ (Ho6.out.later hb7)
      clear hb7 x0 x1 x2 x3 x4 x5 x6 x7
      have Hidx2 := hid_ (show ∀ k (_ : k < 2) w, (Instr.index 122 (textsVal s) (.int .i64 (k : Nat))).run Tryz.prog w = .ok (.string (textAt s k)) w by
        intro k hk w
        rcases (show k = 0 ∨ k = 1 by omega) with rfl | rfl
        all_goals kernel_rfl)
      have Hsz := hid_ (show ∀ k (_ : k < 2), (textAt s k).size ≤ 32 by
        intro k hk
        rcases (show k = 0 ∨ k = 1 by omega) with rfl | rfl
        · exact Hsv.out.2
        · exact Hnm.out.2)
      go_wp2_with fail
      go_loopw [7, 43] (fun vb vi wr => ∃ k Ab m cb, k ≤ 2 ∧ vi = .int .i64 (k : Nat) ∧ vb = .slice Ab m cb ∧ m = n + 41 + (tailK s k).length ∧ Own w1.heap.size wr Ab m cb (l0 ++ headK s 5 ++ [flag s.fail] ++ tailK s k) ∧ Below w1.heap.size w1 wr) (fun _ vi _ => 2 - (intOf vi).toNat)
      case atStart => exact ⟨0, A6, n + 41, c6, by omega, rfl, rfl, rfl, by rw [show tailK s 0 = [] from rfl, List.append_nil]; exact Ho7.out, Hb7.out⟩
      case round =>
        obtain ⟨k, Ab2, m, cb2, hk, rfl, rfl, hm, ho, hb⟩ := hrel
        have Ho8 := hid_ ho
        have Hb8 := hid_ hb
        have Htl := tailK_length s hk Hsv.out.2 Hnm.out.2
        have Hm := hid_ hm
        have hm2 : m ≤ n + 107 := by omega
        clear ho hb hm Htl
        by_cases hlt : k < 2
        · have hix := Hidx2.out k hlt
          have hts := Hsz.out k hlt
          have Ht := hid_ (tailK_succ s hlt)
          have Htf := hid_ (textF_length (textAt s k))
          generalize textAt s k = x at *
          have hsz : (UInt8.ofNat x.size).toNat = x.size := by rw [UInt8.toNat_ofNat']; omega
          have Hy := hid_ (show (Value.int .u8 (x.size : Int)) = .int .u8 ((UInt8.ofNat x.size).toNat : Int) by rw [hsz])
          clear hsz
          go_wp2_with (first
            | (at_builtin; refine wpList_bytes rfl (.tmp 46) (.tmp 50) rfl w1.heap.size Ab2 m cb2 _ rfl (Ho8.out.alloc _) (some ⟨wr.heap.size, 0, none⟩) 1 1 [UInt8.ofNat x.size] rfl (own_lit wr [UInt8.ofNat x.size] _ (by rw [Hy.out]; rfl) 1 rfl (by omega) wr.heap.size (Nat.le_refl _)).sl (m + 1) _ rfl rfl (by omega) (by have := Hb8.out.size; simp; omega) ?_; intro A9 c9 w9 ho' hb'; have Ho9 := hid_ ho'; have Hb9 := hid_ ((Hb8.out.alloc Hb8.out.size _).trans hb'); clear ho' hb')
            | (at_builtin; refine wpList_string rfl (.tmp 52) (.tmp 53) rfl w1.heap.size A9 (m + 1) c9 _ rfl Ho9.out x rfl (m + (1 + x.size)) _ (by omega) rfl (by omega) Hb9.out.size ?_; intro A10 c10 w10 ho' hb'; have Ho10 := hid_ ho'; have Hb10 := hid_ (Hb9.out.trans hb'); clear ho' hb'))
          go_roundw
          case rel => exact ⟨k + 1, A10, m + (1 + x.size), c10, by omega, by go_num, rfl, by rw [Ht.out, List.length_append, Htf.out, Hm.out]; omega, Ho10.out.at_ rfl (by rw [Ht.out]; simp only [List.append_assoc]; rfl), Hb10.out⟩
          case measure => simp [intOf]; omega
        · obtain rfl : k = 2 := by omega
          go_wp2_with fail
          go_ret2
          refine spanPost_ok HK.out ((Ho8.out.mono Hb1.out.size).at_ rfl ?_) (Hb1.out.trans (Hb8.out.mono Hb1.out.size))
          rw [putF]
          simp [tailK]
theorem put_any (A : Option Addr) (n c : Nat) (l0 : List UInt8) (s : SpanD) (w : World) (hd : Sl w A n c l0) (hn : n ≤ 140737480000000) (hs : s.Wf) :
    Calls Tryz.prog 45 #[.slice A n c, spanVal s] w (SpanPost w l0 s) := by
  by_cases h : rightF s = 0
  · exact put_ok A n c l0 s w hd hn hs h
  · exact put_no A n c l0 s w hs h
theorem refput_any (A : Option Addr) (n c : Nat) (l0 : List UInt8) (s : SpanD) (w : World) (hd : Sl w A n c l0) (hn : n ≤ 140737480000000) (hs : s.Wf) :
    Calls Tryz.prog 53 #[.slice A n c, spanVal s] w (SpanPost w l0 s) := by
  by_cases h : rightF s = 0
  · exact refput_ok A n c l0 s w hd hn hs h
  · exact refput_no A n c l0 s w hs h
end Go.Proofs.YtnpbokbfkdncmaaGreat

/-
  What the program's number, partedText and bytes.Clone answer.
-/
namespace Go.Proofs.YtnpbokbfkdncmaaGreat
open Go.RowKit Ru

theorem numB_or (l : List UInt8) {k : Nat} (hk : k < 8) (hl : k < l.length) : bits BinOp.or IntKind.u64 (IntKind.u64.wrap ((numB l k : Nat) * 256)) (IntKind.u64.wrap (l[k].toNat : Int)) = (numB l (k + 1) : Nat) := by
  have h2 := numB_lt l k
  have h3 : (256 : Nat) ^ k ≤ 256 ^ 7 := Nat.pow_le_pow_right (by omega) (by omega)
  rw [show (256 : Nat) ^ 7 = 72057594037927936 from rfl] at h3
  have e : (l.getD k 0) = l[k] := by rw [List.getD_eq_getElem?_getD, List.getElem?_eq_getElem hl]; rfl
  have h4 : numB l (k + 1) = numB l k * 256 + l[k].toNat := by rw [numB, e]
  have hc := UInt8.toNat_lt l[k]
  rw [wrap_u64, wrap_u64, h4]
  rw [show ((numB l k : Nat) : Int) * 256 % 18446744073709551616 = ((numB l k * 256 : Nat) : Int) by omega, show (l[k].toNat : Int) % 18446744073709551616 = (l[k].toNat : Int) by omega, u64_or_nat _ _ (by omega) (by omega)]
  have h5 := Nat.shiftLeft_add_eq_or_of_lt (b := l[k].toNat) (i := 8) (by omega) (numB l k)
  rw [Nat.shiftLeft_eq] at h5
  rw [← h5]

set_option maxHeartbeats 1000000 in
theorem number_any (A : Option Addr) (n c : Nat) (l : List UInt8) (w : World) (hs : Sl w A n c l) (h8 : 8 ≤ n) :
    Calls Tryz.prog 103 #[.slice A n c] w fun e w' => e = .returned (.int .u64 (numB l 8 : Nat)) ∧ w = w' := by
  have hle := hs.le
  have hnc := hs.cap
  have Hs := hid_ hs
  have Hlen := hid_ hs.len
  clear hs
  go_enter Tryz.func103, Tryz.ntmps103
  go_wp2
  go_loop [3, 9] (fun v i => ∃ (k : Nat) (z : Nat), k ≤ 8 ∧ i = .int .i64 (k : Nat) ∧ v = .int .u64 (z : Nat) ∧ Hid (numB l k = z)) (fun _ i => 8 - (intOf i).toNat)
  case atStart => exact ⟨0, 0, by omega, rfl, rfl, hid_ rfl⟩
  case round =>
    obtain ⟨k, z, hk, rfl, rfl, HZ⟩ := hrel
    by_cases hlt : k < 8
    · have hkl : k < l.length := by rw [Hlen.out]; omega
      have hkn : k < n := by omega
      obtain ⟨b, off, rfl, hc⟩ := Hs.out.holds.at_ hkl
      go_wp2_with fail
      go_round
      case rel => exact ⟨k + 1, numB l (k + 1), by omega, by go_num, int_at (by rw [← HZ.out]; exact numB_or l hlt hkl), hid_ rfl⟩
      case measure => simp [intOf]; omega
    · have hk8 : k = 8 := by omega
      subst hk8
      go_wp2_with fail
      go_ret
      exact ⟨by rw [HZ.out]; rfl, rfl⟩

/-- .. and what is behind stands wherever the bytes stand. -/
def TextIn (B : Nat) (w0 w : World) (l : List UInt8) (e : Ending) (w' : World) : Prop :=
  ∃ A n c, e = .returned (.tuple #[.string (cutTextF l).2.1, .slice A n c, .int .i64 (cutTextF l).1]) ∧ (∀ W, Below B w0 W → Sl W A n c (cutTextF l).2.2) ∧ Below w.heap.size w w'
theorem textIn_none {B : Nat} {w0 w w' : World} {l : List UInt8} {k : Int} (h : cutTextF l = (k, ByteArray.empty, [])) (hb : Below w.heap.size w w') :
    TextIn B w0 w l (.returned (.tuple #[.string ByteArray.empty, .slice none 0 0, .int .i64 k])) w' := ⟨none, 0, 0, by rw [h], by rw [h]; exact fun W _ => Sl.none _, hb⟩
theorem textIn_ok {B : Nat} {w0 w w' : World} {l r : List UInt8} {s : ByteArray} {A : Option Addr} {n c : Nat} (h : cutTextF l = (0, s, r)) (hr : ∀ W, Below B w0 W → Sl W A n c r) (hb : Below w.heap.size w w') :
    TextIn B w0 w l (.returned (.tuple #[.string s, .slice A n c, .int .i64 0])) w' := ⟨A, n, c, by rw [h], by rw [h]; exact hr, hb⟩
set_option maxHeartbeats 1000000 in
theorem partedText_in (B : Nat) (w0 : World) (A : Option Addr) (n c : Nat) (l : List UInt8) (w : World) (hall : ∀ W, Below B w0 W → Sl W A n c l) (hw0 : Below B w0 w) :
    Calls Tryz.prog 104 #[.slice A n c] w (TextIn B w0 w l) := by
  have hs := hall w hw0
  have Hall := hid_ hall
  have Hw0 := hid_ hw0
  clear hall hw0
  have hle := hs.le
  have hnc := hs.cap
  have hcm := hs.max
  have Hs := hid_ hs
  have Hlen := hid_ hs.len
  by_cases h0 : n = 0
  · have hl : l = [] := List.eq_nil_of_length_eq_zero (by rw [hs.len]; exact h0)
    subst hl
    have e0 : ((n : Int) == 0) = true := by rw [beq_iff_eq]; omega
    have H0 := hid_ h0
    clear h0 hs
    go_enter Tryz.func104, Tryz.ntmps104
    go_wp2
    go_ret3
    exact textIn_none cutText_none (Below.refl _ _)
  have hne : l ≠ [] := by rintro rfl; exact h0 hs.len.symm
  have Hne := hid_ hne
  have e0 : ((n : Int) == 0) = false := by rw [beq_eq_false_iff_ne]; omega
  have hpos : 0 < n := by omega
  obtain ⟨b, off, rfl, hc0⟩ := hs.holds.at_ (k := 0) (by rw [hs.len]; exact hpos)
  have hx : l[0]'(by rw [hs.len]; exact hpos) = l.getD 0 0 := by rw [List.getD_eq_getElem?_getD, List.getElem?_eq_getElem]; rfl
  rw [hx, Nat.add_zero] at hc0
  have Hf := hid_ (cutText_form (l := l) hne)
  have Hsh := hid_ (cutText_short (l := l) hne)
  have Hok := hid_ (cutText_ok (l := l) hne)
  generalize l.getD 0 0 = x at *
  have bx := UInt8.toNat_lt x
  clear hs hne hx h0
  by_cases h1 : x.toNat < 1
  · have Hr := hid_ (Hf.out (.inl h1))
    have e1 : ((1 : Int) + (x.toNat : Int) == 1) = true := by rw [beq_iff_eq]; omega
    go_enter Tryz.func104, Tryz.ntmps104
    go_wp2
    go_ret3
    exact textIn_none Hr.out (Below.refl _ _)
  have e1 : ((1 : Int) + (x.toNat : Int) == 1) = false := by rw [beq_eq_false_iff_ne]; omega
  by_cases h2 : 32 < x.toNat
  · have Hr := hid_ (Hf.out (.inr h2))
    go_enter Tryz.func104, Tryz.ntmps104
    go_wp2
    go_ret3
    exact textIn_none Hr.out (Below.refl _ _)
  by_cases h3 : n - 1 < x.toNat
  · have Hr := hid_ (Hsh.out (by omega) (by rw [Hlen.out]; exact h3))
    have e3 : decide ((n : Int) < 1 + (x.toNat : Int)) = true := decide_eq_true (by omega)
    go_enter Tryz.func104, Tryz.ntmps104
    go_wp2
    go_ret3
    exact textIn_none Hr.out (Below.refl _ _)
  have Hr := hid_ (Hok.out (by omega) (by rw [Hlen.out]; exact h3))
  have e3 : decide ((n : Int) < 1 + (x.toNat : Int)) = false := decide_eq_false (by omega)
  generalize hm : x.toNat = m at *
  have Hm := hid_ hm
  clear hm
  have hc1 : ¬ c = 1 := by omega
  have Hd := (Hs.out.upto (m + 1) (by omega)).from_ 1 (by omega)
  rw [cutAt_add (by omega), Option.map_some, add_plain, show m + 1 - 1 = m by omega] at Hd
  have Hcv := fun q => sl_string (Hd.drew q)
  have Hrest := hid_ (fun W hW => (Hall.out W hW).from_ (m + 1) (by omega))
  clear Hd
  generalize strOf ((l.take (m + 1)).drop 1) = t at *
  go_enter Tryz.func104, Tryz.ntmps104
  go_wp2_with fail
  go_quiet (fail)
  go_wp2_with fail
  all_goals
    go_ret3
    refine textIn_ok Hr.out (fun W hW => (Hrest.out W hW).at_ ?_ (by omega) (by omega) rfl) (below_drewN (Below.refl _ _) _)
    first | exact cutAt_same (by omega) | (rw [cutAt_add (by omega), Option.map_some, add_plain, show m + 1 = 1 + m by omega])

def ClonePost (w : World) (l : List UInt8) (e : Ending) (w' : World) : Prop := ∃ A n c, e = .returned (.slice A n c) ∧ Own w.heap.size w' A n c l ∧ Below w.heap.size w w'
theorem clonePost_mk {w w' : World} {l : List UInt8} {A : Option Addr} {n c : Nat} (h : Own w.heap.size w' A n c l) (hb : Below w.heap.size w w') : ClonePost w l (.returned (.slice A n c)) w' := ⟨A, n, c, rfl, h, hb⟩
set_option maxHeartbeats 1000000 in
theorem clone_any (A : Option Addr) (n c : Nat) (l : List UInt8) (w : World) (hs : Sl w A n c l) (hn : n ≤ 140737488000000) :
    Calls Tryz.prog 55 #[.slice A n c] w (ClonePost w l) := by
  have kc := fun (w : World) (a : Option Addr) (n c n' c' : Nat) => Lib.run_eql_slice_nil (P := Tryz.prog) w 33 5 a n c n' c' Tryz.underlying33
  rcases A with _ | a
  · have h0 := hs.nil rfl
    have hnc := hs.cap
    obtain rfl : n = 0 := by omega
    have hl : l = [] := List.eq_nil_of_length_eq_zero hs.len
    subst hl
    clear hs
    go_enter Tryz.func55, Tryz.ntmps55
    go_wp2_with fail
    go_ret
    exact clonePost_mk (Own.none _ _) (Below.refl _ _)
  · have Hs := hid_ hs
    clear hs
    go_enter Tryz.func55, Tryz.ntmps55
    go_wp2_with (at_builtin; refine wpList_bytes rfl (.tmp 5) (.tmp 6) rfl w.heap.size _ 0 _ [] rfl (own_lit w [] #[] rfl 0 rfl (by omega) _ (Nat.le_refl _)) (some a) n c l rfl (Hs.out.below ((Below.refl _ _).alloc (Nat.le_refl _) _)) n l (by omega) rfl (by omega) (by simp) ?_; intro A1 c1 w2 ho' hb'; have Ho2 := hid_ ho'; have Hb2 := hid_ (((Below.refl _ _).alloc (Nat.le_refl _) _).trans hb'); clear ho' hb')
    go_ret
    exact clonePost_mk Ho2.out Hb2.out
end Go.Proofs.YtnpbokbfkdncmaaGreat
