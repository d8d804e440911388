/-
  What the reference's Rune answers.
-/
import Derived.Test.YtljlhaillmeedaaZGRA
import Derived.Test.YtljlhaillmeedaaZGRB
import Derived.Laws.StructEq
import Derived.Deep.RegionLaw
namespace Go.Proofs.Ytljlhaillmeedaa
set_option linter.unusedSimpArgs false
set_option linter.unusedVariables false
open Go.RowKit Ru

theorem int_at {k : IntKind} {a b : Int} (h : a = b) : Value.int k a = Value.int k b := by rw [h]
def RuneIs (w : World) (s : ByteArray) (e : Ending) (w' : World) : Prop := e = .returned (.tuple #[.int .i32 ((runeF s).1 : Nat), .int .i64 ((runeF s).2 : Nat)]) ∧ w = w'
theorem runeIs_mk {w : World} {s : ByteArray} {r n : Nat} (h : runeF s = (r, n)) : RuneIs w s (.returned (.tuple #[.int .i32 (r : Nat), .int .i64 (n : Nat)])) w := ⟨by rw [h], rfl⟩

set_option maxRecDepth 100000 in
set_option maxHeartbeats 1000000 in
theorem refrune_ascii (s : ByteArray) (w : World) (hp : 0 < s.size) (hs : s.size ≤ 9223372036854775807) (h1 : s[0].toNat < 128) :
    Calls Try.prog 121 #[.string s] w (RuneIs w s) := by
  have e0 : ((s.size : Int) == 0) = false := by rw [beq_eq_false_iff_ne]; omega
  have Hr := hid_ (show runeF s = (s[0].toNat, 1) by unfold runeF; rw [get_eq s 0 hp]; exact rune_ascii _ _ _ _ _ (by omega) h1)
  go_enter Try.func121, Try.ntmps121
  go_wp2
  go_ret2
  exact runeIs_mk Hr.out
set_option maxRecDepth 100000 in
set_option maxHeartbeats 1000000 in
theorem refrune_else (s : ByteArray) (w : World) (hp : 0 < s.size) (hs : s.size ≤ 9223372036854775807) (h1 : 128 ≤ s[0].toNat) (h2 : ¬ (194 ≤ s[0].toNat ∧ s[0].toNat ≤ 244)) :
    Calls Try.prog 121 #[.string s] w (RuneIs w s) := by
  have e0 : ((s.size : Int) == 0) = false := by rw [beq_eq_false_iff_ne]; omega
  have Hr := hid_ (show runeF s = (0, 0) by unfold runeF; exact rune_none _ _ _ _ _ (by rw [get_eq s 0 hp]; omega) (by rw [get_eq s 0 hp]; omega) (UInt8.toNat_lt _))
  by_cases hlow : s[0].toNat < 194
  · clear h2
    go_enter Try.func121, Try.ntmps121
    go_wp2
    go_ret2
    exact runeIs_mk Hr.out
  · have hhigh : 244 < s[0].toNat := by omega
    clear h2
    go_enter Try.func121, Try.ntmps121
    go_wp2
    go_ret2
    exact runeIs_mk Hr.out

set_option maxRecDepth 100000 in
set_option maxHeartbeats 4000000 in
theorem refrune_2 (s : ByteArray) (w : World) (hp : 0 < s.size) (hs : s.size ≤ 9223372036854775807) (h1 : 194 ≤ s[0].toNat) (h2 : s[0].toNat ≤ 223) :
    Calls Try.prog 121 #[.string s] w (RuneIs w s) := by
  have e0 : ((s.size : Int) == 0) = false := by rw [beq_eq_false_iff_ne]; omega
  have Hg0 := hid_ (get_eq s 0 hp)
  have C := hid_ (show 194 ≤ (s.get! 0).toNat ∧ (s.get! 0).toNat ≤ 223 by rw [Hg0.out]; exact ⟨h1, h2⟩)
  by_cases hf : s.size < 2
  · have Hr := hid_ (show runeF s = (0, 0) from rune_few2 _ _ _ _ _ C.out hf)
    go_enter Try.func121, Try.ntmps121
    go_wp2
    go_ret2
    exact runeIs_mk Hr.out
  have hf' : 2 ≤ s.size := by omega
  clear hf
  have t0 : decide ((s[0].toNat : Int) < 128) = false := by simp; omega
  have t1 : decide ((194 : Int) ≤ (s[0].toNat : Int)) = true := by simp; omega
  have t2 : decide ((s[0].toNat : Int) ≤ 223) = true := by simp; omega
  have tn : decide ((s.size : Int) < 2) = false := by simp; omega
  go_enter Try.func121, Try.ntmps121
  go_wp2
  go_loop [7, 8] (fun vr vi => ∃ k R : Nat, 1 ≤ k ∧ k ≤ 2 ∧ vi = .int .i64 k ∧ vr = .int .i32 R ∧ Hid (acc s ((s.get! 0).toNat - 192) k = R) ∧ Hid (Conts s k)) (fun _ vi => 2 - (intOf vi).toNat)
  case atStart => exact ⟨1, s[0].toNat - 192, by omega, by omega, rfl, int_at (by omega), hid_ (by rw [Hg0.out]; rfl), hid_ (Conts.one s)⟩
  case round =>
    obtain ⟨k, R, hk1, hk, rfl, rfl, HR, HC⟩ := hrel
    have hRb : R < 64 ^ k := by rw [← HR.out]; exact acc_lt (by have := C.out; omega) k hk1 (by omega) HC.out
    have hp4 : (64 : Nat) ^ k ≤ 16777216 := Nat.le_trans (Nat.pow_le_pow_right (by omega) (show k ≤ 4 by omega)) (Nat.le_refl _)
    have hR4 : R ≤ 16777216 := by omega
    clear hRb hp4
    by_cases hlt : k < 2
    · have hks : k < s.size := by omega
      have hgk := get_eq s k hks
      have bk : s[k].toNat < 256 := UInt8.toNat_lt _
      by_cases hc : 128 ≤ s[k].toNat ∧ s[k].toNat ≤ 191
      · have HC2 := hid_ (HC.out.succ (by rw [hgk]; exact hc))
        have HR2 := hid_ (show acc s ((s.get! 0).toNat - 192) (k + 1) = R * 64 + s[k].toNat - 128 by rw [acc_succ _ _ hk1, HR.out, hgk])
        obtain ⟨hca, hcb⟩ := hc
        clear hgk
        go_wp2
        go_round
        case rel => exact ⟨k + 1, R * 64 + s[k].toNat - 128, by omega, by omega, by go_num, int_at (by omega), HR2, HC2⟩
        case measure => simp [intOf]; omega
      · have Hr := hid_ (runeF_2_not C.out k hk1 hlt (by rw [hgk]; exact hc))
        clear hgk
        by_cases hlo : s[k].toNat < 128
        · go_wp2
          go_ret2
          exact runeIs_mk Hr.out
        · have hhi : 191 < s[k].toNat := by omega
          go_wp2
          go_ret2
          exact runeIs_mk Hr.out
    · obtain rfl : k = 2 := by omega
      have hF := runeF_2 C.out hf' HC.out R HR.out
      cases hfit : fits 128 R
      · rw [if_neg (by rw [hfit]; decide)] at hF
        have Hr := hid_ hF
        have hno := fits_no hfit
        clear hF hfit
        rcases (show R < 128 ∨ (128 ≤ R ∧ 1114111 < R) ∨ (128 ≤ R ∧ R ≤ 1114111 ∧ 55296 ≤ R ∧ R ≤ 57343) by omega) with hx | ⟨hx, hy⟩ | ⟨hx, hy, hz, hz2⟩
        all_goals
          clear hno
          first
            | (exfalso; omega)
            | (go_wp2
               go_ret2
               exact runeIs_mk Hr.out)
      · rw [if_pos hfit] at hF
        have Hr := hid_ hF
        obtain ⟨hx, hy, hz⟩ := fits_yes hfit
        clear hF hfit
        by_cases hq : 55296 ≤ R
        · have hq2 : 57343 < R := by omega
          clear hz
          go_wp2
          go_ret2
          exact runeIs_mk Hr.out
        · clear hz
          first
            | (exfalso; omega)
            | (go_wp2
               go_ret2
               exact runeIs_mk Hr.out)

set_option maxRecDepth 100000 in
set_option maxHeartbeats 4000000 in
theorem refrune_3 (s : ByteArray) (w : World) (hp : 0 < s.size) (hs : s.size ≤ 9223372036854775807) (h1 : 224 ≤ s[0].toNat) (h2 : s[0].toNat ≤ 239) :
    Calls Try.prog 121 #[.string s] w (RuneIs w s) := by
  have e0 : ((s.size : Int) == 0) = false := by rw [beq_eq_false_iff_ne]; omega
  have Hg0 := hid_ (get_eq s 0 hp)
  have C := hid_ (show 224 ≤ (s.get! 0).toNat ∧ (s.get! 0).toNat ≤ 239 by rw [Hg0.out]; exact ⟨h1, h2⟩)
  by_cases hf : s.size < 3
  · have Hr := hid_ (show runeF s = (0, 0) from rune_few3 _ _ _ _ _ C.out hf)
    go_enter Try.func121, Try.ntmps121
    go_wp2
    go_ret2
    exact runeIs_mk Hr.out
  have hf' : 3 ≤ s.size := by omega
  clear hf
  have t0 : decide ((s[0].toNat : Int) < 128) = false := by simp; omega
  have t1 : decide ((194 : Int) ≤ (s[0].toNat : Int)) = true := by simp; omega
  have t2 : decide ((s[0].toNat : Int) ≤ 223) = false := by simp; omega
  have t3 : decide ((224 : Int) ≤ (s[0].toNat : Int)) = true := by simp; omega
  have t4 : decide ((s[0].toNat : Int) ≤ 239) = true := by simp; omega
  have tn : decide ((s.size : Int) < 3) = false := by simp; omega
  go_enter Try.func121, Try.ntmps121
  go_wp2
  go_loop [7, 8] (fun vr vi => ∃ k R : Nat, 1 ≤ k ∧ k ≤ 3 ∧ vi = .int .i64 k ∧ vr = .int .i32 R ∧ Hid (acc s ((s.get! 0).toNat - 224) k = R) ∧ Hid (Conts s k)) (fun _ vi => 3 - (intOf vi).toNat)
  case atStart => exact ⟨1, s[0].toNat - 224, by omega, by omega, rfl, int_at (by omega), hid_ (by rw [Hg0.out]; rfl), hid_ (Conts.one s)⟩
  case round =>
    obtain ⟨k, R, hk1, hk, rfl, rfl, HR, HC⟩ := hrel
    have hRb : R < 64 ^ k := by rw [← HR.out]; exact acc_lt (by have := C.out; omega) k hk1 (by omega) HC.out
    have hp4 : (64 : Nat) ^ k ≤ 16777216 := Nat.le_trans (Nat.pow_le_pow_right (by omega) (show k ≤ 4 by omega)) (Nat.le_refl _)
    have hR4 : R ≤ 16777216 := by omega
    clear hRb hp4
    by_cases hlt : k < 3
    · have hks : k < s.size := by omega
      have hgk := get_eq s k hks
      have bk : s[k].toNat < 256 := UInt8.toNat_lt _
      by_cases hc : 128 ≤ s[k].toNat ∧ s[k].toNat ≤ 191
      · have HC2 := hid_ (HC.out.succ (by rw [hgk]; exact hc))
        have HR2 := hid_ (show acc s ((s.get! 0).toNat - 224) (k + 1) = R * 64 + s[k].toNat - 128 by rw [acc_succ _ _ hk1, HR.out, hgk])
        obtain ⟨hca, hcb⟩ := hc
        clear hgk
        go_wp2
        go_round
        case rel => exact ⟨k + 1, R * 64 + s[k].toNat - 128, by omega, by omega, by go_num, int_at (by omega), HR2, HC2⟩
        case measure => simp [intOf]; omega
      · have Hr := hid_ (runeF_3_not C.out k hk1 hlt (by rw [hgk]; exact hc))
        clear hgk
        by_cases hlo : s[k].toNat < 128
        · go_wp2
          go_ret2
          exact runeIs_mk Hr.out
        · have hhi : 191 < s[k].toNat := by omega
          go_wp2
          go_ret2
          exact runeIs_mk Hr.out
    · obtain rfl : k = 3 := by omega
      have hF := runeF_3 C.out hf' HC.out R HR.out
      cases hfit : fits 2048 R
      · rw [if_neg (by rw [hfit]; decide)] at hF
        have Hr := hid_ hF
        have hno := fits_no hfit
        clear hF hfit
        rcases (show R < 2048 ∨ (2048 ≤ R ∧ 1114111 < R) ∨ (2048 ≤ R ∧ R ≤ 1114111 ∧ 55296 ≤ R ∧ R ≤ 57343) by omega) with hx | ⟨hx, hy⟩ | ⟨hx, hy, hz, hz2⟩
        all_goals
          clear hno
          first
            | (exfalso; omega)
            | (go_wp2
               go_ret2
               exact runeIs_mk Hr.out)
      · rw [if_pos hfit] at hF
        have Hr := hid_ hF
        obtain ⟨hx, hy, hz⟩ := fits_yes hfit
        clear hF hfit
        by_cases hq : 55296 ≤ R
        · have hq2 : 57343 < R := by omega
          clear hz
          go_wp2
          go_ret2
          exact runeIs_mk Hr.out
        · clear hz
          first
            | (exfalso; omega)
            | (go_wp2
               go_ret2
               exact runeIs_mk Hr.out)

set_option maxRecDepth 100000 in
set_option maxHeartbeats 4000000 in
theorem refrune_4 (s : ByteArray) (w : World) (hp : 0 < s.size) (hs : s.size ≤ 9223372036854775807) (h1 : 240 ≤ s[0].toNat) (h2 : s[0].toNat ≤ 244) :
    Calls Try.prog 121 #[.string s] w (RuneIs w s) := by
  have e0 : ((s.size : Int) == 0) = false := by rw [beq_eq_false_iff_ne]; omega
  have Hg0 := hid_ (get_eq s 0 hp)
  have C := hid_ (show 240 ≤ (s.get! 0).toNat ∧ (s.get! 0).toNat ≤ 244 by rw [Hg0.out]; exact ⟨h1, h2⟩)
  by_cases hf : s.size < 4
  · have Hr := hid_ (show runeF s = (0, 0) from rune_few4 _ _ _ _ _ C.out hf)
    go_enter Try.func121, Try.ntmps121
    go_wp2
    go_ret2
    exact runeIs_mk Hr.out
  have hf' : 4 ≤ s.size := by omega
  clear hf
  have t0 : decide ((s[0].toNat : Int) < 128) = false := by simp; omega
  have t1 : decide ((194 : Int) ≤ (s[0].toNat : Int)) = true := by simp; omega
  have t2 : decide ((s[0].toNat : Int) ≤ 223) = false := by simp; omega
  have t3 : decide ((224 : Int) ≤ (s[0].toNat : Int)) = true := by simp; omega
  have t4 : decide ((s[0].toNat : Int) ≤ 239) = false := by simp; omega
  have t5 : decide ((240 : Int) ≤ (s[0].toNat : Int)) = true := by simp; omega
  have t6 : decide ((s[0].toNat : Int) ≤ 244) = true := by simp; omega
  have tn : decide ((s.size : Int) < 4) = false := by simp; omega
  go_enter Try.func121, Try.ntmps121
  go_wp2
  go_loop [7, 8] (fun vr vi => ∃ k R : Nat, 1 ≤ k ∧ k ≤ 4 ∧ vi = .int .i64 k ∧ vr = .int .i32 R ∧ Hid (acc s ((s.get! 0).toNat - 240) k = R) ∧ Hid (Conts s k)) (fun _ vi => 4 - (intOf vi).toNat)
  case atStart => exact ⟨1, s[0].toNat - 240, by omega, by omega, rfl, int_at (by omega), hid_ (by rw [Hg0.out]; rfl), hid_ (Conts.one s)⟩
  case round =>
    obtain ⟨k, R, hk1, hk, rfl, rfl, HR, HC⟩ := hrel
    have hRb : R < 64 ^ k := by rw [← HR.out]; exact acc_lt (by have := C.out; omega) k hk1 (by omega) HC.out
    have hp4 : (64 : Nat) ^ k ≤ 16777216 := Nat.le_trans (Nat.pow_le_pow_right (by omega) (show k ≤ 4 by omega)) (Nat.le_refl _)
    have hR4 : R ≤ 16777216 := by omega
    clear hRb hp4
    by_cases hlt : k < 4
    · have hks : k < s.size := by omega
      have hgk := get_eq s k hks
      have bk : s[k].toNat < 256 := UInt8.toNat_lt _
      by_cases hc : 128 ≤ s[k].toNat ∧ s[k].toNat ≤ 191
      · have HC2 := hid_ (HC.out.succ (by rw [hgk]; exact hc))
        have HR2 := hid_ (show acc s ((s.get! 0).toNat - 240) (k + 1) = R * 64 + s[k].toNat - 128 by rw [acc_succ _ _ hk1, HR.out, hgk])
        obtain ⟨hca, hcb⟩ := hc
        clear hgk
        go_wp2
        go_round
        case rel => exact ⟨k + 1, R * 64 + s[k].toNat - 128, by omega, by omega, by go_num, int_at (by omega), HR2, HC2⟩
        case measure => simp [intOf]; omega
      · have Hr := hid_ (runeF_4_not C.out k hk1 hlt (by rw [hgk]; exact hc))
        clear hgk
        by_cases hlo : s[k].toNat < 128
        · go_wp2
          go_ret2
          exact runeIs_mk Hr.out
        · have hhi : 191 < s[k].toNat := by omega
          go_wp2
          go_ret2
          exact runeIs_mk Hr.out
    · obtain rfl : k = 4 := by omega
      have hF := runeF_4 C.out hf' HC.out R HR.out
      cases hfit : fits 65536 R
      · rw [if_neg (by rw [hfit]; decide)] at hF
        have Hr := hid_ hF
        have hno := fits_no hfit
        clear hF hfit
        rcases (show R < 65536 ∨ (65536 ≤ R ∧ 1114111 < R) ∨ (65536 ≤ R ∧ R ≤ 1114111 ∧ 55296 ≤ R ∧ R ≤ 57343) by omega) with hx | ⟨hx, hy⟩ | ⟨hx, hy, hz, hz2⟩
        all_goals
          clear hno
          first
            | (exfalso; omega)
            | (go_wp2
               go_ret2
               exact runeIs_mk Hr.out)
      · rw [if_pos hfit] at hF
        have Hr := hid_ hF
        obtain ⟨hx, hy, hz⟩ := fits_yes hfit
        clear hF hfit
        by_cases hq : 55296 ≤ R
        · have hq2 : 57343 < R := by omega
          clear hz
          go_wp2
          go_ret2
          exact runeIs_mk Hr.out
        · clear hz
          first
            | (exfalso; omega)
            | (go_wp2
               go_ret2
               exact runeIs_mk Hr.out)

set_option maxRecDepth 100000 in
theorem refrune_any (s : ByteArray) (w : World) (hs : s.size ≤ 9223372036854775807) :
    Calls Try.prog 121 #[.string s] w (RuneIs w s) := by
  by_cases h0 : s.size = 0
  · have Hr := hid_ (show runeF s = (0, 0) by unfold runeF runeN; rw [if_pos h0])
    have e0 : ((s.size : Int) == 0) = true := by simp [h0]
    clear h0
    go_enter Try.func121, Try.ntmps121
    go_wp2
    go_ret2
    exact runeIs_mk Hr.out
  have hp : 0 < s.size := by omega
  by_cases h1 : s[0].toNat < 128
  · exact refrune_ascii s w hp hs h1
  by_cases h2 : 194 ≤ s[0].toNat ∧ s[0].toNat ≤ 244
  · by_cases c2 : s[0].toNat ≤ 223
    · exact refrune_2 s w hp hs h2.1 c2
    by_cases c3 : s[0].toNat ≤ 239
    · exact refrune_3 s w hp hs (by omega) c3
    · exact refrune_4 s w hp hs (by omega) h2.2
  · exact refrune_else s w hp hs (by omega) h2
end Go.Proofs.Ytljlhaillmeedaa

/-
  What the reference's Runes and Name answer.
-/
namespace Go.Proofs.Ytljlhaillmeedaa
set_option linter.unusedSimpArgs false
set_option linter.unusedVariables false
open Go.RowKit Ru

def runeVals (rs : List Nat) : List Value := rs.map fun r => .int .i32 (r : Nat)
theorem info_i32 : (Try.prog.info? 21).map (fun i => (i.zero, i.size, i.bytes)) = some (some (.int .i32 0), 1, 4) := by kernel_rfl

def RunesPost (w : World) (s : ByteArray) (e : Ending) (w' : World) : Prop :=
  ∃ A n c, e = .returned (.tuple #[.slice A n c, .bool (runesOf s 0).isSome]) ∧ Row w' A n c (runeVals ((runesOf s 0).getD [])) ∧ Below w.heap.size w w'
theorem runesPost_none {w w' : World} {s : ByteArray} (h : runesOf s 0 = none) (hb : Below w.heap.size w w') : RunesPost w s (.returned (.tuple #[.slice none 0 0, .bool false])) w' :=
  ⟨none, 0, 0, by rw [h]; rfl, by rw [h]; exact Row.none _, hb⟩
theorem runesPost_some {w w' : World} {s : ByteArray} {rs : List Nat} {A : Option Addr} {n c : Nat} (h : runesOf s 0 = some rs) (hr : Row w' A n c (runeVals rs)) (hb : Below w.heap.size w w') :
    RunesPost w s (.returned (.tuple #[.slice A n c, .bool true])) w' := ⟨A, n, c, by rw [h]; rfl, by rw [h]; exact hr, hb⟩

theorem cut_string (s : ByteArray) (i n : Nat) : (s.extract i s.size).extract n (s.extract i s.size).size = s.extract (i + n) s.size := by
  rw [size_from, ByteArray.extract_extract]
  congr 1
  omega

set_option maxHeartbeats 1000000 in
theorem refrunes_any (s : ByteArray) (w : World) (hs : s.size ≤ 35184372088832) :
    Calls Try.prog 107 #[.string s] w (RunesPost w s) := by
  go_enter Try.func107, Try.ntmps107
  go_wp2
  go_loopw [0, 4, 5, 6] (fun v o _ _ wr => ∃ i rs A c, v = .string (s.extract i s.size) ∧ o = .slice A (rs : List Nat).length c ∧ OwnV 21 w.heap.size wr A rs.length c (runeVals rs) ∧ RunesAt s rs i ∧ Below w.heap.size w wr)
    (fun v _ _ _ _ => match v with | .string t => t.size | _ => 0)
  case atStart => exact ⟨0, [], none, 0, by rw [show s.extract 0 s.size = s by simp], rfl, OwnV.none _ _ _, runesAt_zero s, Below.refl _ _⟩
  case round =>
    obtain ⟨i, rs, A, c, rfl, rfl, ho, hat, hb⟩ := hrel
    have Ho := hid_ ho
    have Hat := hid_ hat
    have Hb := hid_ hb
    have hi := hat.1
    have hrl := hat.2.1
    clear ho hat hb
    have hz := size_from s i
    have Hz := hid_ hz
    generalize ht : s.extract i s.size = t at *
    have Ht := hid_ ht
    clear ht
    by_cases hlt : i < s.size
    · have hts : 0 < t.size := by omega
      have Hc := hid_ (refrune_any t wr (by omega))
      have Hra := hid_ (show runeAt s i = runeF t by unfold runeAt; rw [Ht.out])
      have hw := runeAt_width s i
      rw [Hra.out] at hw
      by_cases hk : (runeF t).2 = 0
      · have Hend := hid_ (runesAt_bad Hat.out hlt (by rw [Hra.out]; exact hk))
        have hkb : (((runeF t).2 : Int) == 0) = true := by rw [hk]; rfl
        have Hk := hid_ hk
        clear hk hz hw
        go_wp2_with fail
        refine Hc.out.mono ?_
        rintro e w' ⟨rfl, rfl⟩
        go_wp2_with fail
        go_ret2
        exact runesPost_none Hend.out Hb.out
      · have Hst := hid_ (runesAt_step Hat.out hlt (by rw [Hra.out]; exact hk))
        have hkb : (((runeF t).2 : Int) == 0) = false := by rw [beq_eq_false_iff_ne]; omega
        have hle : (runeF t).2 ≤ t.size := by omega
        have hpos : 0 < (runeF t).2 := by omega
        have Hcut := hid_ (cut_string s i (runeF t).2)
        clear hk hz hw
        generalize hr : (runeF t).1 = r
        generalize hm : (runeF t).2 = m at hkb hle hpos
        have Hr := hid_ hr
        have Hm := hid_ hm
        clear hr hm
        go_wp2_with fail
        refine Hc.out.mono ?_
        rintro e w' ⟨rfl, rfl⟩
        rw [Hr.out, Hm.out]
        go_wp2_with (at_builtin; refine wpList_one rfl (.tmp 17) (.tmp 19) 164 21 rfl (.int .i32 0) 4 Try.underlying164 info_i32 rfl w.heap.size A rs.length c _ rfl (Ho.out.later ((Below.refl _ _).alloc (Nat.le_refl _) _)) wr.heap.size _ rfl (at_new _ _ _) rfl (rs.length + 1) (runeVals (rs ++ [r])) rfl (by simp [runeVals]) (by omega) (by omega) (by have := Hb.out.size; simp; omega) ?_; intro A4 c4 w4 ho' hb' hg' hat'; have Ho4 := hid_ ho'; have Hb4 := hid_ ((Hb.out.alloc Hb.out.size _).trans hb'); clear ho' hb' hg' hat')
        go_roundw
        case rel =>
          refine ⟨i + m, rs ++ [r], A4, c4, ?_, ?_, ?_, ?_, Hb4.out⟩
          · have h := Hcut.out
            rw [Ht.out, Hm.out] at h
            rw [h]
          · rw [List.length_append]; rfl
          · rw [List.length_append]; exact Ho4.out
          · have h := Hst.out
            rw [Hra.out, Hr.out, Hm.out] at h
            exact h
        case measure =>
          show (t.extract m t.size).size < t.size
          rw [size_from]
          omega
    · have Hend := hid_ (runesAt_end Hat.out (by omega))
      have htz : t.size = 0 := by omega
      have hgt : decide ((0 : Int) < (t.size : Int)) = false := decide_eq_false (by omega)
      clear hz
      go_wp2
      go_ret2
      exact runesPost_some Hend.out Ho.out.row Hb.out
def KindIs (w : World) (k : Int) (e : Ending) (w' : World) : Prop := e = .returned (.int .i64 k) ∧ Below w.heap.size w w'
theorem kindIs_mk {w w' : World} {k k' : Int} (h : k = k') (hb : Below w.heap.size w w') : KindIs w k (.returned (.int .i64 k')) w' := ⟨by rw [h], hb⟩
set_option maxHeartbeats 1000000 in
theorem refname_any (s : ByteArray) (w : World) (hs : s.size ≤ 9223372036854775807) :
    Calls Try.prog 98 #[.string s] w (KindIs w (nameKind s)) := by
  by_cases h1 : s.size < 1
  · have Hk := hid_ (kind_bad (name_size (.inl h1)))
    have e1 : decide ((s.size : Int) < 1) = true := decide_eq_true (by omega)
    clear h1
    go_enter Try.func98, Try.ntmps98
    go_wp2
    go_ret
    exact kindIs_mk Hk.out (Below.refl _ _)
  have e1 : decide ((s.size : Int) < 1) = false := decide_eq_false (by omega)
  by_cases h2 : 32 < s.size
  · have Hk := hid_ (kind_bad (name_size (.inr h2)))
    have e2 : decide ((32 : Int) < (s.size : Int)) = true := decide_eq_true (by omega)
    go_enter Try.func98, Try.ntmps98
    go_wp2
    go_ret
    exact kindIs_mk Hk.out (Below.refl _ _)
  have e2 : decide ((32 : Int) < (s.size : Int)) = false := decide_eq_false (by omega)
  have Hc := hid_ (refrunes_any s w (by omega))
  cases hr : runesOf s 0 with
  | none =>
    have Hk := hid_ (kind_bad (name_none hr))
    have Hr := hid_ hr
    clear hr
    go_enter Try.func98, Try.ntmps98
    go_wp2_with fail
    refine Hc.out.mono ?_
    rintro e w1 ⟨A, n, c, rfl, hrow, hb⟩
    rw [Hr.out] at hrow ⊢
    obtain rfl : n = 0 := by rw [← hrow.len]; rfl
    have Hb := hid_ hb
    clear hrow hb
    go_wp2_with fail
    go_loop [5] (fun vi => vi = .int .i64 0) (fun _ => 0)
    case atStart => rfl
    case round =>
      subst hrel
      go_wp2_with fail
      go_ret
      exact kindIs_mk Hk.out Hb.out
  | some rs =>
    have Hr := hid_ hr
    clear hr
    go_enter Try.func98, Try.ntmps98
    go_wp2_with fail
    refine Hc.out.mono ?_
    rintro e w1 ⟨A, n, c, rfl, hrow, hb⟩
    rw [Hr.out] at hrow ⊢
    have hrow' : Row w1 A n c (runeVals rs) := hrow
    obtain rfl : n = rs.length := by rw [← hrow'.len]; simp [runeVals]
    have hle := hrow'.le
    have Hb := hid_ hb
    have Hrow := hid_ hrow'
    clear hrow hrow' hb
    go_wp2_with fail
    go_loop [5] (fun vi => ∃ k : Nat, k ≤ rs.length ∧ vi = .int .i64 k ∧ Hid (∀ j (hj : j < rs.length), j < k → badRune rs[j] = false)) (fun vi => rs.length - (intOf vi).toNat)
    case atStart => exact ⟨0, by omega, rfl, hid_ (by intro j _ h; omega)⟩
    case round =>
      obtain ⟨k, hk, rfl, Hg⟩ := hrel
      by_cases hlt : k < rs.length
      · obtain ⟨b, off, rfl, hc⟩ := Hrow.out.at_ (k := k) (by simpa [runeVals] using hlt)
        have hcell : w1.cell? ⟨b, off + k, .none⟩ = some (.int .i32 (rs[k] : Nat)) := by rw [hc]; simp [runeVals]
        clear hc
        cases hbr : badRune rs[k]
        · have Hg2 := hid_ (show ∀ j (hj : j < rs.length), j < k + 1 → badRune rs[j] = false by
            intro j hj h
            by_cases e : j = k
            · subst e; exact hbr
            · exact Hg.out j hj (by omega))
          have hb2 : 32 ≤ rs[k] ∧ (rs[k] < 127 ∨ 159 < rs[k]) := by
            unfold badRune at hbr
            simp at hbr
            omega
          obtain ⟨g1, g2⟩ := hb2
          clear hbr
          generalize rs[k] = r at *
          rcases g2 with g2 | g2
          · go_wp2_with fail
            go_round
            case rel => exact ⟨k + 1, by omega, by go_num, Hg2⟩
            case measure => simp [intOf]; omega
          · have g3 : 127 ≤ r := by omega
            go_wp2_with fail
            go_round
            case rel => exact ⟨k + 1, by omega, by go_num, Hg2⟩
            case measure => simp [intOf]; omega
        · have Hk := hid_ (kind_bad (name_bad Hr.out hlt hbr))
          have hb2 : rs[k] < 32 ∨ (32 ≤ rs[k] ∧ 127 ≤ rs[k] ∧ rs[k] ≤ 159) := by
            unfold badRune at hbr
            simp at hbr
            omega
          clear hbr
          generalize rs[k] = r at *
          rcases hb2 with g1 | ⟨g0, g1, g2⟩
          all_goals
            go_wp2_with fail
            go_ret
            exact kindIs_mk Hk.out Hb.out
      · have Hk := hid_ (kind_good (name_good Hr.out (by omega) (by omega) (fun j hj => Hg.out j hj (by omega))))
        obtain rfl : k = rs.length := by omega
        go_wp2_with fail
        go_ret
        exact kindIs_mk Hk.out Hb.out
end Go.Proofs.Ytljlhaillmeedaa

/-
  What the reference's Eight, Number and Right answer.
-/
namespace Go.Proofs.Ytljlhaillmeedaa
set_option linter.unusedSimpArgs false
set_option linter.unusedVariables false
open Go.RowKit Ru

theorem eightK_succ (n k : Nat) : eightK n (k + 1) = eightK n k ++ [byteOf n (7 - k)] := rfl
theorem byte_shr (n : Nat) (hn : n < 18446744073709551616) (k : Nat) (b : Int) (hb : b = ((n / 2 ^ (8 * k) : Nat) : Int)) : bits .and .u64 b 255 % (256 : Int) = ((byteOf n k).toNat : Int) := by
  subst hb
  have h1 : n / 2 ^ (8 * k) < 18446744073709551616 := Nat.lt_of_le_of_lt (Nat.div_le_self _ _) hn
  have h2 := u64_and_nat (n / 2 ^ (8 * k)) 255 h1 (by omega)
  rw [show ((255 : Nat) : Int) = 255 from rfl] at h2
  rw [h2, nat_mask8, byteOf_toNat, show (256 : Nat) ^ k = 2 ^ (8 * k) by rw [Nat.pow_mul]]
  omega

theorem wrap_u64 (n : Int) : IntKind.u64.wrap n = n % 18446744073709551616 := by simp [IntKind.wrap, IntKind.bits, IntKind.signed]
theorem numB_step (l : List UInt8) {k : Nat} (hk : k < 8) (hl : k < l.length) : IntKind.u64.wrap (IntKind.u64.wrap ((numB l k : Nat) * 256) + IntKind.u64.wrap (l[k].toNat : Int)) = (numB l (k + 1) : Nat) := by
  have h2 := numB_lt l (k + 1)
  have h3 : (256 : Nat) ^ (k + 1) ≤ 256 ^ 8 := Nat.pow_le_pow_right (by omega) (by omega)
  rw [show (256 : Nat) ^ 8 = 18446744073709551616 from rfl] at h3
  have e : (l.getD k 0) = l[k] := by rw [List.getD_eq_getElem?_getD, List.getElem?_eq_getElem hl]; rfl
  have h4 : numB l (k + 1) = numB l k * 256 + l[k].toNat := by rw [numB, e]
  rw [wrap_u64, wrap_u64, wrap_u64, h4]
  omega

end Go.Proofs.Ytljlhaillmeedaa

/-
  What the reference's Right and Less answer; a span as a value.
-/
namespace Go.Proofs.Ytljlhaillmeedaa
set_option linter.unusedSimpArgs false
set_option linter.unusedVariables false
open Go.RowKit Ru

theorem bcell {W w1 : World} (hb : Below W.heap.size W w1) : (∀ b o, b < W.heap.size → w1.cell? ⟨b, o, none⟩ = W.cell? ⟨b, o, none⟩) ∧ (∀ b o, b < W.heap.size → w1.frozen? ⟨b, o, none⟩ = W.frozen? ⟨b, o, none⟩) :=
  ⟨fun b o h => hb.cell (p := ⟨b, o, none⟩) h, fun b o h => hb.frozen (p := ⟨b, o, none⟩) h⟩

def spanCells (s : SpanD) : Array Value := #[.int .u64 (s.trace : Nat), .int .u64 (s.id : Nat), .int .u64 (s.parent : Nat), .int .u64 (s.start : Nat), .int .u64 (s.len : Nat), .string s.service, .string s.name, .bool s.fail]
abbrev spanVal (s : SpanD) : Value := .agg #[.int .u64 (s.trace : Nat), .int .u64 (s.id : Nat), .int .u64 (s.parent : Nat), .int .u64 (s.start : Nat), .int .u64 (s.len : Nat), .string s.service, .string s.name, .bool s.fail]

set_option maxHeartbeats 1000000 in
theorem refright_arg (s : SpanD) (w : World) (hs : s.Wf) (ha : argBad s = true) :
    Calls Try.prog 79 #[spanVal s] w (KindIs w (rightF s)) := by
  obtain ⟨t, i, p, st, ln, sv, nm, f⟩ := s
  have Hk := hid_ (right_arg ha)
  have h1 := arg_yes ha
  simp only at h1
  clear ha hs
  rcases h1 with h1 | ⟨h0, h1⟩ | ⟨h0, h0', h1⟩ | ⟨h0, h0', h0'', h1⟩
  · have e1 : ((t : Int) == 0) = true := by rw [beq_iff_eq]; omega
    have H := hid_ h1
    clear h1
    go_enter Try.func79, Try.ntmps79
    go_wp2_with fail
    go_ret
    exact kindIs_mk Hk.out ((Below.refl _ _).alloc (Nat.le_refl _) _)
  · have e1 : ((t : Int) == 0) = false := by rw [beq_eq_false_iff_ne]; omega
    have e2 : ((i : Int) == 0) = true := by rw [beq_iff_eq]; omega
    have H := hid_ h1
    clear h1 h0
    go_enter Try.func79, Try.ntmps79
    go_wp2_with fail
    go_ret
    exact kindIs_mk Hk.out ((Below.refl _ _).alloc (Nat.le_refl _) _)
  · have e1 : ((t : Int) == 0) = false := by rw [beq_eq_false_iff_ne]; omega
    have e2 : ((i : Int) == 0) = false := by rw [beq_eq_false_iff_ne]; omega
    clear h0 h0'
    go_enter Try.func79, Try.ntmps79
    go_wp2_with fail
    go_ret
    exact kindIs_mk Hk.out ((Below.refl _ _).alloc (Nat.le_refl _) _)
  · have e1 : ((t : Int) == 0) = false := by rw [beq_eq_false_iff_ne]; omega
    have e2 : ((i : Int) == 0) = false := by rw [beq_eq_false_iff_ne]; omega
    clear h0 h0'
    go_enter Try.func79, Try.ntmps79
    go_wp2_with fail
    go_ret
    exact kindIs_mk Hk.out ((Below.refl _ _).alloc (Nat.le_refl _) _)

set_option maxHeartbeats 1000000 in
theorem refright_any (s : SpanD) (w : World) (hs : s.Wf) :
    Calls Try.prog 79 #[spanVal s] w (KindIs w (rightF s)) := by
  cases ha : argBad s
  rotate_left
  · exact refright_arg s w hs ha
  have Ha := hid_ ha
  obtain ⟨h0, h0', h1, h2⟩ := arg_no ha
  have Hsv := hid_ (fun W => refname_any s.service W hs.service)
  have Hnm := hid_ (fun W => refname_any s.name W hs.name)
  clear ha hs
  have Hr1 := hid_ (fun h => right_name Ha.out (.inl h))
  have Hr2 := hid_ (fun h => right_name Ha.out (.inr h))
  have Hr3 := hid_ (right_ok Ha.out)
  obtain ⟨t, i, p, st, ln, sv, nm, f⟩ := s
  simp only at h0 h0' h1 h2
  have e1 : ((t : Int) == 0) = false := by rw [beq_eq_false_iff_ne]; omega
  have e2 : ((i : Int) == 0) = false := by rw [beq_eq_false_iff_ne]; omega
  clear h0 h0'
  cases hsv : nameOk sv
  · have Hk := hid_ (Hr1.out hsv)
    have Hn := hid_ (kind_bad hsv)
    clear hsv
    go_enter Try.func79, Try.ntmps79
    go_wp2_with fail
    refine (Hsv.out _).mono ?_
    rintro e w1 ⟨rfl, hb⟩
    rw [Hn.out]
    have Hb := hid_ hb
    clear hb
    go_wp2_with fail
    go_ret
    exact kindIs_mk Hk.out (((Below.refl _ _).alloc (Nat.le_refl _) _).trans (Hb.out.mono (by simp)))
  have Hn := hid_ (kind_good hsv)
  have Hsvo := hid_ hsv
  clear hsv
  go_enter Try.func79, Try.ntmps79
  go_wp2_with fail
  refine (Hsv.out _).mono ?_
  rintro e w1 ⟨rfl, hb⟩
  rw [Hn.out]
  have Hb := hid_ hb
  obtain ⟨hc, hf⟩ := bcell hb
  have hz : w.heap.size < w1.heap.size := by have := hb.size; simp at this; omega
  clear hb hf
  go_wp2_with fail
  refine (Hnm.out _).mono ?_
  rintro e w2 ⟨rfl, hb2⟩
  have Hb2 := hid_ (Below.trans (((Below.refl w.heap.size w).alloc (Nat.le_refl _) _).trans (Hb.out.mono (by simp))) (hb2.mono (by omega)))
  clear hb2 hc
  cases hnm : nameOk nm
  · rw [kind_bad hnm]
    have Hk := hid_ (Hr2.out hnm)
    clear hnm
    go_wp2_with fail
    go_ret
    exact kindIs_mk Hk.out Hb2.out
  · rw [kind_good hnm]
    have Hk := hid_ (Hr3.out Hsvo.out hnm)
    clear hnm
    go_wp2_with fail
    go_ret
    exact kindIs_mk Hk.out Hb2.out

def lessF (a b : SpanD) : Bool := decide (a.start < b.start) || (decide (a.start = b.start) && decide (a.id < b.id))
def BoolIs (w : World) (k : Bool) (e : Ending) (w' : World) : Prop := e = .returned (.bool k) ∧ Below w.heap.size w w'
theorem boolIs_mk {w w' : World} {k k' : Bool} (h : k = k') (hb : Below w.heap.size w w') : BoolIs w k (.returned (.bool k')) w' := ⟨by rw [h], hb⟩
theorem less_lt {a b : SpanD} (h : a.start < b.start) : lessF a b = true := by unfold lessF; rw [decide_eq_true h]; rfl
theorem less_gt {a b : SpanD} (h : b.start < a.start) : lessF a b = false := by unfold lessF; rw [decide_eq_false (by omega), decide_eq_false (by omega)]; rfl
theorem less_eq {a b : SpanD} (h : a.start = b.start) : lessF a b = decide (a.id < b.id) := by unfold lessF; rw [decide_eq_false (by omega), decide_eq_true h]; simp
end Go.Proofs.Ytljlhaillmeedaa

/-
  Two spans held against each other.
-/
namespace Go.Proofs.Ytljlhaillmeedaa
set_option linter.unusedSimpArgs false
set_option linter.unusedVariables false
open Go.RowKit Ru

def sameF (a b : SpanD) : Bool := decide (a.trace = b.trace) && (decide (a.id = b.id) && (decide (a.parent = b.parent) && (decide (a.start = b.start) && (decide (a.len = b.len) && (decide (a.service.toList = b.service.toList) && (decide (a.name.toList = b.name.toList) && decide (a.fail = b.fail)))))))
theorem sameF_self (a : SpanD) : sameF a a = true := by simp [sameF]
theorem bytes_ext {a b : ByteArray} (h : a.toList = b.toList) : a = b := by
  rw [ByteArray.toList_eq, ByteArray.toList_eq] at h
  apply ByteArray.ext
  exact Array.toList_inj.1 h
theorem sameF_iff {a b : SpanD} : sameF a b = true ↔ a = b := by
  constructor
  · intro h
    simp [sameF] at h
    obtain ⟨h1, h2, h3, h4, h5, h6, h7, h8⟩ := h
    obtain ⟨t, i, p, st, ln, sv, nm, f⟩ := a
    obtain ⟨t', i', p', st', ln', sv', nm', f'⟩ := b
    simp only at h1 h2 h3 h4 h5 h6 h7 h8
    rw [h1, h2, h3, h4, h5, bytes_ext h6, bytes_ext h7, h8]
  · rintro rfl
    exact sameF_self a
set_option maxRecDepth 100000 in
set_option maxHeartbeats 1000000 in
theorem span_equalIn (a b : SpanD) (w : World) : (Op.equalIn 10000 137 (spanVal a) (spanVal b)).run Try.prog w = .ok (sameF a b) w := by
  rw [run_equalIn_agg w 9999 137 _ _ (by kernel_rfl) (by kernel_rfl)]
  simp [Program.fieldsOf, Try.underlying137, Op.eqFields, part, go_sem]
  simp only [Int.ofNat_inj]
  unfold sameF
  repeat' split
  all_goals simp_all
theorem span_eql (a b : SpanD) (w : World) : (binOp .eql 137 (spanVal a) (spanVal b)).run Try.prog w = .ok (.bool (sameF a b)) w := by
  rw [run_eql_struct, span_equalIn]
  rfl
theorem span_neq (a b : SpanD) (w : World) : (binOp .neq 137 (spanVal a) (spanVal b)).run Try.prog w = .ok (.bool (!sameF a b)) w := by
  rw [run_neq_struct, span_equalIn]
  rfl
end Go.Proofs.Ytljlhaillmeedaa

/-
  Slices of spans: eight cells each.
-/
namespace Go.Proofs.Ytljlhaillmeedaa
set_option linter.unusedSimpArgs false
set_option linter.unusedVariables false
open Go.RowKit Ru

/-- A span lies at this place. -/
structure SpanAt (w : World) (b o : Nat) (s : SpanD) : Prop where
  c0 : w.cell? ⟨b, o, none⟩ = some (.int .u64 (s.trace : Nat))
  c1 : w.cell? ⟨b, o + 1, none⟩ = some (.int .u64 (s.id : Nat))
  c2 : w.cell? ⟨b, o + 2, none⟩ = some (.int .u64 (s.parent : Nat))
  c3 : w.cell? ⟨b, o + 3, none⟩ = some (.int .u64 (s.start : Nat))
  c4 : w.cell? ⟨b, o + 4, none⟩ = some (.int .u64 (s.len : Nat))
  c5 : w.cell? ⟨b, o + 5, none⟩ = some (.string s.service)
  c6 : w.cell? ⟨b, o + 6, none⟩ = some (.string s.name)
  c7 : w.cell? ⟨b, o + 7, none⟩ = some (.bool s.fail)
theorem SpanAt.lt {w : World} {b o : Nat} {s : SpanD} (h : SpanAt w b o s) : b < w.heap.size := lt_of_cell h.c0
theorem SpanAt.keep {w w' : World} {b o : Nat} {s : SpanD} (h : SpanAt w b o s) (hk : ∀ p : Addr, p.block < w.heap.size → w'.cell? p = w.cell? p) : SpanAt w' b o s := by
  have hl := h.lt
  refine ⟨?_, ?_, ?_, ?_, ?_, ?_, ?_, ?_⟩
  all_goals rw [hk _ hl]
  · exact h.c0
  · exact h.c1
  · exact h.c2
  · exact h.c3
  · exact h.c4
  · exact h.c5
  · exact h.c6
  · exact h.c7
/-- The slice with this place, length and room reads as the spans ss. -/
structure SpanRow (w : World) (A : Option Addr) (n c : Nat) (ss : List SpanD) : Prop where
  holds : ss ≠ [] → ∃ b off, A = some ⟨b, off, none⟩ ∧ ∀ k (h : k < ss.length), SpanAt w b (off + k * 8) ss[k]
  len : ss.length = n
  cap : n ≤ c
  max : c ≤ 9223372036854775807
  nil : A = none → c = 0
theorem SpanRow.keep {w w' : World} {A : Option Addr} {n c : Nat} {ss : List SpanD} (h : SpanRow w A n c ss) (hk : ∀ p : Addr, p.block < w.heap.size → w'.cell? p = w.cell? p) : SpanRow w' A n c ss :=
  ⟨fun hne => let ⟨b, off, e, hc⟩ := h.holds hne; ⟨b, off, e, fun k hkl => (hc k hkl).keep hk⟩, h.len, h.cap, h.max, h.nil⟩
theorem SpanRow.below {w w' : World} {A : Option Addr} {n c : Nat} {ss : List SpanD} (h : SpanRow w A n c ss) (hb : Below w.heap.size w w') : SpanRow w' A n c ss := h.keep fun _ hp => hb.cell hp
theorem SpanRow.at_ {w : World} {A : Option Addr} {n c : Nat} {ss : List SpanD} (h : SpanRow w A n c ss) {k : Nat} (hk : k < ss.length) : ∃ b off, A = some ⟨b, off, none⟩ ∧ SpanAt w b (off + k * 8) ss[k] := by
  obtain ⟨b, off, e, hc⟩ := h.holds (by rintro rfl; simp at hk)
  exact ⟨b, off, e, hc k hk⟩

set_option maxHeartbeats 1000000 in
theorem refspans_true (A A' : Option Addr) (n c c' : Nat) (ss : List SpanD) (w : World) (h1 : SpanRow w A n c ss) (h2 : SpanRow w A' n c' ss) :
    Calls Try.prog 64 #[.slice A n c, .slice A' n c'] w fun e w' => e = .returned (.bool true) ∧ ∃ k, w' = w.drewN k := by
  have hle := Nat.le_trans h1.cap h1.max
  have hb0 : ((n : Int) != (n : Int)) = false := by simp
  have kn := fun (a b : SpanD) (w : World) => span_neq a b w
  go_enter Try.func64, Try.ntmps64
  go_wp2
  go_loopw [5] (fun i wr => ∃ k q : Nat, k ≤ n ∧ i = .int .i64 k ∧ wr = w.drewN q) (fun i _ => n - (intOf i).toNat)
  case atStart => exact ⟨0, 0, by omega, rfl, rfl⟩
  case round =>
    obtain ⟨k, q, hk, rfl, rfl⟩ := hrel
    by_cases hlt : k < n
    · have hkl : k < ss.length := by rw [h1.len]; exact hlt
      obtain ⟨b, off, rfl, s1⟩ := h1.at_ hkl
      obtain ⟨b', off', rfl, s2⟩ := h2.at_ hkl
      obtain ⟨a0, a1, a2, a3, a4, a5, a6, a7⟩ := s1
      obtain ⟨d0, d1, d2, d3, d4, d5, d6, d7⟩ := s2
      have hse := sameF_self ss[k]
      generalize ss[k] = s at *
      go_wp2_with fail
      go_quiet (fail)
      go_wp2_with fail
      go_roundw
      case rel => exact ⟨k + 1, q + nq, by omega, by go_num, rfl⟩
      case measure => simp [intOf]; omega
    · obtain rfl : k = n := by omega
      go_wp2
      go_ret
      exact ⟨rfl, q, rfl⟩
def cellsOf (s : SpanD) : List Value := [.int .u64 (s.trace : Nat), .int .u64 (s.id : Nat), .int .u64 (s.parent : Nat), .int .u64 (s.start : Nat), .int .u64 (s.len : Nat), .string s.service, .string s.name, .bool s.fail]
def cellsAll (ss : List SpanD) : List Value := ss.flatMap cellsOf
theorem cellsOf_length (s : SpanD) : (cellsOf s).length = 8 := rfl
theorem cellsAll_length (ss : List SpanD) : (cellsAll ss).length = ss.length * 8 := by
  induction ss with
  | nil => rfl
  | cons s ss ih => rw [cellsAll, List.flatMap_cons, List.length_append, cellsOf_length, show (ss.flatMap cellsOf).length = ss.length * 8 from ih, List.length_cons]; omega
theorem cellsAll_append (a b : List SpanD) : cellsAll (a ++ b) = cellsAll a ++ cellsAll b := by simp [cellsAll]
theorem cellsAll_get : ∀ (ss : List SpanD) {k : Nat} (h : k < ss.length) (j : Nat), j < 8 → (cellsAll ss)[k * 8 + j]? = (cellsOf ss[k])[j]?
  | s :: ss, 0, _, j, hj => by
    rw [cellsAll, List.flatMap_cons, Nat.zero_mul, Nat.zero_add, List.getElem?_append_left (by rw [cellsOf_length]; exact hj)]
    rfl
  | s :: ss, k + 1, h, j, hj => by
    rw [cellsAll, List.flatMap_cons, List.getElem?_append_right (by rw [cellsOf_length]; omega), cellsOf_length, show (k + 1) * 8 + j - 8 = k * 8 + j by omega]
    exact cellsAll_get ss (by simpa using h) j hj
theorem spanAt_of {w : World} {b o : Nat} {s : SpanD} (h : ∀ j u, (cellsOf s)[j]? = some u → w.cell? ⟨b, o + j, none⟩ = some u) : SpanAt w b o s :=
  ⟨h 0 _ rfl, h 1 _ rfl, h 2 _ rfl, h 3 _ rfl, h 4 _ rfl, h 5 _ rfl, h 6 _ rfl, h 7 _ rfl⟩
theorem SpanAt.cell {w : World} {b o : Nat} {s : SpanD} (h : SpanAt w b o s) (j : Nat) (u : Value) (hu : (cellsOf s)[j]? = some u) : w.cell? ⟨b, o + j, none⟩ = some u := by
  match j, hu with
  | 0, hu => cases hu; exact h.c0
  | 1, hu => cases hu; exact h.c1
  | 2, hu => cases hu; exact h.c2
  | 3, hu => cases hu; exact h.c3
  | 4, hu => cases hu; exact h.c4
  | 5, hu => cases hu; exact h.c5
  | 6, hu => cases hu; exact h.c6
  | 7, hu => cases hu; exact h.c7
/-- .. as a place of cells. -/
theorem SpanRow.cells {w : World} {A : Option Addr} {n c : Nat} {ss : List SpanD} (h : SpanRow w A n c ss) : Holds w A (cellsAll ss) := by
  intro hne
  obtain ⟨b, off, e, hc⟩ := h.holds (by rintro rfl; exact hne rfl)
  refine ⟨b, off, e, fun k u hu => ?_⟩
  have hk : k < ss.length * 8 := by
    have := (List.getElem?_eq_some_iff.1 hu).1
    rwa [cellsAll_length] at this
  have h1 : k / 8 < ss.length := by omega
  have h2 := cellsAll_get ss h1 (k % 8) (by omega)
  rw [show k / 8 * 8 + k % 8 = k by omega] at h2
  rw [h2] at hu
  have h3 := (hc _ h1).cell (k % 8) u hu
  rwa [show off + k / 8 * 8 + k % 8 = off + k by omega] at h3
theorem spanRow_of {w : World} {A : Option Addr} {n c : Nat} {ss : List SpanD} (h : Holds w A (cellsAll ss)) (h1 : ss.length = n) (h2 : n ≤ c) (h3 : c ≤ 9223372036854775807) (h4 : A = none → c = 0) : SpanRow w A n c ss := by
  refine ⟨fun hne => ?_, h1, h2, h3, h4⟩
  have hne' : cellsAll ss ≠ [] := by
    intro e
    have := congrArg List.length e
    rw [cellsAll_length] at this
    have := List.length_pos_iff.2 hne
    simp at *
    omega
  obtain ⟨b, off, e, hc⟩ := h hne'
  refine ⟨b, off, e, fun k hk => spanAt_of fun j u hu => ?_⟩
  have hj : j < 8 := (List.getElem?_eq_some_iff.1 hu).1
  have := hc (k * 8 + j) u (by rw [cellsAll_get ss hk j hj]; exact hu)
  rwa [← Nat.add_assoc] at this
/-- A row of spans of the call's own, from block B on. -/
def OwnSp (B : Nat) (w : World) (A : Option Addr) (n c : Nat) (ss : List SpanD) : Prop := w.ownsRow B 137 8 (.slice A n c) n (cellsAll ss)
theorem OwnSp.len {B : Nat} {w : World} {A : Option Addr} {n c : Nat} {ss : List SpanD} (h : OwnSp B w A n c ss) : ss.length = n := by
  have := h.1
  rw [cellsAll_length] at this
  omega
theorem OwnSp.row {B : Nat} {w : World} {A : Option Addr} {n c : Nat} {ss : List SpanD} (h : OwnSp B w A n c ss) : SpanRow w A n c ss := by
  have hh := own_holds h
  have hl := h.len
  obtain ⟨hx, ⟨e', _⟩ | ⟨g, cap, cur, e', hg, _, hnc, hcm, hs, hc⟩⟩ := h
  · injection e' with a b c
    subst a
    subst c
    exact spanRow_of hh hl (by omega) (by omega) (fun _ => rfl)
  · injection e' with a b c
    subst a c
    unfold maxLen at hcm
    exact spanRow_of hh hl hnc (by omega) (fun e => by cases e)
end Go.Proofs.Ytljlhaillmeedaa

/-
  What the reference's text and Put answer.
-/
namespace Go.Proofs.Ytljlhaillmeedaa
set_option linter.unusedSimpArgs false
set_option linter.unusedVariables false
open Go.RowKit Ru

def textF (s : ByteArray) : List UInt8 := UInt8.ofNat s.size :: strB s
theorem textF_length (s : ByteArray) : (textF s).length = 1 + s.size := by unfold textF; rw [List.length_cons, strB_length]; omega

def numsN (s : SpanD) : List Nat := [s.trace, s.id, s.parent, s.start, s.len]
def numVals (s : SpanD) : List Value := (numsN s).map fun n => .int .u64 (n : Nat)
def headK (s : SpanD) (k : Nat) : List UInt8 := ((numsN s).take k).flatMap eight
theorem numsN_length (s : SpanD) : (numsN s).length = 5 := rfl
theorem headK_succ (s : SpanD) {k : Nat} (h : k < (numsN s).length) : headK s (k + 1) = headK s k ++ eight (numsN s)[k] := by
  unfold headK
  rw [List.take_succ_eq_append_getElem h, List.flatMap_append]
  simp
theorem numsN_lt {s : SpanD} (h : s.Wf) {k : Nat} (hk : k < (numsN s).length) : (numsN s)[k] < 18446744073709551616 := by
  have h1 := h.trace; have h2 := h.id; have h3 := h.parent; have h4 := h.start; have h5 := h.len
  rw [numsN_length] at hk
  rcases (show k = 0 ∨ k = 1 ∨ k = 2 ∨ k = 3 ∨ k = 4 by omega) with rfl | rfl | rfl | rfl | rfl
  all_goals assumption
def flag (b : Bool) : UInt8 := if b then 1 else 0
/-- A span's bytes. -/
def putF (s : SpanD) : List UInt8 := headK s 5 ++ [flag s.fail] ++ textF s.service ++ textF s.name

def SpanPost (w : World) (l0 : List UInt8) (s : SpanD) (e : Ending) (w' : World) : Prop :=
  (rightF s ≠ 0 ∧ e = .returned (.tuple #[.slice none 0 0, .int .i64 (rightF s)]) ∧ Below w.heap.size w w') ∨
  (rightF s = 0 ∧ ∃ A n c, e = .returned (.tuple #[.slice A n c, .int .i64 0]) ∧ Own w.heap.size w' A n c (l0 ++ putF s) ∧ Below w.heap.size w w')
theorem spanPost_no {w w' : World} {l0 : List UInt8} {s : SpanD} {k : Int} (h : rightF s = k) (hk : k ≠ 0) (hb : Below w.heap.size w w') : SpanPost w l0 s (.returned (.tuple #[.slice none 0 0, .int .i64 k])) w' :=
  .inl ⟨by rw [h]; exact hk, by rw [h], hb⟩
theorem spanPost_ok {w w' : World} {l0 : List UInt8} {s : SpanD} {A : Option Addr} {n c : Nat} (h : rightF s = 0) (ho : Own w.heap.size w' A n c (l0 ++ putF s)) (hb : Below w.heap.size w w') : SpanPost w l0 s (.returned (.tuple #[.slice A n c, .int .i64 0])) w' :=
  .inr ⟨h, A, n, c, rfl, ho, hb⟩

theorem ne_after {row row' : Option Nat} {g N : Nat} (h : row ≠ some g) (hr : row' = row ∨ row' = some N) (hg : g < N) : row' ≠ some g := by
  rcases hr with rfl | rfl
  · exact h
  · intro e
    injection e with e'
    omega
end Go.Proofs.Ytljlhaillmeedaa

/-
  Plain facts on spans that are put and cut: there and back, and cut off.
-/
namespace Go.Proofs.Ytljlhaillmeedaa
set_option linter.unusedSimpArgs false
set_option linter.unusedVariables false
open Go.RowKit Ru

theorem cutText_put {s : ByteArray} (h1 : 1 ≤ s.size) (h2 : s.size ≤ 32) (r : List UInt8) : cutTextF (textF s ++ r) = (0, s, r) := by
  have hsz : (UInt8.ofNat s.size).toNat = s.size := by rw [UInt8.toNat_ofNat']; omega
  have hl : (textF s ++ r).getD 0 0 = UInt8.ofNat s.size := rfl
  rw [cutText_ok (by simp [textF]) (by rw [hl, hsz]; omega) (by rw [hl, hsz, List.length_append, textF_length]; omega), hl, hsz,
    List.take_left' (by rw [textF_length]; omega), List.drop_left' (by rw [textF_length]; omega)]
  rw [show (textF s).drop 1 = strB s from rfl, strOf_strB]
theorem cutText_take {s : ByteArray} (h1 : 1 ≤ s.size) (h2 : s.size ≤ 32) (r : List UInt8) {k : Nat} (hk : k < 1 + s.size) : cutTextF ((textF s ++ r).take k) = (3, ByteArray.empty, []) := by
  have hsz : (UInt8.ofNat s.size).toNat = s.size := by rw [UInt8.toNat_ofNat']; omega
  rcases k with _ | j
  · rfl
  · have hl : ((textF s ++ r).take (j + 1)).getD 0 0 = UInt8.ofNat s.size := rfl
    have hlen : ((textF s ++ r).take (j + 1)).length = j + 1 := by rw [List.length_take, List.length_append, textF_length]; omega
    rw [cutText_short (by intro e; rw [e] at hlen; cases hlen) (by rw [hl, hsz]; omega) (by rw [hl, hsz, hlen]; omega)]
theorem cutText_back (m : List UInt8) (h : (cutTextF m).1 = 0) : textF (cutTextF m).2.1 ++ (cutTextF m).2.2 = m := by
  by_cases h0 : m = []
  · subst h0; cases h
  by_cases h1 : (m.getD 0 0).toNat < 1 ∨ 32 < (m.getD 0 0).toNat
  · rw [cutText_form h0 h1] at h; cases h
  by_cases h2 : m.length - 1 < (m.getD 0 0).toNat
  · rw [cutText_short h0 h1 h2] at h; cases h
  rw [cutText_ok h0 h1 h2]
  clear h
  rcases m with _ | ⟨a, t⟩
  · exact absurd rfl h0
  · have ha : (a :: t).getD 0 0 = a := rfl
    rw [ha] at h1 h2 ⊢
    rw [List.length_cons] at h2
    simp only [List.take_succ_cons, List.drop_succ_cons, List.drop_zero]
    unfold textF
    rw [strB_strOf, strOf_size, List.length_take, Nat.min_eq_left (by omega), UInt8.ofNat_toNat, List.cons_append, List.take_append_drop]

theorem headK_five (s : SpanD) : headK s 5 = eight s.trace ++ (eight s.id ++ (eight s.parent ++ (eight s.start ++ eight s.len))) := by
  simp [headK, numsN]
theorem putF_eq (s : SpanD) : putF s = eight s.trace ++ (eight s.id ++ (eight s.parent ++ (eight s.start ++ (eight s.len ++ (flag s.fail :: (textF s.service ++ textF s.name)))))) := by
  unfold putF
  rw [headK_five]
  simp only [List.append_assoc, List.cons_append]
  rfl
theorem putF_length (s : SpanD) : (putF s).length = 43 + s.service.size + s.name.size := by
  rw [putF_eq]
  simp only [List.length_append, eight_length, List.length_cons, textF_length]
  omega
theorem drop8 (n : Nat) (t : List UInt8) : (eight n ++ t).drop 8 = t := List.drop_left' (eight_length n)
/-- The bytes of a span's numbers, with whatever behind. -/
theorem nums_put {s : SpanD} (h : s.Wf) (t : List UInt8) (sv nm : ByteArray) :
    numsOf (eight s.trace ++ (eight s.id ++ (eight s.parent ++ (eight s.start ++ (eight s.len ++ (flag s.fail :: t)))))) sv nm = ⟨s.trace, s.id, s.parent, s.start, s.len, sv, nm, s.fail⟩ := by
  have d16 : ∀ l : List UInt8, l.drop 16 = (l.drop 8).drop 8 := fun l => by rw [List.drop_drop]
  have d24 : ∀ l : List UInt8, l.drop 24 = ((l.drop 8).drop 8).drop 8 := fun l => by rw [List.drop_drop, List.drop_drop]
  have d32 : ∀ l : List UInt8, l.drop 32 = (((l.drop 8).drop 8).drop 8).drop 8 := fun l => by rw [List.drop_drop, List.drop_drop, List.drop_drop]
  have g40 : ∀ l : List UInt8, l.getD 40 0 = (((((l.drop 8).drop 8).drop 8).drop 8).drop 8).getD 0 0 := fun l => by
    simp only [List.drop_drop, List.getD_eq_getElem?_getD, List.getElem?_drop]
  unfold numsOf
  rw [d16, d24, d32, g40]
  simp only [drop8]
  rw [numB_eight _ h.trace, numB_eight _ h.id, numB_eight _ h.parent, numB_eight _ h.start, numB_eight _ h.len]
  congr 1
  cases s.fail <;> rfl
theorem drop41 (s : SpanD) (t : List UInt8) : (eight s.trace ++ (eight s.id ++ (eight s.parent ++ (eight s.start ++ (eight s.len ++ (flag s.fail :: t)))))).drop 41 = t := by
  have d41 : ∀ l : List UInt8, l.drop 41 = (((((l.drop 8).drop 8).drop 8).drop 8).drop 8).drop 1 := fun l => by simp only [List.drop_drop]
  rw [d41]
  simp only [drop8]
  rfl
theorem get40 (s : SpanD) (t : List UInt8) : (eight s.trace ++ (eight s.id ++ (eight s.parent ++ (eight s.start ++ (eight s.len ++ (flag s.fail :: t)))))).getD 40 0 = flag s.fail := by
  have g40 : ∀ l : List UInt8, l.getD 40 0 = (((((l.drop 8).drop 8).drop 8).drop 8).drop 8).getD 0 0 := fun l => by
    simp only [List.drop_drop, List.getD_eq_getElem?_getD, List.getElem?_drop]
  rw [g40]
  simp only [drop8]
  rfl
theorem flag_le (b : Bool) : ¬ 1 < (flag b).toNat := by cases b <;> decide
/-- What was put is cut as it was. -/
theorem cutSpan_put {s : SpanD} (h : s.Wf) (hr : rightF s = 0) (r : List UInt8) : cutSpanF (putF s ++ r) = (0, s, r) := by
  obtain ⟨_, h1, h2⟩ := right_zero hr
  have n1 := name_sizes h1
  have n2 := name_sizes h2
  rw [putF_eq]
  simp only [List.append_assoc, List.cons_append]
  unfold cutSpanF
  rw [if_neg (by simp only [List.length_append, List.length_cons, eight_length]; omega), get40, if_neg (flag_le _), drop41, cutText_put n1.1 n1.2, if_neg (by simp), cutText_put n2.1 n2.2, if_neg (by simp), nums_put h, if_neg (by rw [hr]; simp)]
/-- .. and cut off anywhere they are too short. -/
theorem cutSpan_take {s : SpanD} (hr : rightF s = 0) {k : Nat} (hk : k < (putF s).length) : cutSpanF ((putF s).take k) = (3, SpanD.zero, []) := by
  obtain ⟨_, h1, h2⟩ := right_zero hr
  have n1 := name_sizes h1
  have n2 := name_sizes h2
  rw [putF_length] at hk
  by_cases h41 : k < 41
  · unfold cutSpanF
    rw [if_pos (by rw [List.length_take]; omega)]
  · have e : (putF s).take k = eight s.trace ++ (eight s.id ++ (eight s.parent ++ (eight s.start ++ (eight s.len ++ (flag s.fail :: (textF s.service ++ textF s.name).take (k - 41)))))) := by
      rw [putF_eq]
      have t8 : ∀ (n j : Nat) (t : List UInt8), 8 ≤ j → (eight n ++ t).take j = eight n ++ t.take (j - 8) := fun n j t hj => by
        rw [List.take_append, eight_length, List.take_of_length_le (by rw [eight_length]; omega)]
      rw [t8 _ _ _ (by omega), t8 _ _ _ (by omega), t8 _ _ _ (by omega), t8 _ _ _ (by omega), t8 _ _ _ (by omega), show k - 8 - 8 - 8 - 8 - 8 = k - 41 + 1 by omega, List.take_succ_cons]
    rw [e]
    unfold cutSpanF
    rw [if_neg (by simp only [List.length_append, List.length_cons, eight_length]; omega), get40, if_neg (flag_le _), drop41]
    by_cases hs : k - 41 < 1 + s.service.size
    · rw [cutText_take n1.1 n1.2 _ hs, if_pos (by simp)]
    · have e2 : (textF s.service ++ textF s.name).take (k - 41) = textF s.service ++ (textF s.name ++ []).take (k - 41 - (1 + s.service.size)) := by
        rw [List.append_nil, List.take_append, textF_length, List.take_of_length_le (by rw [textF_length]; omega)]
      rw [e2, cutText_put n1.1 n1.2, if_neg (by simp), cutText_take n2.1 n2.2 _ (by omega), if_pos (by simp)]

theorem numB_div (l : List UInt8) (k j : Nat) : numB l (k + j) / 256 ^ j = numB l k := by
  induction j with
  | zero => simp
  | succ j ih =>
    have hc := UInt8.toNat_lt (l.getD (k + j) 0)
    rw [← Nat.add_assoc, numB, Nat.pow_succ, Nat.mul_comm (256 ^ j) 256, ← Nat.div_div_eq_div_mul, show (numB l (k + j) * 256 + (l.getD (k + j) 0).toNat) / 256 = numB l (k + j) by omega, ih]
theorem eightK_numB (l : List UInt8) (h : 8 ≤ l.length) : ∀ k, k ≤ 8 → eightK (numB l 8) k = l.take k := by
  intro k
  induction k with
  | zero => intro _; simp [eightK]
  | succ k ih =>
    intro hk
    have e := numB_div l (k + 1) (7 - k)
    rw [show k + 1 + (7 - k) = 8 by omega] at e
    have hc := UInt8.toNat_lt (l.getD k 0)
    have hb : byteOf (numB l 8) (7 - k) = l.getD k 0 := by
      apply UInt8.toNat_inj.1
      rw [byteOf_toNat, e, numB]
      omega
    rw [eightK, ih (by omega), hb, List.take_succ_eq_append_getElem (by omega), List.getD_eq_getElem?_getD, List.getElem?_eq_getElem (by omega)]
    rfl
theorem eight_numB (l : List UInt8) (h : 8 ≤ l.length) : eight (numB l 8) = l.take 8 := eightK_numB l h 8 (Nat.le_refl _)
/-- What is cut is put as it was. -/
theorem cutSpan_back {l r : List UInt8} {s : SpanD} (h : cutSpanF l = (0, s, r)) : putF s ++ r = l ∧ rightF s = 0 := by
  unfold cutSpanF at h
  by_cases h1 : l.length < 41
  · rw [if_pos h1] at h; cases h
  by_cases h2 : 1 < (l.getD 40 0).toNat
  · rw [if_neg h1, if_pos h2] at h; cases h
  by_cases h3 : (cutTextF (l.drop 41)).1 = 0
  rotate_left
  · rw [if_neg h1, if_neg h2, if_pos h3] at h; injection h with h4; exact absurd h4 h3
  by_cases h4 : (cutTextF (cutTextF (l.drop 41)).2.2).1 = 0
  rotate_left
  · rw [if_neg h1, if_neg h2, if_neg (by rw [h3]; simp), if_pos h4] at h; injection h with h5; exact absurd h5 h4
  rw [if_neg h1, if_neg h2, if_neg (by rw [h3]; simp), if_neg (by rw [h4]; simp)] at h
  have b1 := cutText_back _ h3
  have b2 := cutText_back _ h4
  generalize (cutTextF (cutTextF (l.drop 41)).2.2).2.2 = r2 at *
  generalize (cutTextF (cutTextF (l.drop 41)).2.2).2.1 = t2 at *
  generalize (cutTextF (l.drop 41)).2.2 = r1 at *
  generalize (cutTextF (l.drop 41)).2.1 = t1 at *
  by_cases h5 : rightF (numsOf l t1 t2) = 0
  rotate_left
  · rw [if_pos h5] at h; injection h with h6; exact absurd h6 h5
  rw [if_neg (by rw [h5]; simp)] at h
  injection h with _ h
  injection h with hs hr
  subst hs hr
  refine ⟨?_, h5⟩
  have hfl : flag (decide ((l.getD 40 0).toNat = 1)) = l.getD 40 0 := by
    apply UInt8.toNat_inj.1
    rcases (show (l.getD 40 0).toNat = 0 ∨ (l.getD 40 0).toNat = 1 by omega) with e | e
    all_goals rw [e]; rfl
  rw [putF_eq]
  unfold numsOf
  simp only
  rw [hfl, eight_numB _ (by omega), eight_numB _ (by rw [List.length_drop]; omega), eight_numB _ (by rw [List.length_drop]; omega), eight_numB _ (by rw [List.length_drop]; omega), eight_numB _ (by rw [List.length_drop]; omega)]
  simp only [List.append_assoc, List.cons_append]
  rw [b2, b1]
  have h40 : l.drop 40 = l.getD 40 0 :: l.drop 41 := by
    rw [List.drop_eq_getElem_cons (by omega), List.getD_eq_getElem?_getD, List.getElem?_eq_getElem (by omega)]
    rfl
  rw [← h40]
  have j : ∀ (m : Nat), (l.drop m).take 8 ++ l.drop (m + 8) = l.drop m := fun m => by rw [← List.drop_drop, List.take_append_drop]
  rw [j 32, j 24, j 16, j 8, List.take_append_drop]
end Go.Proofs.Ytljlhaillmeedaa

/-
  Rows of spans of the call's own: appending to them, and what is kept beside.
-/
namespace Go.Proofs.Ytljlhaillmeedaa
set_option linter.unusedSimpArgs false
set_option linter.unusedVariables false
open Go.RowKit Ru

theorem info_span : (Try.prog.info? 137).map (fun i => (i.zero, i.size, i.bytes)) =
    some (some (.agg #[.int .u64 0, .int .u64 0, .int .u64 0, .int .u64 0, .int .u64 0, .string ⟨#[]⟩, .string ⟨#[]⟩, .bool false]), 8, 80) := by kernel_rfl
theorem cellsAll_one (ss : List SpanD) : ∀ u ∈ cellsAll ss, u.oneCell' = true := by
  intro u hu
  obtain ⟨s, _, h⟩ := List.mem_flatMap.1 hu
  simp [cellsOf] at h
  rcases h with rfl | rfl | rfl | rfl | rfl | rfl | rfl | rfl
  all_goals rfl
theorem OwnSp.none (B : Nat) (w : World) : OwnSp B w .none 0 0 [] := World.ownsRow_nil w B _ _
theorem OwnSp.from_ {B : Nat} {w : World} {A : Option Addr} {n c : Nat} {ss : List SpanD} (h : OwnSp B w A n c ss) : ∀ k, (Value.slice A n c).ownBlock = some k → B ≤ k ∧ k < w.heap.size := World.ownsRow.lt h
theorem OwnSp.later {B : Nat} {w w' : World} {A : Option Addr} {n c : Nat} {ss : List SpanD} (h : OwnSp B w A n c ss) (hb : Below w.heap.size w w') : OwnSp B w' A n c ss := by
  obtain ⟨hx, h | ⟨g, cap, cur, e', hg, hh, r⟩⟩ := h
  · exact ⟨hx, .inl h⟩
  · refine ⟨hx, .inr ⟨g, cap, cur, e', hg, ?_, r⟩⟩
    have hlt : g < w.heap.size := (Array.getElem?_eq_some_iff.1 hh).1
    rw [← hh]
    exact hb.block g hlt
theorem OwnSp.at_ {B : Nat} {w : World} {A : Option Addr} {n n' c : Nat} {l l' : List SpanD} (h : OwnSp B w A n c l) (e1 : n = n') (e2 : l = l') : OwnSp B w A n' c l' := by subst e1 e2; exact h
/-- A row of bytes that lies behind block B is kept where a row that lies before it grows. -/
theorem Own.apart {B : Nat} {w w' : World} {A : Option Addr} {n c : Nat} {l : List UInt8} {row : Option Nat} (h : Own B w A n c l) (hg : w.grownBy w' row) (hr : ∀ k, row = some k → k < B) : Own B w' A n c l := by
  refine World.ownsRow.kept h hg ?_
  rcases hA : (Value.slice A n c).ownBlock with _ | k
  · exact .inl rfl
  · refine .inr fun e => ?_
    have h1 := (World.ownsRow.lt h k hA).1
    have h2 := hr k e.symm
    omega
/-- append(s, x..) on spans, s a row of the call's own. -/
theorem wpList_spans {w : World} {ops : Array Oper} {rest : List Oper} {o : Oper} {a : Act} {Q : Exit → Act → World → Prop} (hgd : Region.wanted o (yielded ops a.tmps) = true) (s x : Operand)
    (ho : o.op = .call { callee := .builtin .append, args := #[s, x], argTypes := #[66, 66] })
    (B : Nat) (A0 : Option Addr) (n0 c0 : Nat) (l0 : List SpanD) (hs : a.eval s = .slice A0 n0 c0) (hown : OwnSp B w A0 n0 c0 l0)
    (A : Option Addr) (m c : Nat) (l : List SpanD) (hx : a.eval x = .slice A m c) (hl : SpanRow w A m c l)
    (N : Nat) (ys : List SpanD) (hN : n0 + m = N) (hys : l0 ++ l = ys) (hroom : N ≤ 1000000000000) (hB : B ≤ w.heap.size)
    (h : ∀ A' c' w', OwnSp B w' A' N c' ys → Below B w w' → w.grownBy w' (Value.slice A0 n0 c0).ownBlock →
      ((Value.slice A' N c').ownBlock = (Value.slice A0 n0 c0).ownBlock ∨ (Value.slice A' N c').ownBlock = some w.heap.size) → wpList Try.prog ops Q rest (a.put o.dst (.slice A' N c')) w') :
    wpList Try.prog ops Q (o :: rest) a w := by
  subst hys
  obtain ⟨i0, hi0, hz0, hz1, hz2⟩ := info_parts info_span
  refine wpList_app w hgd s x 66 ho B 137 i0 _ 8 80 Try.underlying66 hi0 hz0 hz1 hz2 rfl (by omega) (.slice A0 n0 c0) n0 (cellsAll l0) hs hown A m c (cellsAll l) hx
    (by rw [cellsAll_length, hl.len]) hl.cells hl.nil (cellsAll_one l) N (cellsAll (l0 ++ l)) hN (cellsAll_append l0 l).symm (by unfold maxLen; omega) (by omega) hB ?_
  intro A' c' w' ho' hg hat
  exact h A' c' w' ho' ((Below.refl B w).grown hg hB (own_from hown)) hg hat
/-- A single span, laid in a block of its own. -/
theorem row_one (w : World) (s : SpanD) (T : TypeId) : SpanRow (w.alloc (.cells (spanCells s) T)) (some ⟨w.heap.size, 0, .none⟩) 1 1 [s] := by
  refine ⟨fun _ => ⟨w.heap.size, 0, rfl, fun k hk => ?_⟩, rfl, Nat.le_refl _, by omega, fun e => by cases e⟩
  obtain rfl : k = 0 := by simpa using hk
  have h : ∀ o, (w.alloc (.cells (spanCells s) T)).cell? ⟨w.heap.size, o, .none⟩ = (spanCells s)[o]? := fun o => by rw [World.cell?_alloc_mark]
  refine spanAt_of fun j u hu => ?_
  have hu' : (cellsOf s)[j]? = some u := hu
  rw [show 0 + 0 * 8 + j = j by omega, h, ← hu']
  simp [spanCells, cellsOf]

/-- The bytes of spans, one behind another. -/
def putAll (ss : List SpanD) : List UInt8 := ss.flatMap putF
theorem putAll_snoc (ss : List SpanD) (s : SpanD) : putAll (ss ++ [s]) = putAll ss ++ putF s := by simp [putAll]
def AllRight (ss : List SpanD) : Prop := ∀ s ∈ ss, s.Wf ∧ rightF s = 0
theorem AllRight.snoc {ss : List SpanD} (h : AllRight ss) {s : SpanD} (h1 : s.Wf) (h2 : rightF s = 0) : AllRight (ss ++ [s]) := by
  intro x hx
  rcases List.mem_append.1 hx with hx | hx
  · exact h x hx
  · rw [List.mem_singleton.1 hx]; exact ⟨h1, h2⟩
theorem putF_le {s : SpanD} (h : rightF s = 0) : (putF s).length ≤ 107 := by
  obtain ⟨_, h1, h2⟩ := right_zero h
  have n1 := name_sizes h1
  have n2 := name_sizes h2
  rw [putF_length]
  omega
theorem putAll_le : ∀ {ss : List SpanD}, AllRight ss → (putAll ss).length ≤ 107 * ss.length
  | [], _ => by simp [putAll]
  | s :: ss, h => by
    have h1 := putF_le (h s (by simp)).2
    have h2 := putAll_le (ss := ss) (fun x hx => h x (by simp [hx]))
    unfold putAll at h2 ⊢
    rw [List.flatMap_cons, List.length_append, List.length_cons]
    omega
theorem putAll_drop {ss : List SpanD} {k : Nat} (hk : k < ss.length) : putAll (ss.drop k) = putF ss[k] ++ putAll (ss.drop (k + 1)) := by
  rw [List.drop_eq_getElem_cons hk, putAll, List.flatMap_cons]
  rfl
theorem AllRight.drop {ss : List SpanD} (h : AllRight ss) (k : Nat) : AllRight (ss.drop k) := fun s hs => h s (List.mem_of_mem_drop hs)
theorem cutSpan_kind {l : List UInt8} : (cutSpanF l).1 ≠ 0 → cutSpanF l = ((cutSpanF l).1, SpanD.zero, []) := by
  unfold cutSpanF
  repeat' split
  all_goals intro h
  all_goals first | rfl | exact absurd rfl h
theorem cutSpan_wf (l : List UInt8) : (cutSpanF l).2.1.Wf := by
  have hz : SpanD.zero.Wf := ⟨by decide, by decide, by decide, by decide, by decide, by decide, by decide⟩
  have hc : ∀ m : List UInt8, (cutTextF m).2.1.size ≤ 9223372036854775807 := by
    intro m
    by_cases h0 : m = []
    · subst h0; decide
    by_cases h1 : (m.getD 0 0).toNat < 1 ∨ 32 < (m.getD 0 0).toNat
    · rw [cutText_form h0 h1]; decide
    by_cases h2 : m.length - 1 < (m.getD 0 0).toNat
    · rw [cutText_short h0 h1 h2]; decide
    rw [cutText_ok h0 h1 h2]
    simp only [strOf_size, List.length_drop, List.length_take]
    omega
  unfold cutSpanF
  repeat' split
  all_goals first | exact hz | exact numsOf_wf _ _ _ (hc _) (hc _)
end Go.Proofs.Ytljlhaillmeedaa

/-
  Plain facts on numbers that rise; slices of members: three cells each.
-/
namespace Go.Proofs.Ytljlhaillmeedaa
set_option linter.unusedSimpArgs false
set_option linter.unusedVariables false
open Go.RowKit Ru

/-- Numbers that rise, from more than a last one on. -/
def risesFrom : Nat → List Nat → Bool
  | _, [] => true
  | a, x :: r => decide (a < x) && risesFrom x r
def risesF (l : List Nat) : Bool := risesFrom 0 l
theorem rises_no {a x : Nat} {r : List Nat} (h : x ≤ a) : risesFrom a (x :: r) = false := by
  rw [risesFrom, decide_eq_false (by omega)]
  rfl
theorem rises_yes {a x : Nat} {r : List Nat} (h : a < x) : risesFrom a (x :: r) = risesFrom x r := by
  rw [risesFrom, decide_eq_true h]
  rfl
/-- A member. -/
structure MemberD where
  id : Nat
  inc : Nat
  state : Int
structure MemberD.Wf (m : MemberD) : Prop where
  id : m.id < 18446744073709551616
  inc : m.inc < 18446744073709551616
  lo : -9223372036854775808 ≤ m.state
  hi : m.state ≤ 9223372036854775807
abbrev memVal (m : MemberD) : Value := .agg #[.int .u64 (m.id : Nat), .int .u64 (m.inc : Nat), .int .i64 m.state]
def memCells (m : MemberD) : Array Value := #[.int .u64 (m.id : Nat), .int .u64 (m.inc : Nat), .int .i64 m.state]
def mcells (m : MemberD) : List Value := [.int .u64 (m.id : Nat), .int .u64 (m.inc : Nat), .int .i64 m.state]
def memsAll (ms : List MemberD) : List Value := ms.flatMap mcells
structure MemAt (w : World) (b o : Nat) (m : MemberD) : Prop where
  c0 : w.cell? ⟨b, o, none⟩ = some (.int .u64 (m.id : Nat))
  c1 : w.cell? ⟨b, o + 1, none⟩ = some (.int .u64 (m.inc : Nat))
  c2 : w.cell? ⟨b, o + 2, none⟩ = some (.int .i64 m.state)
theorem MemAt.lt {w : World} {b o : Nat} {m : MemberD} (h : MemAt w b o m) : b < w.heap.size := lt_of_cell h.c0
theorem MemAt.keep_ {w w' : World} {b o : Nat} {m : MemberD} (h : MemAt w b o m) (hk : ∀ p : Addr, p.block < w.heap.size → w'.cell? p = w.cell? p) : MemAt w' b o m := by
  have hl := h.lt
  refine ⟨?_, ?_, ?_⟩
  all_goals rw [hk _ hl]
  · exact h.c0
  · exact h.c1
  · exact h.c2
theorem memAt_of {w : World} {b o : Nat} {m : MemberD} (h : ∀ j u, (mcells m)[j]? = some u → w.cell? ⟨b, o + j, none⟩ = some u) : MemAt w b o m :=
  ⟨h 0 _ rfl, h 1 _ rfl, h 2 _ rfl⟩
theorem MemAt.cell {w : World} {b o : Nat} {m : MemberD} (h : MemAt w b o m) (j : Nat) (u : Value) (hu : (mcells m)[j]? = some u) : w.cell? ⟨b, o + j, none⟩ = some u := by
  match j, hu with
  | 0, hu => cases hu; exact h.c0
  | 1, hu => cases hu; exact h.c1
  | 2, hu => cases hu; exact h.c2
/-- The slice with this place, length and room reads as the members ms. -/
structure MemRow (w : World) (A : Option Addr) (n c : Nat) (ms : List MemberD) : Prop where
  holds : ms ≠ [] → ∃ b off, A = some ⟨b, off, none⟩ ∧ ∀ k (h : k < ms.length), MemAt w b (off + k * 3) ms[k]
  len : ms.length = n
  cap : n ≤ c
  max : c ≤ 9223372036854775807
  nil : A = none → c = 0
theorem MemRow.none (w : World) : MemRow w Option.none 0 0 [] := ⟨fun h => absurd rfl h, rfl, Nat.le_refl _, by omega, fun _ => rfl⟩
theorem MemRow.keep {w w' : World} {A : Option Addr} {n c : Nat} {ms : List MemberD} (h : MemRow w A n c ms) (hk : ∀ p : Addr, p.block < w.heap.size → w'.cell? p = w.cell? p) : MemRow w' A n c ms :=
  ⟨fun hne => let ⟨b, off, e, hc⟩ := h.holds hne; ⟨b, off, e, fun k hkl => (hc k hkl).keep_ hk⟩, h.len, h.cap, h.max, h.nil⟩
theorem MemRow.below {w w' : World} {A : Option Addr} {n c : Nat} {ms : List MemberD} (h : MemRow w A n c ms) (hb : Below w.heap.size w w') : MemRow w' A n c ms := h.keep fun _ hp => hb.cell hp
theorem MemRow.at_ {w : World} {A : Option Addr} {n c : Nat} {ms : List MemberD} (h : MemRow w A n c ms) {k : Nat} (hk : k < ms.length) : ∃ b off, A = some ⟨b, off, Option.none⟩ ∧ MemAt w b (off + k * 3) ms[k] := by
  obtain ⟨b, off, e, hc⟩ := h.holds (by rintro rfl; simp at hk)
  exact ⟨b, off, e, hc k hk⟩
theorem memsAll_length (ms : List MemberD) : (memsAll ms).length = ms.length * 3 := by
  induction ms with
  | nil => rfl
  | cons r rs ih => rw [memsAll, List.flatMap_cons, List.length_append, show (mcells r).length = 3 from rfl, show (rs.flatMap mcells).length = rs.length * 3 from ih, List.length_cons]; omega
theorem memsAll_append (a b : List MemberD) : memsAll (a ++ b) = memsAll a ++ memsAll b := by simp [memsAll]
theorem memsAll_get : ∀ (rs : List MemberD) {k : Nat} (h : k < rs.length) (j : Nat), j < 3 → (memsAll rs)[k * 3 + j]? = (mcells rs[k])[j]?
  | r :: rs, 0, _, j, hj => by
    rw [memsAll, List.flatMap_cons, Nat.zero_mul, Nat.zero_add, List.getElem?_append_left (by exact hj)]
    rfl
  | r :: rs, k + 1, h, j, hj => by
    rw [memsAll, List.flatMap_cons, List.getElem?_append_right (by show 3 ≤ _; omega), show (mcells r).length = 3 from rfl, show (k + 1) * 3 + j - 3 = k * 3 + j by omega]
    exact memsAll_get rs (by simpa using h) j hj
theorem memsAll_one (rs : List MemberD) : ∀ u ∈ memsAll rs, u.oneCell' = true := by
  intro u hu
  obtain ⟨r, _, h⟩ := List.mem_flatMap.1 hu
  simp [mcells] at h
  rcases h with rfl | rfl | rfl
  all_goals rfl
theorem MemRow.cells {w : World} {A : Option Addr} {n c : Nat} {rs : List MemberD} (h : MemRow w A n c rs) : Holds w A (memsAll rs) := by
  intro hne
  obtain ⟨b, off, e, hc⟩ := h.holds (by rintro rfl; exact hne rfl)
  refine ⟨b, off, e, fun k u hu => ?_⟩
  have hk : k < rs.length * 3 := by
    have := (List.getElem?_eq_some_iff.1 hu).1
    rwa [memsAll_length] at this
  have h1 : k / 3 < rs.length := by omega
  have h2 := memsAll_get rs h1 (k % 3) (by omega)
  rw [show k / 3 * 3 + k % 3 = k by omega] at h2
  rw [h2] at hu
  have h3 := (hc _ h1).cell (k % 3) u hu
  rwa [show off + k / 3 * 3 + k % 3 = off + k by omega] at h3
theorem memRow_of {w : World} {A : Option Addr} {n c : Nat} {rs : List MemberD} (h : Holds w A (memsAll rs)) (h1 : rs.length = n) (h2 : n ≤ c) (h3 : c ≤ 9223372036854775807) (h4 : A = none → c = 0) : MemRow w A n c rs := by
  refine ⟨fun hne => ?_, h1, h2, h3, h4⟩
  have hne' : memsAll rs ≠ [] := by
    intro e
    have := congrArg List.length e
    rw [memsAll_length] at this
    have := List.length_pos_iff.2 hne
    simp at *
    omega
  obtain ⟨b, off, e, hc⟩ := h hne'
  refine ⟨b, off, e, fun k hk => memAt_of fun j u hu => ?_⟩
  have hj : j < 3 := (List.getElem?_eq_some_iff.1 hu).1
  have := hc (k * 3 + j) u (by rw [memsAll_get rs hk j hj]; exact hu)
  rwa [← Nat.add_assoc] at this
/-- Numbers as values. -/
def idVals (l : List Nat) : List Value := l.map fun n => .int .u64 (n : Nat)
end Go.Proofs.Ytljlhaillmeedaa
