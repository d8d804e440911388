/-
  What the reference's Rune answers.
-/
import Derived.Test.YthjhofmjhmnddaaGreatMGAA
import Derived.Test.YthjhofmjhmnddaaGreatMGBA
import Derived.Laws.StructEq
import Derived.Deep.RegionLaw
set_option linter.unusedSimpArgs false
set_option linter.unusedVariables false
namespace Go.Proofs.YthjhofmjhmnddaaGreat
open Go.RowKit Ru
theorem int_at {k : IntKind} {a b : Int} (h : a = b) : Value.int k a = Value.int k b := by rw [h]
def RuneIs (w : World) (s : ByteArray) (e : Ending) (w' : World) : Prop := e = .returned (.tuple #[.int .i32 ((runeF s).1 : Nat), .int .i64 ((runeF s).2 : Nat)]) ∧ w = w'
theorem runeIs_mk {w : World} {s : ByteArray} {r n : Nat} (h : runeF s = (r, n)) : RuneIs w s (.returned (.tuple #[.int .i32 (r : Nat), .int .i64 (n : Nat)])) w := ⟨by rw [h], rfl⟩
set_option maxRecDepth 100000 in
set_option maxHeartbeats 1000000 in
theorem refrune_ascii (s : ByteArray) (w : World) (hp : 0 < s.size) (hs : s.size ≤ 9223372036854775807) (h1 : s[0].toNat < 128) :
  Calls Tryz.prog 177 #[.string s] w (RuneIs w s) := by
 have e0 : ((s.size : Int) == 0) = false := by rw [beq_eq_false_iff_ne]; omega
 have Hr := hid_ (show runeF s = (s[0].toNat, 1) by unfold runeF; rw [get_eq s 0 hp]; exact rune_ascii _ _ _ _ _ (by omega) h1)
 go_enter Tryz.func177, Tryz.ntmps177
 go_wp2
 go_ret2
 exact runeIs_mk Hr.out
set_option maxRecDepth 100000 in
set_option maxHeartbeats 1000000 in
theorem refrune_else (s : ByteArray) (w : World) (hp : 0 < s.size) (hs : s.size ≤ 9223372036854775807) (h1 : 128 ≤ s[0].toNat) (h2 : ¬ (194 ≤ s[0].toNat ∧ s[0].toNat ≤ 244)) :
  Calls Tryz.prog 177 #[.string s] w (RuneIs w s) := by
 have e0 : ((s.size : Int) == 0) = false := by rw [beq_eq_false_iff_ne]; omega
 have Hr := hid_ (show runeF s = (0, 0) by unfold runeF; exact rune_none _ _ _ _ _ (by rw [get_eq s 0 hp]; omega) (by rw [get_eq s 0 hp]; omega) (UInt8.toNat_lt _))
 by_cases hlow : s[0].toNat < 194
 ·clear h2
  go_enter Tryz.func177, Tryz.ntmps177
  go_wp2
  go_ret2
  exact runeIs_mk Hr.out
 ·have hhigh : 244 < s[0].toNat := by omega
  clear h2
  go_enter Tryz.func177, Tryz.ntmps177
  go_wp2
  go_ret2
  exact runeIs_mk Hr.out
set_option maxRecDepth 100000 in
set_option maxHeartbeats 4000000 in
theorem refrune_2 (s : ByteArray) (w : World) (hp : 0 < s.size) (hs : s.size ≤ 9223372036854775807) (h1 : 194 ≤ s[0].toNat) (h2 : s[0].toNat ≤ 223) :
  Calls Tryz.prog 177 #[.string s] w (RuneIs w s) := by
 have e0 : ((s.size : Int) == 0) = false := by rw [beq_eq_false_iff_ne]; omega
 have Hg0 := hid_ (get_eq s 0 hp)
 have C := hid_ (show 194 ≤ (s.get! 0).toNat ∧ (s.get! 0).toNat ≤ 223 by rw [Hg0.out]; exact ⟨h1, h2⟩)
 by_cases hf : s.size < 2
 ·have Hr := hid_ (show runeF s = (0, 0) from rune_few2 _ _ _ _ _ C.out hf)
  go_enter Tryz.func177, Tryz.ntmps177
  go_wp2
  go_ret2
  exact runeIs_mk Hr.out
 have hf' : 2 ≤ s.size := by omega
 clear hf
 have t0 : decide ((s[0].toNat : Int) < 128) = false := by simp; omega
 have t1 : decide ((194 : Int) ≤ (s[0].toNat : Int)) = true := by simp; omega
 have t2 : decide ((s[0].toNat : Int) ≤ 223) = true := by simp; omega
 have tn : decide ((s.size : Int) < 2) = false := by simp; omega
 go_enter Tryz.func177, Tryz.ntmps177
 go_wp2
 go_loop [7, 8] (fun vr vi => ∃ k R : Nat, 1 ≤ k ∧ k ≤ 2 ∧ vi = .int .i64 k ∧ vr = .int .i32 R ∧ Hid (acc s ((s.get! 0).toNat - 192) k = R) ∧ Hid (Conts s k)) (fun _ vi => 2 - (intOf vi).toNat)
 case atStart => exact ⟨1, s[0].toNat - 192, by omega, by omega, rfl, int_at (by omega), hid_ (by rw [Hg0.out]; rfl), hid_ (Conts.one s)⟩
 case round =>
  obtain ⟨k, R, hk1, hk, rfl, rfl, HR, HC⟩ := hrel
  have hRb : R < 64 ^ k := by rw [← HR.out]; exact acc_lt (by have := C.out; omega) k hk1 (by omega) HC.out
  have hp4 : (64 : Nat) ^ k ≤ 16777216 := Nat.le_trans (Nat.pow_le_pow_right (by omega) (show k ≤ 4 by omega)) (Nat.le_refl _)
  have hR4 : R ≤ 16777216 := by omega
  clear hRb hp4
  by_cases hlt : k < 2
  ·have hks : k < s.size := by omega
   have hgk := get_eq s k hks
   have bk : s[k].toNat < 256 := UInt8.toNat_lt _
   by_cases hc : 128 ≤ s[k].toNat ∧ s[k].toNat ≤ 191
   ·have HC2 := hid_ (HC.out.succ (by rw [hgk]; exact hc))
    have HR2 := hid_ (show acc s ((s.get! 0).toNat - 192) (k + 1) = R * 64 + s[k].toNat - 128 by rw [acc_succ _ _ hk1, HR.out, hgk])
    obtain ⟨hca, hcb⟩ := hc
    clear hgk
    go_wp2
    go_round
    case rel => exact ⟨k + 1, R * 64 + s[k].toNat - 128, by omega, by omega, by go_num, int_at (by omega), HR2, HC2⟩
    case measure => simp [intOf]; omega
   ·have Hr := hid_ (runeF_2_not C.out k hk1 hlt (by rw [hgk]; exact hc))
    clear hgk
    by_cases hlo : s[k].toNat < 128
    ·go_wp2
     go_ret2
     exact runeIs_mk Hr.out
    ·have hhi : 191 < s[k].toNat := by omega
     go_wp2
     go_ret2
     exact runeIs_mk Hr.out
  ·obtain rfl : k = 2 := by omega
   have hF := runeF_2 C.out hf' HC.out R HR.out
   cases hfit : fits 128 R
   ·rw [if_neg (by rw [hfit]; decide)] at hF
    have Hr := hid_ hF
    have hno := fits_no hfit
    clear hF hfit
    rcases (show R < 128 ∨ (128 ≤ R ∧ 1114111 < R) ∨ (128 ≤ R ∧ R ≤ 1114111 ∧ 55296 ≤ R ∧ R ≤ 57343) by omega) with hx | ⟨hx, hy⟩ | ⟨hx, hy, hz, hz2⟩
    all_goals
     clear hno
     first
      | (exfalso; omega)
      | (go_wp2
         go_ret2
         exact runeIs_mk Hr.out)
   ·rw [if_pos hfit] at hF
    have Hr := hid_ hF
    obtain ⟨hx, hy, hz⟩ := fits_yes hfit
    clear hF hfit
    by_cases hq : 55296 ≤ R
    ·have hq2 : 57343 < R := by omega
     clear hz
     go_wp2
     go_ret2
     exact runeIs_mk Hr.out
    ·clear hz
     first
      | (exfalso; omega)
      | (go_wp2
         go_ret2
         exact runeIs_mk Hr.out)
set_option maxRecDepth 100000 in
set_option maxHeartbeats 4000000 in
theorem refrune_3 (s : ByteArray) (w : World) (hp : 0 < s.size) (hs : s.size ≤ 9223372036854775807) (h1 : 224 ≤ s[0].toNat) (h2 : s[0].toNat ≤ 239) :
  Calls Tryz.prog 177 #[.string s] w (RuneIs w s) := by
 have e0 : ((s.size : Int) == 0) = false := by rw [beq_eq_false_iff_ne]; omega
 have Hg0 := hid_ (get_eq s 0 hp)
 have C := hid_ (show 224 ≤ (s.get! 0).toNat ∧ (s.get! 0).toNat ≤ 239 by rw [Hg0.out]; exact ⟨h1, h2⟩)
 by_cases hf : s.size < 3
 ·have Hr := hid_ (show runeF s = (0, 0) from rune_few3 _ _ _ _ _ C.out hf)
  go_enter Tryz.func177, Tryz.ntmps177
  go_wp2
  go_ret2
  exact runeIs_mk Hr.out
 have hf' : 3 ≤ s.size := by omega
 clear hf
 have t0 : decide ((s[0].toNat : Int) < 128) = false := by simp; omega
 have t1 : decide ((194 : Int) ≤ (s[0].toNat : Int)) = true := by simp; omega
 have t2 : decide ((s[0].toNat : Int) ≤ 223) = false := by simp; omega
 have t3 : decide ((224 : Int) ≤ (s[0].toNat : Int)) = true := by simp; omega
 have t4 : decide ((s[0].toNat : Int) ≤ 239) = true := by simp; omega
 have tn : decide ((s.size : Int) < 3) = false := by simp; omega
 go_enter Tryz.func177, Tryz.ntmps177
 go_wp2
 go_loop [7, 8] (fun vr vi => ∃ k R : Nat, 1 ≤ k ∧ k ≤ 3 ∧ vi = .int .i64 k ∧ vr = .int .i32 R ∧ Hid (acc s ((s.get! 0).toNat - 224) k = R) ∧ Hid (Conts s k)) (fun _ vi => 3 - (intOf vi).toNat)
 case atStart => exact ⟨1, s[0].toNat - 224, by omega, by omega, rfl, int_at (by omega), hid_ (by rw [Hg0.out]; rfl), hid_ (Conts.one s)⟩
 case round =>
  obtain ⟨k, R, hk1, hk, rfl, rfl, HR, HC⟩ := hrel
  have hRb : R < 64 ^ k := by rw [← HR.out]; exact acc_lt (by have := C.out; omega) k hk1 (by omega) HC.out
  have hp4 : (64 : Nat) ^ k ≤ 16777216 := Nat.le_trans (Nat.pow_le_pow_right (by omega) (show k ≤ 4 by omega)) (Nat.le_refl _)
  have hR4 : R ≤ 16777216 := by omega
  clear hRb hp4
  by_cases hlt : k < 3
  ·have hks : k < s.size := by omega
   have hgk := get_eq s k hks
   have bk : s[k].toNat < 256 := UInt8.toNat_lt _
   by_cases hc : 128 ≤ s[k].toNat ∧ s[k].toNat ≤ 191
   ·have HC2 := hid_ (HC.out.succ (by rw [hgk]; exact hc))
    have HR2 := hid_ (show acc s ((s.get! 0).toNat - 224) (k + 1) = R * 64 + s[k].toNat - 128 by rw [acc_succ _ _ hk1, HR.out, hgk])
    obtain ⟨hca, hcb⟩ := hc
    clear hgk
    go_wp2
    go_round
    case rel => exact ⟨k + 1, R * 64 + s[k].toNat - 128, by omega, by omega, by go_num, int_at (by omega), HR2, HC2⟩
    case measure => simp [intOf]; omega
   ·have Hr := hid_ (runeF_3_not C.out k hk1 hlt (by rw [hgk]; exact hc))
    clear hgk
    by_cases hlo : s[k].toNat < 128
    ·go_wp2
     go_ret2
     exact runeIs_mk Hr.out
    ·have hhi : 191 < s[k].toNat := by omega
     go_wp2
     go_ret2
     exact runeIs_mk Hr.out
  ·obtain rfl : k = 3 := by omega
   have hF := runeF_3 C.out hf' HC.out R HR.out
   cases hfit : fits 2048 R
   ·rw [if_neg (by rw [hfit]; decide)] at hF
    have Hr := hid_ hF
    have hno := fits_no hfit
    clear hF hfit
    rcases (show R < 2048 ∨ (2048 ≤ R ∧ 1114111 < R) ∨ (2048 ≤ R ∧ R ≤ 1114111 ∧ 55296 ≤ R ∧ R ≤ 57343) by omega) with hx | ⟨hx, hy⟩ | ⟨hx, hy, hz, hz2⟩
    all_goals
     clear hno
     first
      | (exfalso; omega)
      | (go_wp2
         go_ret2
         exact runeIs_mk Hr.out)
   ·rw [if_pos hfit] at hF
    have Hr := hid_ hF
    obtain ⟨hx, hy, hz⟩ := fits_yes hfit
    clear hF hfit
    by_cases hq : 55296 ≤ R
    ·have hq2 : 57343 < R := by omega
     clear hz
     go_wp2
     go_ret2
     exact runeIs_mk Hr.out
    ·clear hz
     first
      | (exfalso; omega)
      | (go_wp2
         go_ret2
         exact runeIs_mk Hr.out)
set_option maxRecDepth 100000 in
set_option maxHeartbeats 4000000 in
theorem refrune_4 (s : ByteArray) (w : World) (hp : 0 < s.size) (hs : s.size ≤ 9223372036854775807) (h1 : 240 ≤ s[0].toNat) (h2 : s[0].toNat ≤ 244) :
  Calls Tryz.prog 177 #[.string s] w (RuneIs w s) := by
 have e0 : ((s.size : Int) == 0) = false := by rw [beq_eq_false_iff_ne]; omega
 have Hg0 := hid_ (get_eq s 0 hp)
 have C := hid_ (show 240 ≤ (s.get! 0).toNat ∧ (s.get! 0).toNat ≤ 244 by rw [Hg0.out]; exact ⟨h1, h2⟩)
 by_cases hf : s.size < 4
 ·have Hr := hid_ (show runeF s = (0, 0) from rune_few4 _ _ _ _ _ C.out hf)
  go_enter Tryz.func177, Tryz.ntmps177
  go_wp2
  go_ret2
  exact runeIs_mk Hr.out
 have hf' : 4 ≤ s.size := by omega
 clear hf
 have t0 : decide ((s[0].toNat : Int) < 128) = false := by simp; omega
 have t1 : decide ((194 : Int) ≤ (s[0].toNat : Int)) = true := by simp; omega
 have t2 : decide ((s[0].toNat : Int) ≤ 223) = false := by simp; omega
 have t3 : decide ((224 : Int) ≤ (s[0].toNat : Int)) = true := by simp; omega
 have t4 : decide ((s[0].toNat : Int) ≤ 239) = false := by simp; omega
 have t5 : decide ((240 : Int) ≤ (s[0].toNat : Int)) = true := by simp; omega
 have t6 : decide ((s[0].toNat : Int) ≤ 244) = true := by simp; omega
 have tn : decide ((s.size : Int) < 4) = false := by simp; omega
 go_enter Tryz.func177, Tryz.ntmps177
 go_wp2
 go_loop [7, 8] (fun vr vi => ∃ k R : Nat, 1 ≤ k ∧ k ≤ 4 ∧ vi = .int .i64 k ∧ vr = .int .i32 R ∧ Hid (acc s ((s.get! 0).toNat - 240) k = R) ∧ Hid (Conts s k)) (fun _ vi => 4 - (intOf vi).toNat)
 case atStart => exact ⟨1, s[0].toNat - 240, by omega, by omega, rfl, int_at (by omega), hid_ (by rw [Hg0.out]; rfl), hid_ (Conts.one s)⟩
 case round =>
  obtain ⟨k, R, hk1, hk, rfl, rfl, HR, HC⟩ := hrel
  have hRb : R < 64 ^ k := by rw [← HR.out]; exact acc_lt (by have := C.out; omega) k hk1 (by omega) HC.out
  have hp4 : (64 : Nat) ^ k ≤ 16777216 := Nat.le_trans (Nat.pow_le_pow_right (by omega) (show k ≤ 4 by omega)) (Nat.le_refl _)
  have hR4 : R ≤ 16777216 := by omega
  clear hRb hp4
  by_cases hlt : k < 4
  ·have hks : k < s.size := by omega
   have hgk := get_eq s k hks
   have bk : s[k].toNat < 256 := UInt8.toNat_lt _
   by_cases hc : 128 ≤ s[k].toNat ∧ s[k].toNat ≤ 191
   ·have HC2 := hid_ (HC.out.succ (by rw [hgk]; exact hc))
    have HR2 := hid_ (show acc s ((s.get! 0).toNat - 240) (k + 1) = R * 64 + s[k].toNat - 128 by rw [acc_succ _ _ hk1, HR.out, hgk])
    obtain ⟨hca, hcb⟩ := hc
    clear hgk
    go_wp2
    go_round
    case rel => exact ⟨k + 1, R * 64 + s[k].toNat - 128, by omega, by omega, by go_num, int_at (by omega), HR2, HC2⟩
    case measure => simp [intOf]; omega
   ·have Hr := hid_ (runeF_4_not C.out k hk1 hlt (by rw [hgk]; exact hc))
    clear hgk
    by_cases hlo : s[k].toNat < 128
    ·go_wp2
     go_ret2
     exact runeIs_mk Hr.out
    ·have hhi : 191 < s[k].toNat := by omega
     go_wp2
     go_ret2
     exact runeIs_mk Hr.out
  ·obtain rfl : k = 4 := by omega
   have hF := runeF_4 C.out hf' HC.out R HR.out
   cases hfit : fits 65536 R
   ·rw [if_neg (by rw [hfit]; decide)] at hF
    have Hr := hid_ hF
    have hno := fits_no hfit
    clear hF hfit
    rcases (show R < 65536 ∨ (65536 ≤ R ∧ 1114111 < R) ∨ (65536 ≤ R ∧ R ≤ 1114111 ∧ 55296 ≤ R ∧ R ≤ 57343) by omega) with hx | ⟨hx, hy⟩ | ⟨hx, hy, hz, hz2⟩
    all_goals
     clear hno
     first
      | (exfalso; omega)
      | (go_wp2
         go_ret2
         exact runeIs_mk Hr.out)
   ·rw [if_pos hfit] at hF
    have Hr := hid_ hF
    obtain ⟨hx, hy, hz⟩ := fits_yes hfit
    clear hF hfit
    by_cases hq : 55296 ≤ R
    ·have hq2 : 57343 < R := by omega
     clear hz
     go_wp2
     go_ret2
     exact runeIs_mk Hr.out
    ·clear hz
     first
      | (exfalso; omega)
      | (go_wp2
         go_ret2
         exact runeIs_mk Hr.out)
set_option maxRecDepth 100000 in
theorem refrune_any (s : ByteArray) (w : World) (hs : s.size ≤ 9223372036854775807) :
  Calls Tryz.prog 177 #[.string s] w (RuneIs w s) := by
 by_cases h0 : s.size = 0
 ·have Hr := hid_ (show runeF s = (0, 0) by unfold runeF runeN; rw [if_pos h0])
  have e0 : ((s.size : Int) == 0) = true := by simp [h0]
  clear h0
  go_enter Tryz.func177, Tryz.ntmps177
  go_wp2
  go_ret2
  exact runeIs_mk Hr.out
 have hp : 0 < s.size := by omega
 by_cases h1 : s[0].toNat < 128
 ·exact refrune_ascii s w hp hs h1
 by_cases h2 : 194 ≤ s[0].toNat ∧ s[0].toNat ≤ 244
 ·by_cases c2 : s[0].toNat ≤ 223
  ·exact refrune_2 s w hp hs h2.1 c2
  by_cases c3 : s[0].toNat ≤ 239
  ·exact refrune_3 s w hp hs (by omega) c3
  ·exact refrune_4 s w hp hs (by omega) h2.2
 ·exact refrune_else s w hp hs (by omega) h2
end Go.Proofs.YthjhofmjhmnddaaGreat
/-
 What the reference's Runes and Name answer.
-/
namespace Go.Proofs.YthjhofmjhmnddaaGreat
open Go.RowKit Ru
def runeVals (rs : List Nat) : List Value := rs.map fun r => .int .i32 (r : Nat)
theorem info_i32 : (Tryz.prog.info? 21).map (fun i => (i.zero, i.size, i.bytes)) = some (some (.int .i32 0), 1, 4) := by kernel_rfl
def RunesPost (w : World) (s : ByteArray) (e : Ending) (w' : World) : Prop :=
 ∃ A n c, e = .returned (.tuple #[.slice A n c, .bool (runesOf s 0).isSome]) ∧ Row w' A n c (runeVals ((runesOf s 0).getD [])) ∧ Below w.heap.size w w'
theorem runesPost_none {w w' : World} {s : ByteArray} (h : runesOf s 0 = none) (hb : Below w.heap.size w w') : RunesPost w s (.returned (.tuple #[.slice none 0 0, .bool false])) w' :=
 ⟨none, 0, 0, by rw [h]; rfl, by rw [h]; exact Row.none _, hb⟩
theorem runesPost_some {w w' : World} {s : ByteArray} {rs : List Nat} {A : Option Addr} {n c : Nat} (h : runesOf s 0 = some rs) (hr : Row w' A n c (runeVals rs)) (hb : Below w.heap.size w w') :
  RunesPost w s (.returned (.tuple #[.slice A n c, .bool true])) w' := ⟨A, n, c, by rw [h]; rfl, by rw [h]; exact hr, hb⟩
theorem cut_string (s : ByteArray) (i n : Nat) : (s.extract i s.size).extract n (s.extract i s.size).size = s.extract (i + n) s.size := by
 rw [size_from, ByteArray.extract_extract]
 congr 1
 omega
set_option maxHeartbeats 1000000 in
theorem refrunes_any (s : ByteArray) (w : World) (hs : s.size ≤ 35184372088832) :
  Calls Tryz.prog 157 #[.string s] w (RunesPost w s) := by
 go_enter Tryz.func157, Tryz.ntmps157
 go_wp2
 go_loopw [0, 4, 5, 6] (fun v o _ _ wr => ∃ i rs A c, v = .string (s.extract i s.size) ∧ o = .slice A (rs : List Nat).length c ∧ OwnV 21 w.heap.size wr A rs.length c (runeVals rs) ∧ RunesAt s rs i ∧ Below w.heap.size w wr)
  (fun v _ _ _ _ => match v with | .string t => t.size | _ => 0)
 case atStart => exact ⟨0, [], none, 0, by rw [show s.extract 0 s.size = s by simp], rfl, OwnV.none _ _ _, runesAt_zero s, Below.refl _ _⟩
 case round =>
  obtain ⟨i, rs, A, c, rfl, rfl, ho, hat, hb⟩ := hrel
  have Ho := hid_ ho
  have Hat := hid_ hat
  have Hb := hid_ hb
  have hi := hat.1
  have hrl := hat.2.1
  clear ho hat hb
  have hz := size_from s i
  have Hz := hid_ hz
  generalize ht : s.extract i s.size = t at *
  have Ht := hid_ ht
  clear ht
  by_cases hlt : i < s.size
  ·have hts : 0 < t.size := by omega
   have Hc := hid_ (refrune_any t wr (by omega))
   have Hra := hid_ (show runeAt s i = runeF t by unfold runeAt; rw [Ht.out])
   have hw := runeAt_width s i
   rw [Hra.out] at hw
   by_cases hk : (runeF t).2 = 0
   ·have Hend := hid_ (runesAt_bad Hat.out hlt (by rw [Hra.out]; exact hk))
    have hkb : (((runeF t).2 : Int) == 0) = true := by rw [hk]; rfl
    have Hk := hid_ hk
    clear hk hz hw
    go_wp2_with fail
    refine Hc.out.mono ?_
    rintro e w' ⟨rfl, rfl⟩
    go_wp2_with fail
    go_ret2
    exact runesPost_none Hend.out Hb.out
   ·have Hst := hid_ (runesAt_step Hat.out hlt (by rw [Hra.out]; exact hk))
    have hkb : (((runeF t).2 : Int) == 0) = false := by rw [beq_eq_false_iff_ne]; omega
    have hle : (runeF t).2 ≤ t.size := by omega
    have hpos : 0 < (runeF t).2 := by omega
    have Hcut := hid_ (cut_string s i (runeF t).2)
    clear hk hz hw
    generalize hr : (runeF t).1 = r
    generalize hm : (runeF t).2 = m at hkb hle hpos
    have Hr := hid_ hr
    have Hm := hid_ hm
    clear hr hm
    go_wp2_with fail
    refine Hc.out.mono ?_
    rintro e w' ⟨rfl, rfl⟩
    rw [Hr.out, Hm.out]
    go_wp2_with (at_builtin; refine wpList_one rfl (.tmp 17) (.tmp 19) 237 21 rfl (.int .i32 0) 4 Tryz.underlying237 info_i32 rfl w.heap.size A rs.length c _ rfl (Ho.out.later ((Below.refl _ _).alloc (Nat.le_refl _) _)) wr.heap.size _ rfl (at_new _ _ _) rfl (rs.length + 1) (runeVals (rs ++ [r])) rfl (by simp [runeVals]) (by omega) (by omega) (by have := Hb.out.size; simp; omega) ?_; intro A4 c4 w4 ho' hb' hg' hat'; have Ho4 := hid_ ho'; have Hb4 := hid_ ((Hb.out.alloc Hb.out.size _).trans hb'); clear ho' hb' hg' hat')
    go_roundw
    case rel =>
     refine ⟨i + m, rs ++ [r], A4, c4, ?_, ?_, ?_, ?_, Hb4.out⟩
     ·have h := Hcut.out
      rw [Ht.out, Hm.out] at h
      rw [h]
     ·rw [List.length_append]; rfl
     ·rw [List.length_append]; exact Ho4.out
     ·have h := Hst.out
      rw [Hra.out, Hr.out, Hm.out] at h
      exact h
    case measure =>
     show (t.extract m t.size).size < t.size
     rw [size_from]
     omega
  ·have Hend := hid_ (runesAt_end Hat.out (by omega))
   have htz : t.size = 0 := by omega
   have hgt : decide ((0 : Int) < (t.size : Int)) = false := decide_eq_false (by omega)
   clear hz
   go_wp2
   go_ret2
   exact runesPost_some Hend.out Ho.out.row Hb.out
def KindIs (w : World) (k : Int) (e : Ending) (w' : World) : Prop := e = .returned (.int .i64 k) ∧ Below w.heap.size w w'
theorem kindIs_mk {w w' : World} {k k' : Int} (h : k = k') (hb : Below w.heap.size w w') : KindIs w k (.returned (.int .i64 k')) w' := ⟨by rw [h], hb⟩
set_option maxHeartbeats 1000000 in
theorem refname_any (s : ByteArray) (w : World) (hs : s.size ≤ 9223372036854775807) :
  Calls Tryz.prog 134 #[.string s] w (KindIs w (nameKind s)) := by
 by_cases h1 : s.size < 1
 ·have Hk := hid_ (kind_bad (name_size (.inl h1)))
  have e1 : decide ((s.size : Int) < 1) = true := decide_eq_true (by omega)
  clear h1
  go_enter Tryz.func134, Tryz.ntmps134
  go_wp2
  go_ret
  exact kindIs_mk Hk.out (Below.refl _ _)
 have e1 : decide ((s.size : Int) < 1) = false := decide_eq_false (by omega)
 by_cases h2 : 32 < s.size
 ·have Hk := hid_ (kind_bad (name_size (.inr h2)))
  have e2 : decide ((32 : Int) < (s.size : Int)) = true := decide_eq_true (by omega)
  go_enter Tryz.func134, Tryz.ntmps134
  go_wp2
  go_ret
  exact kindIs_mk Hk.out (Below.refl _ _)
 have e2 : decide ((32 : Int) < (s.size : Int)) = false := decide_eq_false (by omega)
 have Hc := hid_ (refrunes_any s w (by omega))
 cases hr : runesOf s 0 with
 | none =>
   have Hk := hid_ (kind_bad (name_none hr))
   have Hr := hid_ hr
   clear hr
   go_enter Tryz.func134, Tryz.ntmps134
   go_wp2_with fail
   refine Hc.out.mono ?_
   rintro e w1 ⟨A, n, c, rfl, hrow, hb⟩
   rw [Hr.out] at hrow ⊢
   obtain rfl : n = 0 := by rw [← hrow.len]; rfl
   have Hb := hid_ hb
   clear hrow hb
   go_wp2_with fail
   go_loop [5] (fun vi => vi = .int .i64 0) (fun _ => 0)
   case atStart => rfl
   case round =>
    subst hrel
    go_wp2_with fail
    go_ret
    exact kindIs_mk Hk.out Hb.out
 | some rs =>
   have Hr := hid_ hr
   clear hr
   go_enter Tryz.func134, Tryz.ntmps134
   go_wp2_with fail
   refine Hc.out.mono ?_
   rintro e w1 ⟨A, n, c, rfl, hrow, hb⟩
   rw [Hr.out] at hrow ⊢
   have hrow' : Row w1 A n c (runeVals rs) := hrow
   obtain rfl : n = rs.length := by rw [← hrow'.len]; simp [runeVals]
   have hle := hrow'.le
   have Hb := hid_ hb
   have Hrow := hid_ hrow'
   clear hrow hrow' hb
   go_wp2_with fail
   go_loop [5] (fun vi => ∃ k : Nat, k ≤ rs.length ∧ vi = .int .i64 k ∧ Hid (∀ j (hj : j < rs.length), j < k → badRune rs[j] = false)) (fun vi => rs.length - (intOf vi).toNat)
   case atStart => exact ⟨0, by omega, rfl, hid_ (by intro j _ h; omega)⟩
   case round =>
    obtain ⟨k, hk, rfl, Hg⟩ := hrel
    by_cases hlt : k < rs.length
    ·obtain ⟨b, off, rfl, hc⟩ := Hrow.out.at_ (k := k) (by simpa [runeVals] using hlt)
     have hcell : w1.cell? ⟨b, off + k, .none⟩ = some (.int .i32 (rs[k] : Nat)) := by rw [hc]; simp [runeVals]
     clear hc
     cases hbr : badRune rs[k]
     ·have Hg2 := hid_ (show ∀ j (hj : j < rs.length), j < k + 1 → badRune rs[j] = false by
       intro j hj h
       by_cases e : j = k
       ·subst e; exact hbr
       ·exact Hg.out j hj (by omega))
      have hb2 : 32 ≤ rs[k] ∧ (rs[k] < 127 ∨ 159 < rs[k]) := by
       unfold badRune at hbr
       simp at hbr
       omega
      obtain ⟨g1, g2⟩ := hb2
      clear hbr
      generalize rs[k] = r at *
      rcases g2 with g2 | g2
      ·go_wp2_with fail
       go_round
       case rel => exact ⟨k + 1, by omega, by go_num, Hg2⟩
       case measure => simp [intOf]; omega
      ·have g3 : 127 ≤ r := by omega
       go_wp2_with fail
       go_round
       case rel => exact ⟨k + 1, by omega, by go_num, Hg2⟩
       case measure => simp [intOf]; omega
     ·have Hk := hid_ (kind_bad (name_bad Hr.out hlt hbr))
      have hb2 : rs[k] < 32 ∨ (32 ≤ rs[k] ∧ 127 ≤ rs[k] ∧ rs[k] ≤ 159) := by
       unfold badRune at hbr
       simp at hbr
       omega
      clear hbr
      generalize rs[k] = r at *
      rcases hb2 with g1 | ⟨g0, g1, g2⟩
      all_goals
       go_wp2_with fail
       go_ret
       exact kindIs_mk Hk.out Hb.out
    ·have Hk := hid_ (kind_good (name_good Hr.out (by omega) (by omega) (fun j hj => Hg.out j hj (by omega))))
     obtain rfl : k = rs.length := by omega
     go_wp2_with fail
     go_ret
     exact kindIs_mk Hk.out Hb.out
end Go.Proofs.YthjhofmjhmnddaaGreat
/-
 What the reference's Eight, Number and Right answer.
-/
namespace Go.Proofs.YthjhofmjhmnddaaGreat
open Go.RowKit Ru
end Go.Proofs.YthjhofmjhmnddaaGreat
/-
 What the reference's Right and Less answer; a span as a value.
-/
namespace Go.Proofs.YthjhofmjhmnddaaGreat
open Go.RowKit Ru
theorem bcell {W w1 : World} (hb : Below W.heap.size W w1) : (∀ b o, b < W.heap.size → w1.cell? ⟨b, o, none⟩ = W.cell? ⟨b, o, none⟩) ∧ (∀ b o, b < W.heap.size → w1.frozen? ⟨b, o, none⟩ = W.frozen? ⟨b, o, none⟩) :=
 ⟨fun b o h => hb.cell (p := ⟨b, o, none⟩) h, fun b o h => hb.frozen (p := ⟨b, o, none⟩) h⟩
def spanCells (s : SpanD) : Array Value := #[.int .u64 (s.trace : Nat), .int .u64 (s.id : Nat), .int .u64 (s.parent : Nat), .int .u64 (s.start : Nat), .int .u64 (s.len : Nat), .string s.service, .string s.name, .bool s.fail]
abbrev spanVal (s : SpanD) : Value := .agg #[.int .u64 (s.trace : Nat), .int .u64 (s.id : Nat), .int .u64 (s.parent : Nat), .int .u64 (s.start : Nat), .int .u64 (s.len : Nat), .string s.service, .string s.name, .bool s.fail]
set_option maxHeartbeats 1000000 in
theorem refright_arg (s : SpanD) (w : World) (hs : s.Wf) (ha : argBad s = true) :
  Calls Tryz.prog 103 #[spanVal s] w (KindIs w (rightF s)) := by
 obtain ⟨t, i, p, st, ln, sv, nm, f⟩ := s
 have Hk := hid_ (right_arg ha)
 have h1 := arg_yes ha
 simp only at h1
 clear ha hs
 rcases h1 with h1 | ⟨h0, h1⟩ | ⟨h0, h0', h1⟩ | ⟨h0, h0', h0'', h1⟩
 ·have e1 : ((t : Int) == 0) = true := by rw [beq_iff_eq]; omega
  have H := hid_ h1
  clear h1
  go_enter Tryz.func103, Tryz.ntmps103
  go_wp2_with fail
  go_ret
  exact kindIs_mk Hk.out ((Below.refl _ _).alloc (Nat.le_refl _) _)
 ·have e1 : ((t : Int) == 0) = false := by rw [beq_eq_false_iff_ne]; omega
  have e2 : ((i : Int) == 0) = true := by rw [beq_iff_eq]; omega
  have H := hid_ h1
  clear h1 h0
  go_enter Tryz.func103, Tryz.ntmps103
  go_wp2_with fail
  go_ret
  exact kindIs_mk Hk.out ((Below.refl _ _).alloc (Nat.le_refl _) _)
 ·have e1 : ((t : Int) == 0) = false := by rw [beq_eq_false_iff_ne]; omega
  have e2 : ((i : Int) == 0) = false := by rw [beq_eq_false_iff_ne]; omega
  clear h0 h0'
  go_enter Tryz.func103, Tryz.ntmps103
  go_wp2_with fail
  go_ret
  exact kindIs_mk Hk.out ((Below.refl _ _).alloc (Nat.le_refl _) _)
 ·have e1 : ((t : Int) == 0) = false := by rw [beq_eq_false_iff_ne]; omega
  have e2 : ((i : Int) == 0) = false := by rw [beq_eq_false_iff_ne]; omega
  clear h0 h0'
  go_enter Tryz.func103, Tryz.ntmps103
  go_wp2_with fail
  go_ret
  exact kindIs_mk Hk.out ((Below.refl _ _).alloc (Nat.le_refl _) _)
set_option maxHeartbeats 1000000 in
theorem refright_any (s : SpanD) (w : World) (hs : s.Wf) :
  Calls Tryz.prog 103 #[spanVal s] w (KindIs w (rightF s)) := by
 cases ha : argBad s
 rotate_left
 ·exact refright_arg s w hs ha
 have Ha := hid_ ha
 obtain ⟨h0, h0', h1, h2⟩ := arg_no ha
 have Hsv := hid_ (fun W => refname_any s.service W hs.service)
 have Hnm := hid_ (fun W => refname_any s.name W hs.name)
 clear ha hs
 have Hr1 := hid_ (fun h => right_name Ha.out (.inl h))
 have Hr2 := hid_ (fun h => right_name Ha.out (.inr h))
 have Hr3 := hid_ (right_ok Ha.out)
 obtain ⟨t, i, p, st, ln, sv, nm, f⟩ := s
 simp only at h0 h0' h1 h2
 have e1 : ((t : Int) == 0) = false := by rw [beq_eq_false_iff_ne]; omega
 have e2 : ((i : Int) == 0) = false := by rw [beq_eq_false_iff_ne]; omega
 clear h0 h0'
 cases hsv : nameOk sv
 ·have Hk := hid_ (Hr1.out hsv)
  have Hn := hid_ (kind_bad hsv)
  clear hsv
  go_enter Tryz.func103, Tryz.ntmps103
  go_wp2_with fail
  refine (Hsv.out _).mono ?_
  rintro e w1 ⟨rfl, hb⟩
  rw [Hn.out]
  have Hb := hid_ hb
  clear hb
  go_wp2_with fail
  go_ret
  exact kindIs_mk Hk.out (((Below.refl _ _).alloc (Nat.le_refl _) _).trans (Hb.out.mono (by simp)))
 have Hn := hid_ (kind_good hsv)
 have Hsvo := hid_ hsv
 clear hsv
 go_enter Tryz.func103, Tryz.ntmps103
 go_wp2_with fail
 refine (Hsv.out _).mono ?_
 rintro e w1 ⟨rfl, hb⟩
 rw [Hn.out]
 have Hb := hid_ hb
 obtain ⟨hc, hf⟩ := bcell hb
 have hz : w.heap.size < w1.heap.size := by have := hb.size; simp at this; omega
 clear hb hf
 go_wp2_with fail
 refine (Hnm.out _).mono ?_
 rintro e w2 ⟨rfl, hb2⟩
 have Hb2 := hid_ (Below.trans (((Below.refl w.heap.size w).alloc (Nat.le_refl _) _).trans (Hb.out.mono (by simp))) (hb2.mono (by omega)))
 clear hb2 hc
 cases hnm : nameOk nm
 ·rw [kind_bad hnm]
  have Hk := hid_ (Hr2.out hnm)
  clear hnm
  go_wp2_with fail
  go_ret
  exact kindIs_mk Hk.out Hb2.out
 ·rw [kind_good hnm]
  have Hk := hid_ (Hr3.out Hsvo.out hnm)
  clear hnm
  go_wp2_with fail
  go_ret
  exact kindIs_mk Hk.out Hb2.out
def lessF (a b : SpanD) : Bool := decide (a.start < b.start) || (decide (a.start = b.start) && decide (a.id < b.id))
def BoolIs (w : World) (k : Bool) (e : Ending) (w' : World) : Prop := e = .returned (.bool k) ∧ Below w.heap.size w w'
theorem boolIs_mk {w w' : World} {k k' : Bool} (h : k = k') (hb : Below w.heap.size w w') : BoolIs w k (.returned (.bool k')) w' := ⟨by rw [h], hb⟩
end Go.Proofs.YthjhofmjhmnddaaGreat
/-
 Two spans held against each other.
-/
namespace Go.Proofs.YthjhofmjhmnddaaGreat
open Go.RowKit Ru
def sameF (a b : SpanD) : Bool := decide (a.trace = b.trace) && (decide (a.id = b.id) && (decide (a.parent = b.parent) && (decide (a.start = b.start) && (decide (a.len = b.len) && (decide (a.service.toList = b.service.toList) && (decide (a.name.toList = b.name.toList) && decide (a.fail = b.fail)))))))
theorem sameF_self (a : SpanD) : sameF a a = true := by simp [sameF]
set_option maxRecDepth 100000 in
set_option maxHeartbeats 1000000 in
theorem span_equalIn (a b : SpanD) (w : World) : (Op.equalIn 10000 124 (spanVal a) (spanVal b)).run Tryz.prog w = .ok (sameF a b) w := by
 rw [run_equalIn_agg w 9999 124 _ _ (by kernel_rfl) (by kernel_rfl)]
 simp [Program.fieldsOf, Tryz.underlying124, Op.eqFields, part, go_sem]
 simp only [Int.ofNat_inj]
 unfold sameF
 repeat' split
 all_goals simp_all
theorem span_neq (a b : SpanD) (w : World) : (binOp .neq 124 (spanVal a) (spanVal b)).run Tryz.prog w = .ok (.bool (!sameF a b)) w := by
 rw [run_neq_struct, span_equalIn]
 rfl
end Go.Proofs.YthjhofmjhmnddaaGreat
/-
 Slices of spans: eight cells each.
-/
namespace Go.Proofs.YthjhofmjhmnddaaGreat
open Go.RowKit Ru
structure SpanAt (w : World) (b o : Nat) (s : SpanD) : Prop where
 c0 : w.cell? ⟨b, o, none⟩ = some (.int .u64 (s.trace : Nat))
 c1 : w.cell? ⟨b, o + 1, none⟩ = some (.int .u64 (s.id : Nat))
 c2 : w.cell? ⟨b, o + 2, none⟩ = some (.int .u64 (s.parent : Nat))
 c3 : w.cell? ⟨b, o + 3, none⟩ = some (.int .u64 (s.start : Nat))
 c4 : w.cell? ⟨b, o + 4, none⟩ = some (.int .u64 (s.len : Nat))
 c5 : w.cell? ⟨b, o + 5, none⟩ = some (.string s.service)
 c6 : w.cell? ⟨b, o + 6, none⟩ = some (.string s.name)
 c7 : w.cell? ⟨b, o + 7, none⟩ = some (.bool s.fail)
theorem SpanAt.lt {w : World} {b o : Nat} {s : SpanD} (h : SpanAt w b o s) : b < w.heap.size := lt_of_cell h.c0
theorem SpanAt.keep {w w' : World} {b o : Nat} {s : SpanD} (h : SpanAt w b o s) (hk : ∀ p : Addr, p.block < w.heap.size → w'.cell? p = w.cell? p) : SpanAt w' b o s := by
 have hl := h.lt
 refine ⟨?_, ?_, ?_, ?_, ?_, ?_, ?_, ?_⟩
 all_goals rw [hk _ hl]
 ·exact h.c0
 ·exact h.c1
 ·exact h.c2
 ·exact h.c3
 ·exact h.c4
 ·exact h.c5
 ·exact h.c6
 ·exact h.c7
structure SpanRow (w : World) (A : Option Addr) (n c : Nat) (ss : List SpanD) : Prop where
 holds : ss ≠ [] → ∃ b off, A = some ⟨b, off, none⟩ ∧ ∀ k (h : k < ss.length), SpanAt w b (off + k * 8) ss[k]
 len : ss.length = n
 cap : n ≤ c
 max : c ≤ 9223372036854775807
 nil : A = none → c = 0
theorem SpanRow.keep {w w' : World} {A : Option Addr} {n c : Nat} {ss : List SpanD} (h : SpanRow w A n c ss) (hk : ∀ p : Addr, p.block < w.heap.size → w'.cell? p = w.cell? p) : SpanRow w' A n c ss :=
 ⟨fun hne => let ⟨b, off, e, hc⟩ := h.holds hne; ⟨b, off, e, fun k hkl => (hc k hkl).keep hk⟩, h.len, h.cap, h.max, h.nil⟩
theorem SpanRow.below {w w' : World} {A : Option Addr} {n c : Nat} {ss : List SpanD} (h : SpanRow w A n c ss) (hb : Below w.heap.size w w') : SpanRow w' A n c ss := h.keep fun _ hp => hb.cell hp
theorem SpanRow.at_ {w : World} {A : Option Addr} {n c : Nat} {ss : List SpanD} (h : SpanRow w A n c ss) {k : Nat} (hk : k < ss.length) : ∃ b off, A = some ⟨b, off, none⟩ ∧ SpanAt w b (off + k * 8) ss[k] := by
 obtain ⟨b, off, e, hc⟩ := h.holds (by rintro rfl; simp at hk)
 exact ⟨b, off, e, hc k hk⟩
def cellsOf (s : SpanD) : List Value := [.int .u64 (s.trace : Nat), .int .u64 (s.id : Nat), .int .u64 (s.parent : Nat), .int .u64 (s.start : Nat), .int .u64 (s.len : Nat), .string s.service, .string s.name, .bool s.fail]
def cellsAll (ss : List SpanD) : List Value := ss.flatMap cellsOf
theorem cellsOf_length (s : SpanD) : (cellsOf s).length = 8 := rfl
theorem cellsAll_length (ss : List SpanD) : (cellsAll ss).length = ss.length * 8 := by
 induction ss with
 | nil => rfl
 | cons s ss ih => rw [cellsAll, List.flatMap_cons, List.length_append, cellsOf_length, show (ss.flatMap cellsOf).length = ss.length * 8 from ih, List.length_cons]; omega
theorem cellsAll_append (a b : List SpanD) : cellsAll (a ++ b) = cellsAll a ++ cellsAll b := by simp [cellsAll]
theorem cellsAll_get : ∀ (ss : List SpanD) {k : Nat} (h : k < ss.length) (j : Nat), j < 8 → (cellsAll ss)[k * 8 + j]? = (cellsOf ss[k])[j]?
 | s :: ss, 0, _, j, hj => by
   rw [cellsAll, List.flatMap_cons, Nat.zero_mul, Nat.zero_add, List.getElem?_append_left (by rw [cellsOf_length]; exact hj)]
   rfl
 | s :: ss, k + 1, h, j, hj => by
   rw [cellsAll, List.flatMap_cons, List.getElem?_append_right (by rw [cellsOf_length]; omega), cellsOf_length, show (k + 1) * 8 + j - 8 = k * 8 + j by omega]
   exact cellsAll_get ss (by simpa using h) j hj
theorem spanAt_of {w : World} {b o : Nat} {s : SpanD} (h : ∀ j u, (cellsOf s)[j]? = some u → w.cell? ⟨b, o + j, none⟩ = some u) : SpanAt w b o s :=
 ⟨h 0 _ rfl, h 1 _ rfl, h 2 _ rfl, h 3 _ rfl, h 4 _ rfl, h 5 _ rfl, h 6 _ rfl, h 7 _ rfl⟩
theorem SpanAt.cell {w : World} {b o : Nat} {s : SpanD} (h : SpanAt w b o s) (j : Nat) (u : Value) (hu : (cellsOf s)[j]? = some u) : w.cell? ⟨b, o + j, none⟩ = some u := by
 match j, hu with
 | 0, hu => cases hu; exact h.c0
 | 1, hu => cases hu; exact h.c1
 | 2, hu => cases hu; exact h.c2
 | 3, hu => cases hu; exact h.c3
 | 4, hu => cases hu; exact h.c4
 | 5, hu => cases hu; exact h.c5
 | 6, hu => cases hu; exact h.c6
 | 7, hu => cases hu; exact h.c7
theorem SpanRow.cells {w : World} {A : Option Addr} {n c : Nat} {ss : List SpanD} (h : SpanRow w A n c ss) : Holds w A (cellsAll ss) := by
 intro hne
 obtain ⟨b, off, e, hc⟩ := h.holds (by rintro rfl; exact hne rfl)
 refine ⟨b, off, e, fun k u hu => ?_⟩
 have hk : k < ss.length * 8 := by
  have := (List.getElem?_eq_some_iff.1 hu).1
  rwa [cellsAll_length] at this
 have h1 : k / 8 < ss.length := by omega
 have h2 := cellsAll_get ss h1 (k % 8) (by omega)
 rw [show k / 8 * 8 + k % 8 = k by omega] at h2
 rw [h2] at hu
 have h3 := (hc _ h1).cell (k % 8) u hu
 rwa [show off + k / 8 * 8 + k % 8 = off + k by omega] at h3
theorem spanRow_of {w : World} {A : Option Addr} {n c : Nat} {ss : List SpanD} (h : Holds w A (cellsAll ss)) (h1 : ss.length = n) (h2 : n ≤ c) (h3 : c ≤ 9223372036854775807) (h4 : A = none → c = 0) : SpanRow w A n c ss := by
 refine ⟨fun hne => ?_, h1, h2, h3, h4⟩
 have hne' : cellsAll ss ≠ [] := by
  intro e
  have := congrArg List.length e
  rw [cellsAll_length] at this
  have := List.length_pos_iff.2 hne
  simp at *
  omega
 obtain ⟨b, off, e, hc⟩ := h hne'
 refine ⟨b, off, e, fun k hk => spanAt_of fun j u hu => ?_⟩
 have hj : j < 8 := (List.getElem?_eq_some_iff.1 hu).1
 have := hc (k * 8 + j) u (by rw [cellsAll_get ss hk j hj]; exact hu)
 rwa [← Nat.add_assoc] at this
def OwnSp (B : Nat) (w : World) (A : Option Addr) (n c : Nat) (ss : List SpanD) : Prop := w.ownsRow B 124 8 (.slice A n c) n (cellsAll ss)
theorem OwnSp.len {B : Nat} {w : World} {A : Option Addr} {n c : Nat} {ss : List SpanD} (h : OwnSp B w A n c ss) : ss.length = n := by
 have := h.1
 rw [cellsAll_length] at this
 omega
theorem OwnSp.row {B : Nat} {w : World} {A : Option Addr} {n c : Nat} {ss : List SpanD} (h : OwnSp B w A n c ss) : SpanRow w A n c ss := by
 have hh := own_holds h
 have hl := h.len
 obtain ⟨hx, ⟨e', _⟩ | ⟨g, cap, cur, e', hg, _, hnc, hcm, hs, hc⟩⟩ := h
 ·injection e' with a b c
  subst a
  subst c
  exact spanRow_of hh hl (by omega) (by omega) (fun _ => rfl)
 ·injection e' with a b c
  subst a c
  unfold maxLen at hcm
  exact spanRow_of hh hl hnc (by omega) (fun e => by cases e)
end Go.Proofs.YthjhofmjhmnddaaGreat
/-
 What the reference's text and Put answer.
-/
namespace Go.Proofs.YthjhofmjhmnddaaGreat
open Go.RowKit Ru
def textF (s : ByteArray) : List UInt8 := UInt8.ofNat s.size :: strB s
def numsN (s : SpanD) : List Nat := [s.trace, s.id, s.parent, s.start, s.len]
def numVals (s : SpanD) : List Value := (numsN s).map fun n => .int .u64 (n : Nat)
def headK (s : SpanD) (k : Nat) : List UInt8 := ((numsN s).take k).flatMap eight
def flag (b : Bool) : UInt8 := if b then 1 else 0
def putF (s : SpanD) : List UInt8 := headK s 5 ++ [flag s.fail] ++ textF s.service ++ textF s.name
def SpanPost (w : World) (l0 : List UInt8) (s : SpanD) (e : Ending) (w' : World) : Prop :=
 (rightF s ≠ 0 ∧ e = .returned (.tuple #[.slice none 0 0, .int .i64 (rightF s)]) ∧ Below w.heap.size w w') ∨
 (rightF s = 0 ∧ ∃ A n c, e = .returned (.tuple #[.slice A n c, .int .i64 0]) ∧ Own w.heap.size w' A n c (l0 ++ putF s) ∧ Below w.heap.size w w')
end Go.Proofs.YthjhofmjhmnddaaGreat
/-
 Plain facts on spans that are put and cut: there and back, and cut off.
-/
namespace Go.Proofs.YthjhofmjhmnddaaGreat
open Go.RowKit Ru
end Go.Proofs.YthjhofmjhmnddaaGreat
/-
 Rows of spans of the call's own: appending to them, and what is kept beside.
-/
namespace Go.Proofs.YthjhofmjhmnddaaGreat
open Go.RowKit Ru
theorem info_span : (Tryz.prog.info? 124).map (fun i => (i.zero, i.size, i.bytes)) =
  some (some (.agg #[.int .u64 0, .int .u64 0, .int .u64 0, .int .u64 0, .int .u64 0, .string ⟨#[]⟩, .string ⟨#[]⟩, .bool false]), 8, 80) := by kernel_rfl
theorem cellsAll_one (ss : List SpanD) : ∀ u ∈ cellsAll ss, u.oneCell' = true := by
 intro u hu
 obtain ⟨s, _, h⟩ := List.mem_flatMap.1 hu
 simp [cellsOf] at h
 rcases h with rfl | rfl | rfl | rfl | rfl | rfl | rfl | rfl
 all_goals rfl
theorem OwnSp.none (B : Nat) (w : World) : OwnSp B w .none 0 0 [] := World.ownsRow_nil w B _ _
theorem OwnSp.from_ {B : Nat} {w : World} {A : Option Addr} {n c : Nat} {ss : List SpanD} (h : OwnSp B w A n c ss) : ∀ k, (Value.slice A n c).ownBlock = some k → B ≤ k ∧ k < w.heap.size := World.ownsRow.lt h
theorem OwnSp.later {B : Nat} {w w' : World} {A : Option Addr} {n c : Nat} {ss : List SpanD} (h : OwnSp B w A n c ss) (hb : Below w.heap.size w w') : OwnSp B w' A n c ss := by
 obtain ⟨hx, h | ⟨g, cap, cur, e', hg, hh, r⟩⟩ := h
 ·exact ⟨hx, .inl h⟩
 ·refine ⟨hx, .inr ⟨g, cap, cur, e', hg, ?_, r⟩⟩
  have hlt : g < w.heap.size := (Array.getElem?_eq_some_iff.1 hh).1
  rw [← hh]
  exact hb.block g hlt
theorem OwnSp.at_ {B : Nat} {w : World} {A : Option Addr} {n n' c : Nat} {l l' : List SpanD} (h : OwnSp B w A n c l) (e1 : n = n') (e2 : l = l') : OwnSp B w A n' c l' := by subst e1 e2; exact h
theorem Own.apart {B : Nat} {w w' : World} {A : Option Addr} {n c : Nat} {l : List UInt8} {row : Option Nat} (h : Own B w A n c l) (hg : w.grownBy w' row) (hr : ∀ k, row = some k → k < B) : Own B w' A n c l := by
 refine World.ownsRow.kept h hg ?_
 rcases hA : (Value.slice A n c).ownBlock with _ | k
 ·exact .inl rfl
 ·refine .inr fun e => ?_
  have h1 := (World.ownsRow.lt h k hA).1
  have h2 := hr k e.symm
  omega
def putAll (ss : List SpanD) : List UInt8 := ss.flatMap putF
def AllRight (ss : List SpanD) : Prop := ∀ s ∈ ss, s.Wf ∧ rightF s = 0
theorem AllRight.drop {ss : List SpanD} (h : AllRight ss) (k : Nat) : AllRight (ss.drop k) := fun s hs => h s (List.mem_of_mem_drop hs)
end Go.Proofs.YthjhofmjhmnddaaGreat
/-
 Plain facts on numbers that rise; slices of members: three cells each.
-/
namespace Go.Proofs.YthjhofmjhmnddaaGreat
open Go.RowKit Ru
def risesFrom : Nat → List Nat → Bool
 | _, [] => true
 | a, x :: r => decide (a < x) && risesFrom x r
def risesF (l : List Nat) : Bool := risesFrom 0 l
theorem rises_no {a x : Nat} {r : List Nat} (h : x ≤ a) : risesFrom a (x :: r) = false := by
 rw [risesFrom, decide_eq_false (by omega)]
 rfl
theorem rises_yes {a x : Nat} {r : List Nat} (h : a < x) : risesFrom a (x :: r) = risesFrom x r := by
 rw [risesFrom, decide_eq_true h]
 rfl
structure MemberD where
 id : Nat
 inc : Nat
 state : Int
structure MemberD.Wf (m : MemberD) : Prop where
 id : m.id < 18446744073709551616
 inc : m.inc < 18446744073709551616
 lo : -9223372036854775808 ≤ m.state
 hi : m.state ≤ 9223372036854775807
abbrev memVal (m : MemberD) : Value := .agg #[.int .u64 (m.id : Nat), .int .u64 (m.inc : Nat), .int .i64 m.state]
def memCells (m : MemberD) : Array Value := #[.int .u64 (m.id : Nat), .int .u64 (m.inc : Nat), .int .i64 m.state]
def mcells (m : MemberD) : List Value := [.int .u64 (m.id : Nat), .int .u64 (m.inc : Nat), .int .i64 m.state]
def memsAll (ms : List MemberD) : List Value := ms.flatMap mcells
structure MemAt (w : World) (b o : Nat) (m : MemberD) : Prop where
 c0 : w.cell? ⟨b, o, none⟩ = some (.int .u64 (m.id : Nat))
 c1 : w.cell? ⟨b, o + 1, none⟩ = some (.int .u64 (m.inc : Nat))
 c2 : w.cell? ⟨b, o + 2, none⟩ = some (.int .i64 m.state)
theorem MemAt.lt {w : World} {b o : Nat} {m : MemberD} (h : MemAt w b o m) : b < w.heap.size := lt_of_cell h.c0
theorem MemAt.keep_ {w w' : World} {b o : Nat} {m : MemberD} (h : MemAt w b o m) (hk : ∀ p : Addr, p.block < w.heap.size → w'.cell? p = w.cell? p) : MemAt w' b o m := by
 have hl := h.lt
 refine ⟨?_, ?_, ?_⟩
 all_goals rw [hk _ hl]
 ·exact h.c0
 ·exact h.c1
 ·exact h.c2
theorem memAt_of {w : World} {b o : Nat} {m : MemberD} (h : ∀ j u, (mcells m)[j]? = some u → w.cell? ⟨b, o + j, none⟩ = some u) : MemAt w b o m :=
 ⟨h 0 _ rfl, h 1 _ rfl, h 2 _ rfl⟩
theorem MemAt.cell {w : World} {b o : Nat} {m : MemberD} (h : MemAt w b o m) (j : Nat) (u : Value) (hu : (mcells m)[j]? = some u) : w.cell? ⟨b, o + j, none⟩ = some u := by
 match j, hu with
 | 0, hu => cases hu; exact h.c0
 | 1, hu => cases hu; exact h.c1
 | 2, hu => cases hu; exact h.c2
structure MemRow (w : World) (A : Option Addr) (n c : Nat) (ms : List MemberD) : Prop where
 holds : ms ≠ [] → ∃ b off, A = some ⟨b, off, none⟩ ∧ ∀ k (h : k < ms.length), MemAt w b (off + k * 3) ms[k]
 len : ms.length = n
 cap : n ≤ c
 max : c ≤ 9223372036854775807
 nil : A = none → c = 0
theorem MemRow.none (w : World) : MemRow w Option.none 0 0 [] := ⟨fun h => absurd rfl h, rfl, Nat.le_refl _, by omega, fun _ => rfl⟩
theorem MemRow.keep {w w' : World} {A : Option Addr} {n c : Nat} {ms : List MemberD} (h : MemRow w A n c ms) (hk : ∀ p : Addr, p.block < w.heap.size → w'.cell? p = w.cell? p) : MemRow w' A n c ms :=
 ⟨fun hne => let ⟨b, off, e, hc⟩ := h.holds hne; ⟨b, off, e, fun k hkl => (hc k hkl).keep_ hk⟩, h.len, h.cap, h.max, h.nil⟩
theorem MemRow.below {w w' : World} {A : Option Addr} {n c : Nat} {ms : List MemberD} (h : MemRow w A n c ms) (hb : Below w.heap.size w w') : MemRow w' A n c ms := h.keep fun _ hp => hb.cell hp
theorem MemRow.at_ {w : World} {A : Option Addr} {n c : Nat} {ms : List MemberD} (h : MemRow w A n c ms) {k : Nat} (hk : k < ms.length) : ∃ b off, A = some ⟨b, off, Option.none⟩ ∧ MemAt w b (off + k * 3) ms[k] := by
 obtain ⟨b, off, e, hc⟩ := h.holds (by rintro rfl; simp at hk)
 exact ⟨b, off, e, hc k hk⟩
theorem memsAll_length (ms : List MemberD) : (memsAll ms).length = ms.length * 3 := by
 induction ms with
 | nil => rfl
 | cons r rs ih => rw [memsAll, List.flatMap_cons, List.length_append, show (mcells r).length = 3 from rfl, show (rs.flatMap mcells).length = rs.length * 3 from ih, List.length_cons]; omega
theorem memsAll_get : ∀ (rs : List MemberD) {k : Nat} (h : k < rs.length) (j : Nat), j < 3 → (memsAll rs)[k * 3 + j]? = (mcells rs[k])[j]?
 | r :: rs, 0, _, j, hj => by
   rw [memsAll, List.flatMap_cons, Nat.zero_mul, Nat.zero_add, List.getElem?_append_left (by exact hj)]
   rfl
 | r :: rs, k + 1, h, j, hj => by
   rw [memsAll, List.flatMap_cons, List.getElem?_append_right (by show 3 ≤ _; omega), show (mcells r).length = 3 from rfl, show (k + 1) * 3 + j - 3 = k * 3 + j by omega]
   exact memsAll_get rs (by simpa using h) j hj
theorem memsAll_one (rs : List MemberD) : ∀ u ∈ memsAll rs, u.oneCell' = true := by
 intro u hu
 obtain ⟨r, _, h⟩ := List.mem_flatMap.1 hu
 simp [mcells] at h
 rcases h with rfl | rfl | rfl
 all_goals rfl
theorem MemRow.cells {w : World} {A : Option Addr} {n c : Nat} {rs : List MemberD} (h : MemRow w A n c rs) : Holds w A (memsAll rs) := by
 intro hne
 obtain ⟨b, off, e, hc⟩ := h.holds (by rintro rfl; exact hne rfl)
 refine ⟨b, off, e, fun k u hu => ?_⟩
 have hk : k < rs.length * 3 := by
  have := (List.getElem?_eq_some_iff.1 hu).1
  rwa [memsAll_length] at this
 have h1 : k / 3 < rs.length := by omega
 have h2 := memsAll_get rs h1 (k % 3) (by omega)
 rw [show k / 3 * 3 + k % 3 = k by omega] at h2
 rw [h2] at hu
 have h3 := (hc _ h1).cell (k % 3) u hu
 rwa [show off + k / 3 * 3 + k % 3 = off + k by omega] at h3
theorem memRow_of {w : World} {A : Option Addr} {n c : Nat} {rs : List MemberD} (h : Holds w A (memsAll rs)) (h1 : rs.length = n) (h2 : n ≤ c) (h3 : c ≤ 9223372036854775807) (h4 : A = none → c = 0) : MemRow w A n c rs := by
 refine ⟨fun hne => ?_, h1, h2, h3, h4⟩
 have hne' : memsAll rs ≠ [] := by
  intro e
  have := congrArg List.length e
  rw [memsAll_length] at this
  have := List.length_pos_iff.2 hne
  simp at *
  omega
 obtain ⟨b, off, e, hc⟩ := h hne'
 refine ⟨b, off, e, fun k hk => memAt_of fun j u hu => ?_⟩
 have hj : j < 3 := (List.getElem?_eq_some_iff.1 hu).1
 have := hc (k * 3 + j) u (by rw [memsAll_get rs hk j hj]; exact hu)
 rwa [← Nat.add_assoc] at this
def idVals (l : List Nat) : List Value := l.map fun n => .int .u64 (n : Nat)
end Go.Proofs.YthjhofmjhmnddaaGreat
