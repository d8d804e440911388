/-
  What the reference's Rune answers.
-/
import Derived.Test.YtnpbokbfkdncmaaGreatZGA
namespace Go.Proofs.YtnpbokbfkdncmaaGreat
open Go.RowKit Ru

theorem int_at {k : IntKind} {a b : Int} (h : a = b) : Value.int k a = Value.int k b := by rw [h]
def RuneIs (w : World) (s : ByteArray) (e : Ending) (w' : World) : Prop := e = .returned (.tuple #[.int .i32 ((runeF s).1 : Nat), .int .i64 ((runeF s).2 : Nat)]) ∧ w = w'
theorem runeIs_mk {w : World} {s : ByteArray} {r n : Nat} (h : runeF s = (r, n)) : RuneIs w s (.returned (.tuple #[.int .i32 (r : Nat), .int .i64 (n : Nat)])) w := ⟨by rw [h], rfl⟩

set_option maxRecDepth 100000 in
set_option maxHeartbeats 1000000 in
theorem refrune_ascii (s : ByteArray) (w : World) (hp : 0 < s.size) (hs : s.size ≤ 9223372036854775807) (h1 : s[0].toNat < 128) :
    Calls Tryz.prog 105 #[.string s] w (RuneIs w s) := by
  have e0 : ((s.size : Int) == 0) = false := by rw [beq_eq_false_iff_ne]; omega
  have Hr := hid_ (show runeF s = (s[0].toNat, 1) by unfold runeF; rw [get_eq s 0 hp]; exact rune_ascii _ _ _ _ _ (by omega) h1)
  go_enter Tryz.func105, Tryz.ntmps105
  go_wp2
  go_ret2
  exact runeIs_mk Hr.out
set_option maxRecDepth 100000 in
set_option maxHeartbeats 1000000 in
theorem refrune_else (s : ByteArray) (w : World) (hp : 0 < s.size) (hs : s.size ≤ 9223372036854775807) (h1 : 128 ≤ s[0].toNat) (h2 : ¬ (194 ≤ s[0].toNat ∧ s[0].toNat ≤ 244)) :
    Calls Tryz.prog 105 #[.string s] w (RuneIs w s) := by
  have e0 : ((s.size : Int) == 0) = false := by rw [beq_eq_false_iff_ne]; omega
  have Hr := hid_ (show runeF s = (0, 0) by unfold runeF; exact rune_none _ _ _ _ _ (by rw [get_eq s 0 hp]; omega) (by rw [get_eq s 0 hp]; omega) (UInt8.toNat_lt _))
  by_cases hlow : s[0].toNat < 194
  · clear h2
    go_enter Tryz.func105, Tryz.ntmps105
    go_wp2
    go_ret2
    exact runeIs_mk Hr.out
  · have hhigh : 244 < s[0].toNat := by omega
    clear h2
    go_enter Tryz.func105, Tryz.ntmps105
    go_wp2
    go_ret2
    exact runeIs_mk Hr.out

set_option maxRecDepth 100000 in
set_option maxHeartbeats 4000000 in
theorem refrune_2 (s : ByteArray) (w : World) (hp : 0 < s.size) (hs : s.size ≤ 9223372036854775807) (h1 : 194 ≤ s[0].toNat) (h2 : s[0].toNat ≤ 223) :
    Calls Tryz.prog 105 #[.string s] w (RuneIs w s) := by
  have e0 : ((s.size : Int) == 0) = false := by rw [beq_eq_false_iff_ne]; omega
  have Hg0 := hid_ (get_eq s 0 hp)
  have C := hid_ (show 194 ≤ (s.get! 0).toNat ∧ (s.get! 0).toNat ≤ 223 by rw [Hg0.out]; exact ⟨h1, h2⟩)
  by_cases hf : s.size < 2
  · have Hr := hid_ (show runeF s = (0, 0) from rune_few2 _ _ _ _ _ C.out hf)
    go_enter Tryz.func105, Tryz.ntmps105
    go_wp2
    go_ret2
    exact runeIs_mk Hr.out
  have hf' : 2 ≤ s.size := by omega
  clear hf
  have t0 : decide ((s[0].toNat : Int) < 128) = false := by simp; omega
  have t1 : decide ((194 : Int) ≤ (s[0].toNat : Int)) = true := by simp; omega
  have t2 : decide ((s[0].toNat : Int) ≤ 223) = true := by simp; omega
  have tn : decide ((s.size : Int) < 2) = false := by simp; omega
  go_enter Tryz.func105, Tryz.ntmps105
  go_wp2
  go_loop [7, 8] (fun vr vi => ∃ k R : Nat, 1 ≤ k ∧ k ≤ 2 ∧ vi = .int .i64 k ∧ vr = .int .i32 R ∧ Hid (acc s ((s.get! 0).toNat - 192) k = R) ∧ Hid (Conts s k)) (fun _ vi => 2 - (intOf vi).toNat)
  case atStart => exact ⟨1, s[0].toNat - 192, by omega, by omega, rfl, int_at (by omega), hid_ (by rw [Hg0.out]; rfl), hid_ (Conts.one s)⟩
  case round =>
    obtain ⟨k, R, hk1, hk, rfl, rfl, HR, HC⟩ := hrel
    have hRb : R < 64 ^ k := by rw [← HR.out]; exact acc_lt (by have := C.out; omega) k hk1 (by omega) HC.out
    have hp4 : (64 : Nat) ^ k ≤ 16777216 := Nat.le_trans (Nat.pow_le_pow_right (by omega) (show k ≤ 4 by omega)) (Nat.le_refl _)
    have hR4 : R ≤ 16777216 := by omega
    clear hRb hp4
    by_cases hlt : k < 2
    · have hks : k < s.size := by omega
      have hgk := get_eq s k hks
      have bk : s[k].toNat < 256 := UInt8.toNat_lt _
      by_cases hc : 128 ≤ s[k].toNat ∧ s[k].toNat ≤ 191
      · have HC2 := hid_ (HC.out.succ (by rw [hgk]; exact hc))
        have HR2 := hid_ (show acc s ((s.get! 0).toNat - 192) (k + 1) = R * 64 + s[k].toNat - 128 by rw [acc_succ _ _ hk1, HR.out, hgk])
        obtain ⟨hca, hcb⟩ := hc
        clear hgk
        go_wp2
        go_round
        case rel => exact ⟨k + 1, R * 64 + s[k].toNat - 128, by omega, by omega, by go_num, int_at (by omega), HR2, HC2⟩
        case measure => simp [intOf]; omega
      · have Hr := hid_ (runeF_2_not C.out k hk1 hlt (by rw [hgk]; exact hc))
        clear hgk
        by_cases hlo : s[k].toNat < 128
        · go_wp2
          go_ret2
          exact runeIs_mk Hr.out
        · have hhi : 191 < s[k].toNat := by omega
          go_wp2
          go_ret2
          exact runeIs_mk Hr.out
    · obtain rfl : k = 2 := by omega
      have hF := runeF_2 C.out hf' HC.out R HR.out
      cases hfit : fits 128 R
      · rw [if_neg (by rw [hfit]; decide)] at hF
        have Hr := hid_ hF
        have hno := fits_no hfit
        clear hF hfit
        rcases (show R < 128 ∨ (128 ≤ R ∧ 1114111 < R) ∨ (128 ≤ R ∧ R ≤ 1114111 ∧ 55296 ≤ R ∧ R ≤ 57343) by omega) with hx | ⟨hx, hy⟩ | ⟨hx, hy, hz, hz2⟩
        all_goals
          clear hno
          first
            | (exfalso; omega)
            | (go_wp2
               go_ret2
               exact runeIs_mk Hr.out)
      · rw [if_pos hfit] at hF
        have Hr := hid_ hF
        obtain ⟨hx, hy, hz⟩ := fits_yes hfit
        clear hF hfit
        by_cases hq : 55296 ≤ R
        · have hq2 : 57343 < R := by omega
          clear hz
          go_wp2
          go_ret2
          exact runeIs_mk Hr.out
        · clear hz
          first
            | (exfalso; omega)
            | (go_wp2
               go_ret2
               exact runeIs_mk Hr.out)

set_option maxRecDepth 100000 in
set_option maxHeartbeats 4000000 in
theorem refrune_3 (s : ByteArray) (w : World) (hp : 0 < s.size) (hs : s.size ≤ 9223372036854775807) (h1 : 224 ≤ s[0].toNat) (h2 : s[0].toNat ≤ 239) :
    Calls Tryz.prog 105 #[.string s] w (RuneIs w s) := by
  have e0 : ((s.size : Int) == 0) = false := by rw [beq_eq_false_iff_ne]; omega
  have Hg0 := hid_ (get_eq s 0 hp)
  have C := hid_ (show 224 ≤ (s.get! 0).toNat ∧ (s.get! 0).toNat ≤ 239 by rw [Hg0.out]; exact ⟨h1, h2⟩)
  by_cases hf : s.size < 3
  · have Hr := hid_ (show runeF s = (0, 0) from rune_few3 _ _ _ _ _ C.out hf)
    go_enter Tryz.func105, Tryz.ntmps105
    go_wp2
    go_ret2
    exact runeIs_mk Hr.out
  have hf' : 3 ≤ s.size := by omega
  clear hf
  have t0 : decide ((s[0].toNat : Int) < 128) = false := by simp; omega
  have t1 : decide ((194 : Int) ≤ (s[0].toNat : Int)) = true := by simp; omega
  have t2 : decide ((s[0].toNat : Int) ≤ 223) = false := by simp; omega
  have t3 : decide ((224 : Int) ≤ (s[0].toNat : Int)) = true := by simp; omega
  have t4 : decide ((s[0].toNat : Int) ≤ 239) = true := by simp; omega
  have tn : decide ((s.size : Int) < 3) = false := by simp; omega
  go_enter Tryz.func105, Tryz.ntmps105
  go_wp2
  go_loop [7, 8] (fun vr vi => ∃ k R : Nat, 1 ≤ k ∧ k ≤ 3 ∧ vi = .int .i64 k ∧ vr = .int .i32 R ∧ Hid (acc s ((s.get! 0).toNat - 224) k = R) ∧ Hid (Conts s k)) (fun _ vi => 3 - (intOf vi).toNat)
  case atStart => exact ⟨1, s[0].toNat - 224, by omega, by omega, rfl, int_at (by omega), hid_ (by rw [Hg0.out]; rfl), hid_ (Conts.one s)⟩
  case round =>
    obtain ⟨k, R, hk1, hk, rfl, rfl, HR, HC⟩ := hrel
    have hRb : R < 64 ^ k := by rw [← HR.out]; exact acc_lt (by have := C.out; omega) k hk1 (by omega) HC.out
    have hp4 : (64 : Nat) ^ k ≤ 16777216 := Nat.le_trans (Nat.pow_le_pow_right (by omega) (show k ≤ 4 by omega)) (Nat.le_refl _)
    have hR4 : R ≤ 16777216 := by omega
    clear hRb hp4
    by_cases hlt : k < 3
    · have hks : k < s.size := by omega
      have hgk := get_eq s k hks
      have bk : s[k].toNat < 256 := UInt8.toNat_lt _
      by_cases hc : 128 ≤ s[k].toNat ∧ s[k].toNat ≤ 191
      · have HC2 := hid_ (HC.out.succ (by rw [hgk]; exact hc))
        have HR2 := hid_ (show acc s ((s.get! 0).toNat - 224) (k + 1) = R * 64 + s[k].toNat - 128 by rw [acc_succ _ _ hk1, HR.out, hgk])
        obtain ⟨hca, hcb⟩ := hc
        clear hgk
        go_wp2
        go_round
        case rel => exact ⟨k + 1, R * 64 + s[k].toNat - 128, by omega, by omega, by go_num, int_at (by omega), HR2, HC2⟩
        case measure => simp [intOf]; omega
      · have Hr := hid_ (runeF_3_not C.out k hk1 hlt (by rw [hgk]; exact hc))
        clear hgk
        by_cases hlo : s[k].toNat < 128
        · go_wp2
          go_ret2
          exact runeIs_mk Hr.out
        · have hhi : 191 < s[k].toNat := by omega
          go_wp2
          go_ret2
          exact runeIs_mk Hr.out
    · obtain rfl : k = 3 := by omega
      have hF := runeF_3 C.out hf' HC.out R HR.out
      cases hfit : fits 2048 R
      · rw [if_neg (by rw [hfit]; decide)] at hF
        have Hr := hid_ hF
        have hno := fits_no hfit
        clear hF hfit
        rcases (show R < 2048 ∨ (2048 ≤ R ∧ 1114111 < R) ∨ (2048 ≤ R ∧ R ≤ 1114111 ∧ 55296 ≤ R ∧ R ≤ 57343) by omega) with hx | ⟨hx, hy⟩ | ⟨hx, hy, hz, hz2⟩
        all_goals
          clear hno
          first
            | (exfalso; omega)
            | (go_wp2
               go_ret2
               exact runeIs_mk Hr.out)
      · rw [if_pos hfit] at hF
        have Hr := hid_ hF
        obtain ⟨hx, hy, hz⟩ := fits_yes hfit
        clear hF hfit
        by_cases hq : 55296 ≤ R
        · have hq2 : 57343 < R := by omega
          clear hz
          go_wp2
          go_ret2
          exact runeIs_mk Hr.out
        · clear hz
          first
            | (exfalso; omega)
            | (go_wp2
               go_ret2
               exact runeIs_mk Hr.out)

set_option maxRecDepth 100000 in
set_option maxHeartbeats 4000000 in
theorem refrune_4 (s : ByteArray) (w : World) (hp : 0 < s.size) (hs : s.size ≤ 9223372036854775807) (h1 : 240 ≤ s[0].toNat) (h2 : s[0].toNat ≤ 244) :
    Calls Tryz.prog 105 #[.string s] w (RuneIs w s) := by
  have e0 : ((s.size : Int) == 0) = false := by rw [beq_eq_false_iff_ne]; omega
  have Hg0 := hid_ (get_eq s 0 hp)
  have C := hid_ (show 240 ≤ (s.get! 0).toNat ∧ (s.get! 0).toNat ≤ 244 by rw [Hg0.out]; exact ⟨h1, h2⟩)
  by_cases hf : s.size < 4
  · have Hr := hid_ (show runeF s = (0, 0) from rune_few4 _ _ _ _ _ C.out hf)
    go_enter Tryz.func105, Tryz.ntmps105
    go_wp2
    go_ret2
    exact runeIs_mk Hr.out
  have hf' : 4 ≤ s.size := by omega
  clear hf
  have t0 : decide ((s[0].toNat : Int) < 128) = false := by simp; omega
  have t1 : decide ((194 : Int) ≤ (s[0].toNat : Int)) = true := by simp; omega
  have t2 : decide ((s[0].toNat : Int) ≤ 223) = false := by simp; omega
  have t3 : decide ((224 : Int) ≤ (s[0].toNat : Int)) = true := by simp; omega
  have t4 : decide ((s[0].toNat : Int) ≤ 239) = false := by simp; omega
  have t5 : decide ((240 : Int) ≤ (s[0].toNat : Int)) = true := by simp; omega
  have t6 : decide ((s[0].toNat : Int) ≤ 244) = true := by simp; omega
  have tn : decide ((s.size : Int) < 4) = false := by simp; omega
  go_enter Tryz.func105, Tryz.ntmps105
  go_wp2
  go_loop [7, 8] (fun vr vi => ∃ k R : Nat, 1 ≤ k ∧ k ≤ 4 ∧ vi = .int .i64 k ∧ vr = .int .i32 R ∧ Hid (acc s ((s.get! 0).toNat - 240) k = R) ∧ Hid (Conts s k)) (fun _ vi => 4 - (intOf vi).toNat)
  case atStart => exact ⟨1, s[0].toNat - 240, by omega, by omega, rfl, int_at (by omega), hid_ (by rw [Hg0.out]; rfl), hid_ (Conts.one s)⟩
  case round =>
    obtain ⟨k, R, hk1, hk, rfl, rfl, HR, HC⟩ := hrel
    have hRb : R < 64 ^ k := by rw [← HR.out]; exact acc_lt (by have := C.out; omega) k hk1 (by omega) HC.out
    have hp4 : (64 : Nat) ^ k ≤ 16777216 := Nat.le_trans (Nat.pow_le_pow_right (by omega) (show k ≤ 4 by omega)) (Nat.le_refl _)
    have hR4 : R ≤ 16777216 := by omega
    clear hRb hp4
    by_cases hlt : k < 4
    · have hks : k < s.size := by omega
      have hgk := get_eq s k hks
      have bk : s[k].toNat < 256 := UInt8.toNat_lt _
      by_cases hc : 128 ≤ s[k].toNat ∧ s[k].toNat ≤ 191
      · have HC2 := hid_ (HC.out.succ (by rw [hgk]; exact hc))
        have HR2 := hid_ (show acc s ((s.get! 0).toNat - 240) (k + 1) = R * 64 + s[k].toNat - 128 by rw [acc_succ _ _ hk1, HR.out, hgk])
        obtain ⟨hca, hcb⟩ := hc
        clear hgk
        go_wp2
        go_round
        case rel => exact ⟨k + 1, R * 64 + s[k].toNat - 128, by omega, by omega, by go_num, int_at (by omega), HR2, HC2⟩
        case measure => simp [intOf]; omega
      · have Hr := hid_ (runeF_4_not C.out k hk1 hlt (by rw [hgk]; exact hc))
        clear hgk
        by_cases hlo : s[k].toNat < 128
        · go_wp2
          go_ret2
          exact runeIs_mk Hr.out
        · have hhi : 191 < s[k].toNat := by omega
          go_wp2
          go_ret2
          exact runeIs_mk Hr.out
    · obtain rfl : k = 4 := by omega
      have hF := runeF_4 C.out hf' HC.out R HR.out
      cases hfit : fits 65536 R
      · rw [if_neg (by rw [hfit]; decide)] at hF
        have Hr := hid_ hF
        have hno := fits_no hfit
        clear hF hfit
        rcases (show R < 65536 ∨ (65536 ≤ R ∧ 1114111 < R) ∨ (65536 ≤ R ∧ R ≤ 1114111 ∧ 55296 ≤ R ∧ R ≤ 57343) by omega) with hx | ⟨hx, hy⟩ | ⟨hx, hy, hz, hz2⟩
        all_goals
          clear hno
          first
            | (exfalso; omega)
            | (go_wp2
               go_ret2
               exact runeIs_mk Hr.out)
      · rw [if_pos hfit] at hF
        have Hr := hid_ hF
        obtain ⟨hx, hy, hz⟩ := fits_yes hfit
        clear hF hfit
        by_cases hq : 55296 ≤ R
        · have hq2 : 57343 < R := by omega
          clear hz
          go_wp2
          go_ret2
          exact runeIs_mk Hr.out
        · clear hz
          first
            | (exfalso; omega)
            | (go_wp2
               go_ret2
               exact runeIs_mk Hr.out)

set_option maxRecDepth 100000 in
theorem refrune_any (s : ByteArray) (w : World) (hs : s.size ≤ 9223372036854775807) :
    Calls Tryz.prog 105 #[.string s] w (RuneIs w s) := by
  by_cases h0 : s.size = 0
  · have Hr := hid_ (show runeF s = (0, 0) by unfold runeF runeN; rw [if_pos h0])
    have e0 : ((s.size : Int) == 0) = true := by simp [h0]
    clear h0
    go_enter Tryz.func105, Tryz.ntmps105
    go_wp2
    go_ret2
    exact runeIs_mk Hr.out
  have hp : 0 < s.size := by omega
  by_cases h1 : s[0].toNat < 128
  · exact refrune_ascii s w hp hs h1
  by_cases h2 : 194 ≤ s[0].toNat ∧ s[0].toNat ≤ 244
  · by_cases c2 : s[0].toNat ≤ 223
    · exact refrune_2 s w hp hs h2.1 c2
    by_cases c3 : s[0].toNat ≤ 239
    · exact refrune_3 s w hp hs (by omega) c3
    · exact refrune_4 s w hp hs (by omega) h2.2
  · exact refrune_else s w hp hs (by omega) h2
end Go.Proofs.YtnpbokbfkdncmaaGreat
