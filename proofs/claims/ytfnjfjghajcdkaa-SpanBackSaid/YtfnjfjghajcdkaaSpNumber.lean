/-
  What the program's number, partedText and bytes.Clone answer.
-/
import Derived.Test.YtfnjfjghajcdkaaSpPut
import Derived.Test.YtfnjfjghajcdkaaRefCutText
namespace Go.Proofs.Ytfnjfjghajcdkaa
open Go.RowKit Ru

theorem numB_or (l : List UInt8) {k : Nat} (hk : k < 8) (hl : k < l.length) : bits BinOp.or IntKind.u64 (IntKind.u64.wrap ((numB l k : Nat) * 256)) (IntKind.u64.wrap (l[k].toNat : Int)) = (numB l (k + 1) : Nat) := by
  have h2 := numB_lt l k
  have h3 : (256 : Nat) ^ k ≤ 256 ^ 7 := Nat.pow_le_pow_right (by omega) (by omega)
  rw [show (256 : Nat) ^ 7 = 72057594037927936 from rfl] at h3
  have e : (l.getD k 0) = l[k] := by rw [List.getD_eq_getElem?_getD, List.getElem?_eq_getElem hl]; rfl
  have h4 : numB l (k + 1) = numB l k * 256 + l[k].toNat := by rw [numB, e]
  have hc := UInt8.toNat_lt l[k]
  rw [wrap_u64, wrap_u64, h4]
  rw [show ((numB l k : Nat) : Int) * 256 % 18446744073709551616 = ((numB l k * 256 : Nat) : Int) by omega, show (l[k].toNat : Int) % 18446744073709551616 = (l[k].toNat : Int) by omega, u64_or_nat _ _ (by omega) (by omega)]
  have h5 := Nat.shiftLeft_add_eq_or_of_lt (b := l[k].toNat) (i := 8) (by omega) (numB l k)
  rw [Nat.shiftLeft_eq] at h5
  rw [← h5]

set_option maxHeartbeats 1000000 in
theorem number_any (A : Option Addr) (n c : Nat) (l : List UInt8) (w : World) (hs : Sl w A n c l) (h8 : 8 ≤ n) :
    Calls Try.prog 45 #[.slice A n c] w fun e w' => e = .returned (.int .u64 (numB l 8 : Nat)) ∧ w = w' := by
  have hle := hs.le
  have hnc := hs.cap
  have Hs := hid_ hs
  have Hlen := hid_ hs.len
  clear hs
  go_enter Try.func45, Try.ntmps45
  go_wp2
  go_loop [3, 9] (fun v i => ∃ (k : Nat) (z : Nat), k ≤ 8 ∧ i = .int .i64 (k : Nat) ∧ v = .int .u64 (z : Nat) ∧ Hid (numB l k = z)) (fun _ i => 8 - (intOf i).toNat)
  case atStart => exact ⟨0, 0, by omega, rfl, rfl, hid_ rfl⟩
  case round =>
    obtain ⟨k, z, hk, rfl, rfl, HZ⟩ := hrel
    by_cases hlt : k < 8
    · have hkl : k < l.length := by rw [Hlen.out]; omega
      have hkn : k < n := by omega
      obtain ⟨b, off, rfl, hc⟩ := Hs.out.holds.at_ hkl
      go_wp2_with fail
      go_round
      case rel => exact ⟨k + 1, numB l (k + 1), by omega, by go_num, int_at (by rw [← HZ.out]; exact numB_or l hlt hkl), hid_ rfl⟩
      case measure => simp [intOf]; omega
    · have hk8 : k = 8 := by omega
      subst hk8
      go_wp2_with fail
      go_ret
      exact ⟨by rw [HZ.out]; rfl, rfl⟩

/-- .. and what is behind stands wherever the bytes stand. -/
def TextIn (B : Nat) (w0 w : World) (l : List UInt8) (e : Ending) (w' : World) : Prop :=
  ∃ A n c, e = .returned (.tuple #[.string (cutTextF l).2.1, .slice A n c, .int .i64 (cutTextF l).1]) ∧ (∀ W, Below B w0 W → Sl W A n c (cutTextF l).2.2) ∧ Below w.heap.size w w'
theorem textIn_none {B : Nat} {w0 w w' : World} {l : List UInt8} {k : Int} (h : cutTextF l = (k, ByteArray.empty, [])) (hb : Below w.heap.size w w') :
    TextIn B w0 w l (.returned (.tuple #[.string ByteArray.empty, .slice none 0 0, .int .i64 k])) w' := ⟨none, 0, 0, by rw [h], by rw [h]; exact fun W _ => Sl.none _, hb⟩
theorem textIn_ok {B : Nat} {w0 w w' : World} {l r : List UInt8} {s : ByteArray} {A : Option Addr} {n c : Nat} (h : cutTextF l = (0, s, r)) (hr : ∀ W, Below B w0 W → Sl W A n c r) (hb : Below w.heap.size w w') :
    TextIn B w0 w l (.returned (.tuple #[.string s, .slice A n c, .int .i64 0])) w' := ⟨A, n, c, by rw [h], by rw [h]; exact hr, hb⟩
set_option maxHeartbeats 1000000 in
theorem partedText_in (B : Nat) (w0 : World) (A : Option Addr) (n c : Nat) (l : List UInt8) (w : World) (hall : ∀ W, Below B w0 W → Sl W A n c l) (hw0 : Below B w0 w) :
    Calls Try.prog 46 #[.slice A n c] w (TextIn B w0 w l) := by
  have hs := hall w hw0
  have Hall := hid_ hall
  have Hw0 := hid_ hw0
  clear hall hw0
  have hle := hs.le
  have hnc := hs.cap
  have hcm := hs.max
  have Hs := hid_ hs
  have Hlen := hid_ hs.len
  by_cases h0 : n = 0
  · have hl : l = [] := List.eq_nil_of_length_eq_zero (by rw [hs.len]; exact h0)
    subst hl
    have e0 : ((n : Int) == 0) = true := by rw [beq_iff_eq]; omega
    have H0 := hid_ h0
    clear h0 hs
    go_enter Try.func46, Try.ntmps46
    go_wp2
    go_ret3
    exact textIn_none cutText_none (Below.refl _ _)
  have hne : l ≠ [] := by rintro rfl; exact h0 hs.len.symm
  have Hne := hid_ hne
  have e0 : ((n : Int) == 0) = false := by rw [beq_eq_false_iff_ne]; omega
  have hpos : 0 < n := by omega
  obtain ⟨b, off, rfl, hc0⟩ := hs.holds.at_ (k := 0) (by rw [hs.len]; exact hpos)
  have hx : l[0]'(by rw [hs.len]; exact hpos) = l.getD 0 0 := by rw [List.getD_eq_getElem?_getD, List.getElem?_eq_getElem]; rfl
  rw [hx, Nat.add_zero] at hc0
  have Hf := hid_ (cutText_form (l := l) hne)
  have Hsh := hid_ (cutText_short (l := l) hne)
  have Hok := hid_ (cutText_ok (l := l) hne)
  generalize l.getD 0 0 = x at *
  have bx := UInt8.toNat_lt x
  clear hs hne hx h0
  by_cases h1 : x.toNat < 1
  · have Hr := hid_ (Hf.out (.inl h1))
    have e1 : ((1 : Int) + (x.toNat : Int) == 1) = true := by rw [beq_iff_eq]; omega
    go_enter Try.func46, Try.ntmps46
    go_wp2
    go_ret3
    exact textIn_none Hr.out (Below.refl _ _)
  have e1 : ((1 : Int) + (x.toNat : Int) == 1) = false := by rw [beq_eq_false_iff_ne]; omega
  by_cases h2 : 32 < x.toNat
  · have Hr := hid_ (Hf.out (.inr h2))
    go_enter Try.func46, Try.ntmps46
    go_wp2
    go_ret3
    exact textIn_none Hr.out (Below.refl _ _)
  by_cases h3 : n - 1 < x.toNat
  · have Hr := hid_ (Hsh.out (by omega) (by rw [Hlen.out]; exact h3))
    have e3 : decide ((n : Int) < 1 + (x.toNat : Int)) = true := decide_eq_true (by omega)
    go_enter Try.func46, Try.ntmps46
    go_wp2
    go_ret3
    exact textIn_none Hr.out (Below.refl _ _)
  have Hr := hid_ (Hok.out (by omega) (by rw [Hlen.out]; exact h3))
  have e3 : decide ((n : Int) < 1 + (x.toNat : Int)) = false := decide_eq_false (by omega)
  generalize hm : x.toNat = m at *
  have Hm := hid_ hm
  clear hm
  have hc1 : ¬ c = 1 := by omega
  have Hd := (Hs.out.upto (m + 1) (by omega)).from_ 1 (by omega)
  rw [cutAt_add (by omega), Option.map_some, add_plain, show m + 1 - 1 = m by omega] at Hd
  have Hcv := fun q => sl_string (Hd.drew q)
  have Hrest := hid_ (fun W hW => (Hall.out W hW).from_ (m + 1) (by omega))
  clear Hd
  generalize strOf ((l.take (m + 1)).drop 1) = t at *
  go_enter Try.func46, Try.ntmps46
  go_wp2_with fail
  go_quiet (fail)
  go_wp2_with fail
  all_goals
    go_ret3
    refine textIn_ok Hr.out (fun W hW => (Hrest.out W hW).at_ ?_ (by omega) (by omega) rfl) (below_drewN (Below.refl _ _) _)
    first | exact cutAt_same (by omega) | (rw [cutAt_add (by omega), Option.map_some, add_plain, show m + 1 = 1 + m by omega])

def ClonePost (w : World) (l : List UInt8) (e : Ending) (w' : World) : Prop := ∃ A n c, e = .returned (.slice A n c) ∧ Own w.heap.size w' A n c l ∧ Below w.heap.size w w'
theorem clonePost_mk {w w' : World} {l : List UInt8} {A : Option Addr} {n c : Nat} (h : Own w.heap.size w' A n c l) (hb : Below w.heap.size w w') : ClonePost w l (.returned (.slice A n c)) w' := ⟨A, n, c, rfl, h, hb⟩
set_option maxHeartbeats 1000000 in
theorem clone_any (A : Option Addr) (n c : Nat) (l : List UInt8) (w : World) (hs : Sl w A n c l) (hn : n ≤ 140737488000000) :
    Calls Try.prog 37 #[.slice A n c] w (ClonePost w l) := by
  have kc := fun (w : World) (a : Option Addr) (n c n' c' : Nat) => Lib.run_eql_slice_nil (P := Try.prog) w 31 5 a n c n' c' Try.underlying31
  rcases A with _ | a
  · have h0 := hs.nil rfl
    have hnc := hs.cap
    obtain rfl : n = 0 := by omega
    have hl : l = [] := List.eq_nil_of_length_eq_zero hs.len
    subst hl
    clear hs
    go_enter Try.func37, Try.ntmps37
    go_wp2_with fail
    go_ret
    exact clonePost_mk (Own.none _ _) (Below.refl _ _)
  · have Hs := hid_ hs
    clear hs
    go_enter Try.func37, Try.ntmps37
    go_wp2_with (at_builtin; refine wpList_bytes rfl (.tmp 5) (.tmp 6) rfl w.heap.size _ 0 _ [] rfl (own_lit w [] #[] rfl 0 rfl (by omega) _ (Nat.le_refl _)) (some a) n c l rfl (Hs.out.below ((Below.refl _ _).alloc (Nat.le_refl _) _)) n l (by omega) rfl (by omega) (by simp) ?_; intro A1 c1 w2 ho' hb'; have Ho2 := hid_ ho'; have Hb2 := hid_ (((Below.refl _ _).alloc (Nat.le_refl _) _).trans hb'); clear ho' hb')
    go_ret
    exact clonePost_mk Ho2.out Hb2.out
end Go.Proofs.Ytfnjfjghajcdkaa
