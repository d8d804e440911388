/-
  What strings.Cut answers to a separator of one byte, the blank.
-/
import Derived.Test.YtlkpofhfkhdheaaGreatDoorShowLine
namespace Go.Proofs.YtlkpofhfkhdheaaGreatDoor
open Go.RowKit Ru

theorem index_not : ∀ {l : List UInt8} {c : UInt8}, c ∉ l → Lib.indexByte l c = -1
  | [], _, _ => rfl
  | b :: l, c, h => by
    have hb : (b == c) = false := by rw [beq_eq_false_iff_ne]; rintro rfl; exact h (by simp)
    unfold Lib.indexByte
    rw [hb, index_not (l := l) (c := c) (fun hc => h (by simp [hc]))]
    rfl
theorem index_at : ∀ {a r : List UInt8} {c : UInt8}, c ∉ a → Lib.indexByte (a ++ c :: r) c = (a.length : Int)
  | [], r, c, _ => by
    show (if (c == c) = true then (0 : Int) else _) = _
    rw [if_pos (by simp)]
    rfl
  | b :: a, r, c, h => by
    have hb : (b == c) = false := by rw [beq_eq_false_iff_ne]; rintro rfl; exact h (by simp)
    have ih := index_at (a := a) (r := r) (c := c) (fun hc => h (by simp [hc]))
    show Lib.indexByte (b :: (a ++ c :: r)) c = _
    unfold Lib.indexByte
    rw [hb, ih, if_neg (by decide), if_neg (by rw [beq_iff_eq]; omega), List.length_cons]
    omega
theorem ba_ext {a b : ByteArray} (h : a.data.toList = b.data.toList) : a = b := by
  apply ByteArray.ext
  exact Array.toList_inj.1 h
/-- A text is a, a byte c, and r. -/
def Parted (s a : ByteArray) (c : UInt8) (r : ByteArray) : Prop := s.data.toList = a.data.toList ++ c :: r.data.toList ∧ c ∉ a.data.toList
theorem parted_size {s a r : ByteArray} {c : UInt8} (h : Parted s a c r) : s.size = a.size + 1 + r.size := by
  have := congrArg List.length h.1
  simp only [List.length_append, List.length_cons, Array.length_toList] at this
  show s.data.size = a.data.size + 1 + r.data.size
  omega
theorem parted_left {s a r : ByteArray} {c : UInt8} (h : Parted s a c r) : s.extract 0 a.size = a := by
  apply ba_ext
  rw [Lib.extract_data]
  rw [h.1]
  rw [List.drop_zero, Nat.sub_zero]
  exact List.take_left' (by simp)
theorem parted_right {s a r : ByteArray} {c : UInt8} (h : Parted s a c r) : s.extract (a.size + 1) s.size = r := by
  apply ba_ext
  rw [Lib.extract_to_end, h.1]
  have : (a.data.toList ++ c :: r.data.toList) = (a.data.toList ++ [c]) ++ r.data.toList := by simp
  rw [this]
  exact List.drop_left' (by simp)

def CutIs (w : World) (a b : ByteArray) (f : Bool) (e : Ending) (w' : World) : Prop := e = .returned (.tuple #[.string a, .string b, .bool f]) ∧ ∃ n, w.drewN n = w'
theorem cutIs_mk {w : World} {a b a' b' : ByteArray} {f : Bool} {n : Nat} (h : a = a') (h2 : b = b') : CutIs w a b f (.returned (.tuple #[.string a', .string b', .bool f])) (w.drewN n) := ⟨by rw [h, h2], n, rfl⟩
set_option maxHeartbeats 2000000 in
theorem cutin_hit (s a r : ByteArray) (w : World) (h : Parted s a 32 r) (hs : s.size ≤ 9223372036854775807) :
    Calls Tryz.prog 69 #[.string s, .string ⟨#[32]⟩] w (CutIs w a r true) := by
  have Hi := hid_ (fun (W : World) => (Sh.stringslite_Index_one s 32 W))
  have Hx := hid_ (show Lib.indexByte s.data.toList 32 = (a.size : Int) by rw [h.1, index_at h.2]; simp)
  have hz := parted_size h
  have Hl := hid_ (parted_left h)
  have Hr := hid_ (parted_right h)
  have c1 : (0 : Int) ≤ (a.size : Int) := by omega
  have c2 : (a.size : Int) ≤ (s.size : Int) := by omega
  have c3 : (0 : Int) ≤ (a.size : Int) + 1 := by omega
  have c4 : (a.size : Int) + 1 ≤ (s.size : Int) := by omega
  have g1 : decide ((0 : Int) ≤ (a.size : Int)) = true := decide_eq_true c1
  clear h hz
  go_enter Tryz.func69, Tryz.ntmps69
  go_wp2_with (go_at_call 66; (with_reducible refine Calls.mono (Hi.out _) ?_); rintro e w' ⟨rfl, rfl⟩; rw [Hx.out])
  go_region
  all_goals
    go_wp2_with fail
    go_ret3
    exact cutIs_mk (n := 1) Hl.out.symm Hr.out.symm
set_option maxHeartbeats 2000000 in
theorem cutin_miss (s : ByteArray) (w : World) (h : (32 : UInt8) ∉ s.data.toList) :
    Calls Tryz.prog 69 #[.string s, .string ⟨#[32]⟩] w (CutIs w s ⟨#[]⟩ false) := by
  have Hi := hid_ (fun (W : World) => (Sh.stringslite_Index_one s 32 W))
  have Hx := hid_ (index_not h)
  clear h
  go_enter Tryz.func69, Tryz.ntmps69
  go_wp2_with (go_at_call 66; (with_reducible refine Calls.mono (Hi.out _) ?_); rintro e w' ⟨rfl, rfl⟩; rw [Hx.out])
  go_ret3
  exact cutIs_mk (n := 0) rfl rfl
set_option maxHeartbeats 1000000 in
theorem cut_of (s a b : ByteArray) (f : Bool) (w : World) (H : Calls Tryz.prog 69 #[.string s, .string ⟨#[32]⟩] w (CutIs w a b f)) :
    Calls Tryz.prog 48 #[.string s, .string ⟨#[32]⟩] w (CutIs w a b f) := by
  have HH := hid_ H
  clear H
  go_enter Tryz.func48, Tryz.ntmps48
  go_wp2_with (go_at_call 69; (with_reducible refine Calls.mono HH.out ?_); rintro e w' ⟨rfl, n, rfl⟩)
  go_ret3
  exact cutIs_mk rfl rfl
theorem cut_hit (s a r : ByteArray) (w : World) (h : Parted s a 32 r) (hs : s.size ≤ 9223372036854775807) :
    Calls Tryz.prog 48 #[.string s, .string ⟨#[32]⟩] w (CutIs w a r true) := cut_of _ _ _ _ _ (cutin_hit s a r w h hs)
theorem cut_miss (s : ByteArray) (w : World) (h : (32 : UInt8) ∉ s.data.toList) :
    Calls Tryz.prog 48 #[.string s, .string ⟨#[32]⟩] w (CutIs w s ⟨#[]⟩ false) := cut_of _ _ _ _ _ (cutin_miss s w h)
end Go.Proofs.YtlkpofhfkhdheaaGreatDoor
